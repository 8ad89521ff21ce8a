/- The walk of laws.FnExactSimOk: it answers true. -/
import Derived.Test.YtmkbacpkemmepaaHold5
import Derived.Test.YtmkbacpkemmepaaSimT
import Derived.Deep.Cut
import Derived.Deep.RegionHeld3
namespace Go.Proofs.Ytmkbacpkemmepaa
open Go.RowKit
set_option linter.unusedVariables false
set_option linter.unusedSimpArgs false

theorem Box3.new (w : World) (a b c : Value) (t : TypeId) : Box3 (w.alloc (.cells #[a, b, c] t)) w.heap.size a b c :=
  ⟨by simp [go_sem], by simp [go_sem], by simp [go_sem], fun i => by simp [go_sem]⟩

theorem sSo_of {W w' : World} {p q : Nat} {a b c x y z : Value} (h : Box3 W p a b c) (k : Box3 W q x y z) (hb : Below W.heap.size W w') :
    w'.cell? ⟨p, 0, none⟩ = some a ∧ w'.cell? ⟨p, 1, none⟩ = some b ∧ w'.cell? ⟨p, 2, none⟩ = some c ∧ w'.cell? ⟨q, 0, none⟩ = some x ∧ w'.cell? ⟨q, 1, none⟩ = some y ∧ w'.cell? ⟨q, 2, none⟩ = some z ∧ Below W.heap.size W w' :=
  ⟨(h.on hb).c0, (h.on hb).c1, (h.on hb).c2, (k.on hb).c0, (k.on hb).c1, (k.on hb).c2, hb⟩

set_option maxRecDepth 100000 in
set_option maxHeartbeats 2000000 in
theorem lawSimOk_walk (vs vq vo : Value) (ss : List StV) (qs : List EvV) (os : List OutV) (w : World) (h : SimAt w vs vq vo (ss.map stR) (qs.map evRow) (os.map outRow)) :
    Calls Try.prog 8 #[.agg #[vs, vq, vo]] w fun e w' => e = .returned (.bool true) ∧ Below w.heap.size w w' := by
  have hqm : ∀ b : Bool, (b != b) = false := by intro b; simp
  obtain ⟨a1, c1, rfl⟩ := rows_slice h.s
  obtain ⟨a2, c2, rfl⟩ := rows_slice h.q
  obtain ⟨a3, c3, rfl⟩ := rows_slice h.o
  simp only [List.length_map] at h ⊢
  have hb0 : Below w.heap.size w (w.alloc (.cells #[.slice a1 ss.length c1, .slice a2 qs.length c2, .slice a3 os.length c3] 53)) := (Below.refl _ _).alloc (Nat.le_refl _) _
  have H := hide (h.on hb0)
  have B0 := hide (Box3.new w (.slice a1 ss.length c1) (.slice a2 qs.length c2) (.slice a3 os.length c3) 53)
  have HB0 := hide hb0
  clear h hb0
  go_enter Try.func8, Try.ntmps8
  go_wp2_with fail
  generalize w.alloc (.cells #[.slice a1 ss.length c1, .slice a2 qs.length c2, .slice a3 os.length c3] 53) = W0 at *
  refine (szSim_any _ _ _ _ _ _ 1048576 _ (unhide H) (by omega) (by omega)).mono ?_
  rintro e w1 ⟨r, rfl, hr, hb1⟩
  rcases hr with rfl | ⟨hr0, hl⟩
  · go_wp2_with fail
    go_ret
    exact ⟨rfl, below_then (unhide HB0) hb1⟩
  have hl1 : (ss.map stR).length ≤ 1048576 := by omega
  have hl2 : (qs.map evRow).length ≤ 1048576 := by omega
  have hl3 : (os.map outRow).length ≤ 1048576 := by omega
  have HL1 := hide hl1
  have HL2 := hide hl2
  have HL3 := hide hl3
  have H1 := hide ((unhide H).on hb1)
  have B1 := hide ((unhide B0).on hb1)
  have HB1 := hide (below_then (unhide HB0) hb1)
  clear hl hl1 hl2 hl3 H B0 HB0 hb1
  obtain ⟨n0, n1, n2, nf⟩ := unhide B1
  go_wp2_with fail
  clear n0 n1 n2 nf
  refine (toSim_any _ _ _ _ _ _ _ (unhide H1) (unhide HL1) (unhide HL2) (unhide HL3)).mono ?_
  rintro e w2 ⟨us, uq, uo, rfl, hf2, hb2⟩
  go_wp2_with fail
  refine (specSimOk_any _ _ _ ss qs os _ hf2.at).mono ?_
  rintro e w3 ⟨rfl, hb3⟩
  have hb23 := below_then hb2 hb3
  have H3 := hide ((unhide H1).on hb23)
  have B3 := hide ((unhide B1).on hb23)
  have HB3 := hide (below_then (unhide HB1) hb23)
  clear hf2 hb2 hb3 hb23 H1 B1 HB1
  obtain ⟨n0, n1, n2, nf⟩ := unhide B3
  go_wp2_with fail
  clear n0 n1 n2 nf
  refine (toSim_any _ _ _ _ _ _ _ (unhide H3) (unhide HL1) (unhide HL2) (unhide HL3)).mono ?_
  rintro e w4 ⟨xs, xq, xo, rfl, hf4, hb4⟩
  obtain ⟨d1, k1, rfl⟩ := rows_slice hf4.s.at
  obtain ⟨d2, k2, rfl⟩ := rows_slice hf4.q.at
  obtain ⟨d3, k3, rfl⟩ := rows_slice hf4.o.at
  simp only [List.length_map] at hf4 ⊢
  have hx : Below w4.heap.size w4 (w4.alloc (.cells #[.slice d1 ss.length k1, .slice d2 qs.length k2, .slice d3 os.length k3] 45)) := (Below.refl _ _).alloc (Nat.le_refl _) _
  have hb5 := below_then hb4 hx
  have H5 := hide ((unhide H3).on hb5)
  have B5 := hide ((unhide B3).on hb5)
  have HB5 := hide (below_then (unhide HB3) hb5)
  have F5 := hide (hf4.at.on hx)
  have C5 := hide (Box3.new w4 (.slice d1 ss.length k1) (.slice d2 qs.length k2) (.slice d3 os.length k3) 45)
  clear hf4 hb4 hx hb5 H3 B3 HB3
  go_upto_region 7 with fail
  generalize w4.alloc (.cells #[.slice d1 ss.length k1, .slice d2 qs.length k2, .slice d3 os.length k3] 45) = W5 at *
  generalize w4.heap.size = q5 at *
  obtain ⟨n0, n1, n2, nf⟩ := unhide C5
  go_wp2_with fail
  clear n0 n1 n2 nf
  refine (implSimOk_any _ _ _ ss qs os _ (unhide F5)).mono ?_
  rintro e w6 ⟨rfl, hb6⟩
  have H6 := hide ((unhide H5).on hb6)
  have B6 := hide ((unhide B5).on hb6)
  have HB6 := hide (below_then (unhide HB5) hb6)
  have F6 := hide ((unhide F5).on hb6)
  have C6 := hide ((unhide C5).on hb6)
  clear hb6 H5 B5 HB5 F5 C5
  generalize simOk ss qs os = b at *
  go_upto_region 10 with fail
  go_region_held3 (fun w' => w'.cell? ⟨w.heap.size, 0, none⟩ = some (.slice a1 ss.length c1) ∧ w'.cell? ⟨w.heap.size, 1, none⟩ = some (.slice a2 qs.length c2) ∧ w'.cell? ⟨w.heap.size, 2, none⟩ = some (.slice a3 os.length c3) ∧ w'.cell? ⟨q5, 0, none⟩ = some (.slice d1 ss.length k1) ∧ w'.cell? ⟨q5, 1, none⟩ = some (.slice d2 qs.length k2) ∧ w'.cell? ⟨q5, 2, none⟩ = some (.slice d3 os.length k3) ∧ Below w6.heap.size w6 w')
    ((go_split_ands; refine sSo_of (unhide B6) (unhide C6) ?_; first | exact (Below.refl _ _).drew | exact below_then (by assumption) hba | exact below_then (by assumption) hbe))
    (first
      | (go_at_call 29; refine (toSim_any _ _ _ _ _ _ _ ((unhide H6).on (by go_split_ands; assumption)) (unhide HL1) (unhide HL2) (unhide HL3)).mono ?_; rintro e wa ⟨za, zb, zc, rfl, hfr, hba⟩; have hBa := below_then (a := w6) (by go_split_ands; assumption) hba)
      | (go_at_call 24; refine (eqSim_any _ _ _ _ _ _ _ _ _ _ ((unhide F6).on hBa) hfr.at).mono ?_; rintro e we ⟨rfl, hbe⟩; have hBe := below_then hBa hbe))
  go_wp2_with fail
  go_ret
  exact ⟨rfl, below_then (unhide HB6) hBe⟩
end Go.Proofs.Ytmkbacpkemmepaa
