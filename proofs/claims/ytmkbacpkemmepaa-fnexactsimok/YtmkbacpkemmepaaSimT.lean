/- Contracts of the exact laws' functions over machines: szSim, toSim. -/
import Derived.Test.YtmkbacpkemmepaaSimH
import Derived.Deep.Cut
namespace Go.Proofs.Ytmkbacpkemmepaa
open Go.RowKit
set_option linter.unusedVariables false
set_option linter.unusedSimpArgs false

set_option maxHeartbeats 1000000 in
theorem szSim_any (vs vq vo : Value) (ss qs os : List (List Int)) (left : Int) (w : World) (h : SimAt w vs vq vo ss qs os) (h0 : 0 ≤ left) (h1 : left ≤ 1048576) :
    Calls Try.prog 27 #[.agg #[vs, vq, vo], .int .i64 left] w fun e w' => ∃ r, e = .returned (.int .i64 r) ∧ (r = -1 ∨ 0 ≤ r ∧ (ss.length : Int) + qs.length + os.length ≤ left) ∧ Below w.heap.size w w' := by
  obtain ⟨a1, c1, rfl⟩ := rows_slice h.s
  obtain ⟨a2, c2, rfl⟩ := rows_slice h.q
  obtain ⟨a3, c3, rfl⟩ := rows_slice h.o
  have hb : Below w.heap.size w (w.alloc (.cells #[.slice a1 ss.length c1, .slice a2 qs.length c2, .slice a3 os.length c3] 53)) := (Below.refl _ _).alloc (Nat.le_refl _) _
  have H := hide (h.on hb)
  clear h
  go_enter Try.func27, Try.ntmps27
  go_wp2_with fail
  refine (szStateS_any _ ss left _ (unhide H).s h0 h1).mono ?_
  rintro e z1 ⟨r1, rfl, ⟨hr, hl⟩ | ⟨hr, hl⟩, hz⟩
  · obtain rfl := hz.symm
    subst hr
    go_wp2_with fail
    go_ret
    exact ⟨-1, rfl, Or.inl rfl, hb⟩
  · obtain rfl := hz.symm
    have hr1 : r1 ≤ 1048576 := by omega
    have HL := hide hl
    clear hl
    go_wp2_with fail
    refine (szEventS_any _ qs r1 _ (unhide H).q hr hr1).mono ?_
    rintro e z2 ⟨r2, rfl, ⟨hr2, hl2⟩ | ⟨hr2, hl2⟩, hz⟩
    · obtain rfl := hz.symm
      subst hr2
      go_wp2_with fail
      go_ret
      exact ⟨-1, rfl, Or.inl rfl, hb⟩
    · obtain rfl := hz.symm
      have hr3 : r2 ≤ 1048576 := by omega
      have HL2 := hide hl2
      clear hl2
      go_wp2_with fail
      refine (szOutS_any _ os r2 _ (unhide H).o hr2 hr3).mono ?_
      rintro e z3 ⟨r3, rfl, ⟨hr4, hl4⟩ | ⟨hr4, hl4⟩, hz⟩
      · obtain rfl := hz.symm
        subst hr4
        go_wp2_with fail
        go_ret
        exact ⟨-1, rfl, Or.inl rfl, hb⟩
      · obtain rfl := hz.symm
        have HL4 := hide hl4
        clear hl4
        go_wp2_with fail
        go_ret
        exact ⟨r3, rfl, Or.inr ⟨hr4, by have e1 := unhide HL; have e2 := unhide HL2; have e3 := unhide HL4; omega⟩, hb⟩

structure Box3 (w : World) (q : Nat) (a b c : Value) : Prop where
  c0 : w.cell? ⟨q, 0, none⟩ = some a
  c1 : w.cell? ⟨q, 1, none⟩ = some b
  c2 : w.cell? ⟨q, 2, none⟩ = some c
  fz : ∀ i, w.frozen? ⟨q, i, none⟩ = false

theorem Box3.on {w w' : World} {q : Nat} {a b c : Value} (hb : Below w.heap.size w w') (h : Box3 w q a b c) : Box3 w' q a b c :=
  ⟨cell_on hb h.c0, cell_on hb h.c1, cell_on hb h.c2, fun i => by rw [hb.frozen (p := ⟨q, i, none⟩) (show q < w.heap.size from World.block_lt_of_cell? w ⟨q, 0, none⟩ h.c0)]; exact h.fz i⟩

theorem Box3.other {w : World} {q r o : Nat} {a b c : Value} (hq : q ≠ r) (u : Value) (h : Box3 w q a b c) : Box3 (w.setCell ⟨r, o, none⟩ u) q a b c := by
  obtain ⟨c0, c1, c2, fz⟩ := h
  have hq1 : ¬ q = r := hq
  exact ⟨by simp [go_sem, c0, hq1], by simp [go_sem, c1, hq1], by simp [go_sem, c2, hq1], fun i => by simp [go_sem, fz, hq1]⟩

theorem Box3.set0 {w : World} {q : Nat} {a b c : Value} (h : Box3 w q a b c) (u : Value) : Box3 (w.setCell ⟨q, 0, none⟩ u) q u b c := by
  obtain ⟨c0, c1, c2, fz⟩ := h
  exact ⟨by simp [go_sem, c0], by simp [go_sem, c1], by simp [go_sem, c2], fun i => by simp [go_sem, fz]⟩
theorem Box3.set1 {w : World} {q : Nat} {a b c : Value} (h : Box3 w q a b c) (u : Value) : Box3 (w.setCell ⟨q, 1, none⟩ u) q a u c := by
  obtain ⟨c0, c1, c2, fz⟩ := h
  exact ⟨by simp [go_sem, c0], by simp [go_sem, c1], by simp [go_sem, c2], fun i => by simp [go_sem, fz]⟩
theorem Box3.set2 {w : World} {q : Nat} {a b c : Value} (h : Box3 w q a b c) (u : Value) : Box3 (w.setCell ⟨q, 2, none⟩ u) q a b u := by
  obtain ⟨c0, c1, c2, fz⟩ := h
  exact ⟨by simp [go_sem, c0], by simp [go_sem, c1], by simp [go_sem, c2], fun i => by simp [go_sem, fz]⟩

theorem RowsFr.setOther {N t n r o : Nat} {w : World} {v u : Value} {rs : List (List Int)} (hr : r < N) (h : RowsFr N t n w v rs) : RowsFr N t n (w.setCell ⟨r, o, none⟩ u) v rs :=
  h.block (fun g hg _ => Below.heap_setCell w ⟨r, o, none⟩ u g (show g ≠ r by have := (h.blk g hg).1; omega))

theorem apart_of {N t n M t' n' : Nat} {w w' : World} {v v' : Value} {rs rs' : List (List Int)} (h : RowsFr N t n w v rs) (h' : RowsFr M t' n' w' v' rs') (hM : w.heap.size ≤ M) : v.ownBlock = none ∨ v.ownBlock ≠ v'.ownBlock := by
  cases hv : v.ownBlock with
  | none => exact Or.inl rfl
  | some g => exact Or.inr (fun e => by
      have h1 := (h.blk g hv).2
      have h2 := (h'.blk g e.symm).1
      omega)

set_option maxRecDepth 100000 in
set_option maxHeartbeats 1000000 in
theorem toSim_any (vs vq vo : Value) (ss qs os : List (List Int)) (w : World) (h : SimAt w vs vq vo ss qs os) (hs : ss.length ≤ 1048576) (hq : qs.length ≤ 1048576) (ho : os.length ≤ 1048576) :
    Calls Try.prog 29 #[.agg #[vs, vq, vo]] w fun e w' => ∃ us uq uo, e = .returned (.agg #[us, uq, uo]) ∧ SimFr w.heap.size w' us uq uo ss qs os ∧ Below w.heap.size w w' := by
  obtain ⟨a1, c1, rfl⟩ := rows_slice h.s
  obtain ⟨a2, c2, rfl⟩ := rows_slice h.q
  obtain ⟨a3, c3, rfl⟩ := rows_slice h.o
  have hb : Below w.heap.size w (((w.alloc (.cells #[.slice a1 ss.length c1, .slice a2 qs.length c2, .slice a3 os.length c3] 53)).alloc (.cells #[.slice none 0 0, .slice none 0 0, .slice none 0 0] 45)).alloc (.cells #[.slice none 0 0, .slice none 0 0, .slice none 0 0] 45)) := (((Below.refl _ _).alloc (Nat.le_refl _) _).alloc (by simp) _).alloc (by simp; omega) _
  have b0 : Box3 (((w.alloc (.cells #[.slice a1 ss.length c1, .slice a2 qs.length c2, .slice a3 os.length c3] 53)).alloc (.cells #[.slice none 0 0, .slice none 0 0, .slice none 0 0] 45)).alloc (.cells #[.slice none 0 0, .slice none 0 0, .slice none 0 0] 45)) w.heap.size (.slice a1 ss.length c1) (.slice a2 qs.length c2) (.slice a3 os.length c3) := ⟨by simp [go_sem], by simp [go_sem], by simp [go_sem], fun i => by simp [go_sem]⟩
  have b1 : Box3 (((w.alloc (.cells #[.slice a1 ss.length c1, .slice a2 qs.length c2, .slice a3 os.length c3] 53)).alloc (.cells #[.slice none 0 0, .slice none 0 0, .slice none 0 0] 45)).alloc (.cells #[.slice none 0 0, .slice none 0 0, .slice none 0 0] 45)) (w.heap.size + 1) (.slice none 0 0) (.slice none 0 0) (.slice none 0 0) := ⟨by simp [go_sem], by simp [go_sem], by simp [go_sem], fun i => by simp [go_sem]⟩
  have b2 : Box3 (((w.alloc (.cells #[.slice a1 ss.length c1, .slice a2 qs.length c2, .slice a3 os.length c3] 53)).alloc (.cells #[.slice none 0 0, .slice none 0 0, .slice none 0 0] 45)).alloc (.cells #[.slice none 0 0, .slice none 0 0, .slice none 0 0] 45)) (w.heap.size + 1 + 1) (.slice none 0 0) (.slice none 0 0) (.slice none 0 0) := ⟨by simp [go_sem], by simp [go_sem], by simp [go_sem], fun i => by simp [go_sem]⟩
  have hz : (((w.alloc (.cells #[.slice a1 ss.length c1, .slice a2 qs.length c2, .slice a3 os.length c3] 53)).alloc (.cells #[.slice none 0 0, .slice none 0 0, .slice none 0 0] 45)).alloc (.cells #[.slice none 0 0, .slice none 0 0, .slice none 0 0] 45)).heap.size = w.heap.size + 3 := by simp
  have H := hide (h.on hb)
  have H0 := hide h
  have HB := hide hb
  have B0 := hide b0
  have B1 := hide b1
  have B2 := hide b2
  have HZ := hide hz
  clear h hb b0 b1 b2 hz
  go_enter Try.func29, Try.ntmps29
  go_wp2_with fail
  generalize (((w.alloc (.cells #[.slice a1 ss.length c1, .slice a2 qs.length c2, .slice a3 os.length c3] 53)).alloc (.cells #[.slice none 0 0, .slice none 0 0, .slice none 0 0] 45)).alloc (.cells #[.slice none 0 0, .slice none 0 0, .slice none 0 0] 45)) = W at *
  refine (toStateS_any _ ss _ (unhide H).s hs).mono ?_
  rintro e w1 ⟨u1, rfl, hf1, hb1⟩
  obtain ⟨d1, k1, rfl⟩ := rows_slice hf1.at
  have hzl := unhide HZ
  have F1 := hide (RowsFr.setOther (r := w.heap.size + 1 + 1) (o := 0) (u := .slice d1 ss.length k1) (by omega) hf1)
  have hbs : Below W.heap.size W w1 := hb1
  have g2 := ((unhide B2).on hb1)
  have G2 := hide (g2.set0 (.slice d1 ss.length k1))
  have G0 := hide (((unhide B0).on hb1).other (r := w.heap.size + 1 + 1) (o := 0) (by omega) (.slice d1 ss.length k1))
  have G1 := hide (((unhide B1).on hb1).other (r := w.heap.size + 1 + 1) (o := 0) (by omega) (.slice d1 ss.length k1))
  have HB1 : Hid (Below (w.heap.size + 2) W (w1.setCell ⟨w.heap.size + 1 + 1, 0, none⟩ (.slice d1 ss.length k1))) := hide ((hb1.mono (by omega)).setCell (show w.heap.size + 2 ≤ w.heap.size + 1 + 1 by omega) _)
  have hs1 : W.heap.size ≤ (w1.setCell ⟨w.heap.size + 1 + 1, 0, none⟩ (.slice d1 ss.length k1)).heap.size := by simpa using hb1.size
  obtain ⟨m0, m1, m2, mf⟩ := g2
  clear hf1 hb1 B0 B1 B2 hbs hzl
  go_upto_region 3 with fail
  clear m0 m1 m2 mf
  generalize w1.setCell ⟨w.heap.size + 1 + 1, 0, none⟩ (.slice d1 ss.length k1) = W1 at *
  obtain ⟨n0, n1, n2, nf⟩ := unhide G0
  go_wp2_with fail
  clear n0 n1 n2 nf
  have hB1 : Below w.heap.size w W1 := (unhide HB).trans ((unhide HB1).mono (by omega))
  refine (toEventS_any _ qs _ ((unhide H0).q.on hB1) hq).mono ?_
  rintro e w2 ⟨u2, rfl, hf2, hb2⟩
  obtain ⟨d2, k2, rfl⟩ := rows_slice hf2.at
  have hzl := unhide HZ
  have F2 := hide (RowsFr.setOther (r := w.heap.size + 1 + 1) (o := 1) (u := .slice d2 qs.length k2) (by omega) hf2)
  have F12 := hide (RowsFr.setOther (r := w.heap.size + 1 + 1) (o := 1) (u := .slice d2 qs.length k2) (by omega) ((unhide F1).on hb2))
  have A12 := hide (apart_of (unhide F1) hf2 (Nat.le_refl _))
  have g2 := ((unhide G2).on hb2)
  have K2 := hide (g2.set1 (.slice d2 qs.length k2))
  have K0 := hide (((unhide G0).on hb2).other (r := w.heap.size + 1 + 1) (o := 1) (by omega) (.slice d2 qs.length k2))
  have K1 := hide (((unhide G1).on hb2).other (r := w.heap.size + 1 + 1) (o := 1) (by omega) (.slice d2 qs.length k2))
  have HB2 : Hid (Below (w.heap.size + 2) W (w2.setCell ⟨w.heap.size + 1 + 1, 1, none⟩ (.slice d2 qs.length k2))) := hide ((unhide HB1).trans ((hb2.mono (by omega)).setCell (show w.heap.size + 2 ≤ w.heap.size + 1 + 1 by omega) _))
  have hs2 : W1.heap.size ≤ (w2.setCell ⟨w.heap.size + 1 + 1, 1, none⟩ (.slice d2 qs.length k2)).heap.size := by simpa using hb2.size
  obtain ⟨m0, m1, m2, mf⟩ := g2
  clear hf2 hb2 G0 G1 G2 F1 HB1 hB1 hzl
  go_upto_region 4 with fail
  clear m0 m1 m2 mf
  generalize w2.setCell ⟨w.heap.size + 1 + 1, 1, none⟩ (.slice d2 qs.length k2) = W2 at *
  obtain ⟨n0, n1, n2, nf⟩ := unhide K0
  go_wp2_with fail
  clear n0 n1 n2 nf
  have hB2 : Below w.heap.size w W2 := (unhide HB).trans ((unhide HB2).mono (by omega))
  refine (toOutS_any _ os _ ((unhide H0).o.on hB2) ho).mono ?_
  rintro e w3 ⟨u3, rfl, hf3, hb3⟩
  obtain ⟨d3, k3, rfl⟩ := rows_slice hf3.at
  have hzl := unhide HZ
  have L3 := hide (RowsFr.setOther (r := w.heap.size + 1 + 1) (o := 2) (u := .slice d3 os.length k3) (by omega) hf3)
  have L2 := hide (RowsFr.setOther (r := w.heap.size + 1 + 1) (o := 2) (u := .slice d3 os.length k3) (by omega) ((unhide F2).on hb3))
  have L1 := hide (RowsFr.setOther (r := w.heap.size + 1 + 1) (o := 2) (u := .slice d3 os.length k3) (by omega) ((unhide F12).on hb3))
  have A13 := hide (apart_of (unhide F12) hf3 (Nat.le_refl _))
  have A23 := hide (apart_of (unhide F2) hf3 (Nat.le_refl _))
  have g2 := ((unhide K2).on hb3)
  have M2 := hide (g2.set2 (.slice d3 os.length k3))
  have M1 := hide (((unhide K1).on hb3).other (r := w.heap.size + 1 + 1) (o := 2) (by omega) (.slice d3 os.length k3))
  have HB3 : Hid (Below (w.heap.size + 2) W (w3.setCell ⟨w.heap.size + 1 + 1, 2, none⟩ (.slice d3 os.length k3))) := hide ((unhide HB2).trans ((hb3.mono (by omega)).setCell (show w.heap.size + 2 ≤ w.heap.size + 1 + 1 by omega) _))
  have hs3 : W2.heap.size ≤ (w3.setCell ⟨w.heap.size + 1 + 1, 2, none⟩ (.slice d3 os.length k3)).heap.size := by simpa using hb3.size
  obtain ⟨m0, m1, m2, mf⟩ := g2
  clear hf3 hb3 K0 K1 K2 F12 F2 HB2 hB2 hzl
  go_upto_region 5 with fail
  clear m0 m1 m2 mf
  generalize w3.setCell ⟨w.heap.size + 1 + 1, 2, none⟩ (.slice d3 os.length k3) = W3 at *
  have hB3 : Hid (Below w.heap.size w W3) := hide ((unhide HB).trans ((unhide HB3).mono (by omega)))
  have hzl := unhide HZ
  obtain ⟨n0, n1, n2, nf⟩ := unhide M2
  obtain ⟨p0, p1, p2, pf⟩ := unhide M1
  have EN1 := hide (fun u0 u1 u2 => ((((unhide L1).setOther (r := w.heap.size + 1) (o := 0) (u := u0) (by omega)).setOther (r := w.heap.size + 1) (o := 1) (u := u1) (by omega)).setOther (r := w.heap.size + 1) (o := 2) (u := u2) (by omega)).less (M := w.heap.size) (by omega))
  have EN2 := hide (fun u0 u1 u2 => ((((unhide L2).setOther (r := w.heap.size + 1) (o := 0) (u := u0) (by omega)).setOther (r := w.heap.size + 1) (o := 1) (u := u1) (by omega)).setOther (r := w.heap.size + 1) (o := 2) (u := u2) (by omega)).less (M := w.heap.size) (by omega))
  have EN3 := hide (fun u0 u1 u2 => ((((unhide L3).setOther (r := w.heap.size + 1) (o := 0) (u := u0) (by omega)).setOther (r := w.heap.size + 1) (o := 1) (u := u1) (by omega)).setOther (r := w.heap.size + 1) (o := 2) (u := u2) (by omega)).less (M := w.heap.size) (by omega))
  have EN4 := hide (fun u0 u1 u2 => (((unhide hB3).setCell (p := ⟨w.heap.size + 1, 0, none⟩) (show w.heap.size ≤ w.heap.size + 1 by omega) u0).setCell (p := ⟨w.heap.size + 1, 1, none⟩) (show w.heap.size ≤ w.heap.size + 1 by omega) u1).setCell (p := ⟨w.heap.size + 1, 2, none⟩) (show w.heap.size ≤ w.heap.size + 1 by omega) u2)
  clear hzl
  go_wp2_with fail
  refine bodyPost_ret (v := .agg #[.slice d1 ss.length k1, .slice d2 qs.length k2, .slice d3 os.length k3]) (by simp [results, Try.results29, go_sem, p0, p1, p2]) rfl ⟨.slice d1 ss.length k1, .slice d2 qs.length k2, .slice d3 os.length k3, rfl, ⟨(unhide EN1) _ _ _, (unhide EN2) _ _ _, (unhide EN3) _ _ _, unhide A12, unhide A13, unhide A23⟩, (unhide EN4) _ _ _⟩
end Go.Proofs.Ytmkbacpkemmepaa
