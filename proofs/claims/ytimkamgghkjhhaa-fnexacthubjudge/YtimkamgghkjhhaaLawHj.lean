/- The walk of laws.FnExactHubJudge: it answers true. -/
import Derived.Test.YtimkamgghkjhhaaJudge7
import Derived.Deep.Cut
import Derived.Deep.RegionHeld3
namespace Go.Proofs.Ytimkamgghkjhhaa
open Go.RowKit
set_option linter.unusedVariables false
set_option linter.unusedSimpArgs false

theorem sHj_of {W w' : World} {p q : Nat} {a0 a1 a2 a3 b0 b1 b2 b3 : Value} (h : CellsAt W p 0 [a0, a1, a2, a3]) (k : CellsAt W q 0 [b0, b1, b2, b3]) (hb : Below W.heap.size W w') :
    w'.cell? ⟨p, 0, none⟩ = some a0 ∧ w'.cell? ⟨p, 1, none⟩ = some a1 ∧ w'.cell? ⟨p, 2, none⟩ = some a2 ∧ w'.cell? ⟨p, 3, none⟩ = some a3 ∧ w'.cell? ⟨q, 0, none⟩ = some b0 ∧ w'.cell? ⟨q, 1, none⟩ = some b1 ∧ w'.cell? ⟨q, 2, none⟩ = some b2 ∧ w'.cell? ⟨q, 3, none⟩ = some b3 ∧ Below W.heap.size W w' :=
  ⟨(h.on hb) 0 (by simp), (h.on hb) 1 (by simp), (h.on hb) 2 (by simp), (h.on hb) 3 (by simp), (k.on hb) 0 (by simp), (k.on hb) 1 (by simp), (k.on hb) 2 (by simp), (k.on hb) 3 (by simp), hb⟩

set_option maxRecDepth 100000 in
set_option maxHeartbeats 4000000 in
theorem lawHj_walk (n : HubV) (v1 v2 v3 : Value) (w : World) (h : HubAt w n v1 v2 v3) :
    Calls Try.prog 6 #[hubAgg n v1 v2 v3] w fun e w' => e = .returned (.bool true) ∧ Below w.heap.size w w' := by
  have hqm : ∀ b : Bool, (b != b) = false := by intro b; simp
  have hqz : ∀ z : Int, (z != z) = false := by intro z; simp
  obtain ⟨⟨a0, ac0, e1⟩, ⟨a1, ac1, e2⟩, ⟨a2, ac2, e3⟩⟩ := h.sliced
  subst e1 e2 e3
  have hb0 : Below w.heap.size w (w.alloc (.cells #[.int .i64 n.rd, .slice a0 n.ones.length ac0, .slice a1 n.twos.length ac1, .slice a2 n.outs.length ac2] 46)) := (Below.refl _ _).alloc (Nat.le_refl _) _
  have H := hide (h.on hb0)
  have B0 := hide (cellsAt_new w [.int .i64 n.rd, .slice a0 n.ones.length ac0, .slice a1 n.twos.length ac1, .slice a2 n.outs.length ac2] 46)
  have HB0 := hide hb0
  clear h hb0
  go_enter Try.func6, Try.ntmps6
  go_wp2_with fail
  change Hid (CellsAt (w.alloc (.cells #[.int .i64 n.rd, .slice a0 n.ones.length ac0, .slice a1 n.twos.length ac1, .slice a2 n.outs.length ac2] 46)) _ _ _) at B0
  generalize (w.alloc (.cells #[.int .i64 n.rd, .slice a0 n.ones.length ac0, .slice a1 n.twos.length ac1, .slice a2 n.outs.length ac2] 46)) = W0 at *
  refine (szHub_any n _ _ _ 1048576 _ (unhide H) (by omega) (by omega)).mono ?_
  rintro e w1 ⟨r, rfl, hr, hb1⟩
  rcases hr with rfl | ⟨hr0, hrle, ⟨hl0, hm0⟩, ⟨hl1, hm1⟩, ⟨hl2, hm2⟩⟩
  · go_wp2_with fail
    go_ret
    exact ⟨rfl, below_then (unhide HB0) hb1⟩
  have HL0 : Hid (n.ones.length ≤ 1048576 ∧ ∀ x ∈ n.ones, WordMost 1048576 x) := hide ⟨by omega, hm0⟩
  have HL1 : Hid (n.twos.length ≤ 1048576 ∧ ∀ x ∈ n.twos, WordMost 1048576 x) := hide ⟨by omega, hm1⟩
  have HL2 : Hid (n.outs.length ≤ 1048576 ∧ ∀ x ∈ n.outs, WordMost 1048576 x) := hide ⟨by omega, hm2⟩
  have H1 := hide ((unhide H).on hb1)
  have B1 := hide ((unhide B0).on hb1)
  have HB1 := hide (below_then (unhide HB0) hb1)
  clear hl0 hl1 hl2 hm0 hm1 hm2 hrle H B0 HB0 hb1
  have n0 : w1.cell? ⟨w.heap.size, 0, none⟩ = some (.int .i64 n.rd) := (unhide B1) 0 (by simp)
  have n1 : w1.cell? ⟨w.heap.size, 1, none⟩ = some (.slice a0 n.ones.length ac0) := (unhide B1) 1 (by simp)
  have n2 : w1.cell? ⟨w.heap.size, 2, none⟩ = some (.slice a1 n.twos.length ac1) := (unhide B1) 2 (by simp)
  have n3 : w1.cell? ⟨w.heap.size, 3, none⟩ = some (.slice a2 n.outs.length ac2) := (unhide B1) 3 (by simp)
  go_wp2_with fail
  clear n0 n1 n2 n3
  refine (toHub_any n _ _ _ _ (unhide H1) (unhide HL0) (unhide HL1) (unhide HL2)).mono ?_
  rintro e w2 ⟨u0, u1, u2, rfl, hf2, hb2⟩
  go_wp2_with fail
  refine (specHubJudge_any n _ _ _ _ hf2.at).mono ?_
  rintro e w3 ⟨rfl, hb3⟩
  have hb23 := below_then hb2 hb3
  have H3 := hide ((unhide H1).on hb23)
  have B3 := hide ((unhide B1).on hb23)
  have HB3 := hide (below_then (unhide HB1) hb23)
  clear hf2 hb2 hb3 hb23 H1 B1 HB1
  have n0 : w3.cell? ⟨w.heap.size, 0, none⟩ = some (.int .i64 n.rd) := (unhide B3) 0 (by simp)
  have n1 : w3.cell? ⟨w.heap.size, 1, none⟩ = some (.slice a0 n.ones.length ac0) := (unhide B3) 1 (by simp)
  have n2 : w3.cell? ⟨w.heap.size, 2, none⟩ = some (.slice a1 n.twos.length ac1) := (unhide B3) 2 (by simp)
  have n3 : w3.cell? ⟨w.heap.size, 3, none⟩ = some (.slice a2 n.outs.length ac2) := (unhide B3) 3 (by simp)
  go_wp2_with fail
  clear n0 n1 n2 n3
  refine (toHub_any n _ _ _ _ (unhide H3) (unhide HL0) (unhide HL1) (unhide HL2)).mono ?_
  rintro e w4 ⟨x0, x1, x2, rfl, hf4, hb4⟩
  obtain ⟨⟨d0, dc0, e1⟩, ⟨d1, dc1, e2⟩, ⟨d2, dc2, e3⟩⟩ := hf4.at.sliced
  subst e1 e2 e3
  have hx : Below w4.heap.size w4 (w4.alloc (.cells #[.int .i64 n.rd, .slice d0 n.ones.length dc0, .slice d1 n.twos.length dc1, .slice d2 n.outs.length dc2] 51)) := (Below.refl _ _).alloc (Nat.le_refl _) _
  have hb5 := below_then hb4 hx
  have H5 := hide ((unhide H3).on hb5)
  have B5 := hide ((unhide B3).on hb5)
  have HB5 := hide (below_then (unhide HB3) hb5)
  have F5 := hide (hf4.at.on hx)
  have C5 := hide (cellsAt_new w4 [.int .i64 n.rd, .slice d0 n.ones.length dc0, .slice d1 n.twos.length dc1, .slice d2 n.outs.length dc2] 51)
  clear hf4 hb4 hx hb5 H3 B3 HB3
  go_upto_region 7 with fail
  change Hid (CellsAt (w4.alloc (.cells #[.int .i64 n.rd, .slice d0 n.ones.length dc0, .slice d1 n.twos.length dc1, .slice d2 n.outs.length dc2] 51)) _ _ _) at C5
  generalize (w4.alloc (.cells #[.int .i64 n.rd, .slice d0 n.ones.length dc0, .slice d1 n.twos.length dc1, .slice d2 n.outs.length dc2] 51)) = W5 at *
  generalize w4.heap.size = q5 at *
  have n0 : W5.cell? ⟨q5, 0, none⟩ = some (.int .i64 n.rd) := (unhide C5) 0 (by simp)
  have n1 : W5.cell? ⟨q5, 1, none⟩ = some (.slice d0 n.ones.length dc0) := (unhide C5) 1 (by simp)
  have n2 : W5.cell? ⟨q5, 2, none⟩ = some (.slice d1 n.twos.length dc1) := (unhide C5) 2 (by simp)
  have n3 : W5.cell? ⟨q5, 3, none⟩ = some (.slice d2 n.outs.length dc2) := (unhide C5) 3 (by simp)
  go_wp2_with fail
  clear n0 n1 n2 n3
  refine (implHubJudge_any n _ _ _ _ (unhide F5)).mono ?_
  rintro e w6 ⟨rfl, hb6⟩
  have H6 := hide ((unhide H5).on hb6)
  have B6 := hide ((unhide B5).on hb6)
  have HB6 := hide (below_then (unhide HB5) hb6)
  have F6 := hide ((unhide F5).on hb6)
  have C6 := hide ((unhide C5).on hb6)
  clear hb6 H5 B5 HB5 F5 C5
  generalize judgeG n = gg at *
  generalize judgeL n = bb at *
  go_upto_region 10 with fail
  go_region_held3 (fun w' => w'.cell? ⟨w.heap.size, 0, none⟩ = some (.int .i64 n.rd) ∧ w'.cell? ⟨w.heap.size, 1, none⟩ = some (.slice a0 n.ones.length ac0) ∧ w'.cell? ⟨w.heap.size, 2, none⟩ = some (.slice a1 n.twos.length ac1) ∧ w'.cell? ⟨w.heap.size, 3, none⟩ = some (.slice a2 n.outs.length ac2) ∧ w'.cell? ⟨q5, 0, none⟩ = some (.int .i64 n.rd) ∧ w'.cell? ⟨q5, 1, none⟩ = some (.slice d0 n.ones.length dc0) ∧ w'.cell? ⟨q5, 2, none⟩ = some (.slice d1 n.twos.length dc1) ∧ w'.cell? ⟨q5, 3, none⟩ = some (.slice d2 n.outs.length dc2) ∧ Below w6.heap.size w6 w')
    ((go_split_ands; refine sHj_of (unhide B6) (unhide C6) ?_; first | exact (Below.refl _ _).drew | exact below_then (by assumption) hba | exact below_then (by assumption) hbe))
    (first
      | (go_at_call 18; refine (toHub_any n _ _ _ _ ((unhide H6).on (by go_split_ands; assumption)) (unhide HL0) (unhide HL1) (unhide HL2)).mono ?_; rintro e wa ⟨va0, va1, va2, rfl, hfr, hba⟩; have hBa := below_then (a := w6) (by go_split_ands; assumption) hba)
      | (go_at_call 20; refine (eqHub_any n _ _ _ _ _ _ _ ((unhide F6).on hBa) hfr.at).mono ?_; rintro e we ⟨rfl, hbe⟩; have hBe := below_then hBa hbe))
  go_wp2_with fail
  go_ret
  exact ⟨rfl, below_then (unhide HB6) hBe⟩
end Go.Proofs.Ytimkamgghkjhhaa
