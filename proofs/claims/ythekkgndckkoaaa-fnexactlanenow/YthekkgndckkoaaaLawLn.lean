/- The walk of laws.FnExactLaneNow: it answers true. -/
import Derived.Test.YthekkgndckkoaaaNow1
import Derived.Test.YthekkgndckkoaaaLawLo
namespace Go.Proofs.Ythekkgndckkoaaa
open Go.RowKit
set_option linter.unusedVariables false
set_option linter.unusedSimpArgs false

set_option maxRecDepth 100000 in
set_option maxHeartbeats 2000000 in
theorem lawLaneNow_walk (proc : Int) (s : StV) (v : Value) (ps : List PastV) (w : World) (h : PastsAt w v ps) :
    Calls Try.prog 4 #[laneAgg proc s v] w fun e w' => e = .returned (.bool true) ∧ Below w.heap.size w w' := by
  obtain ⟨a1, c1, rfl⟩ := h.sliced
  have hb0 : Below w.heap.size w (w.alloc (.cells #[.int .i64 proc, .int .i64 s.x, .int .i64 s.y, .int .i64 s.c, .slice a1 ps.length c1] 26)) := (Below.refl _ _).alloc (Nat.le_refl _) _
  have HB := hide hb0
  have H := hide (h.on hb0)
  have B := hide (cellsAt_new w (laneCells proc s (.slice a1 ps.length c1)) 26)
  clear h hb0
  go_enter Try.func4, Try.ntmps4
  go_wp2_with fail
  generalize (w.alloc (.cells #[.int .i64 proc, .int .i64 s.x, .int .i64 s.y, .int .i64 s.c, .slice a1 ps.length c1] 26)) = W0 at *
  refine (szLane_any proc s _ ps 1048576 _ (unhide H) (by omega) (by omega)).mono ?_
  rintro e w1 ⟨r, rfl, hr, hb1⟩
  rcases hr with rfl | ⟨hr0, hr1, hl, hlp⟩
  · go_wp2_with fail
    go_ret
    exact ⟨rfl, below_then (unhide HB) hb1⟩
  have HL1 : Hid (ps.length ≤ 1048576) := hide (by omega)
  have HL2 : Hid (∀ p ∈ ps, p.sends.length ≤ 1048576 ∧ p.outs.length ≤ 1048576) := hide (fun p hp => by have := hlp p hp; omega)
  replace HB := hide (below_then (unhide HB) hb1)
  replace H := hide ((unhide H).on hb1)
  replace B := hide ((unhide B).on hb1)
  clear hl hlp hr1 hb1
  have n0 : w1.cell? ⟨w.heap.size, 0, none⟩ = some (.int .i64 proc) := (unhide B) 0 (by simp)
  have n1 : w1.cell? ⟨w.heap.size, 1, none⟩ = some (.int .i64 s.x) := (unhide B) 1 (by simp)
  have n2 : w1.cell? ⟨w.heap.size, 2, none⟩ = some (.int .i64 s.y) := (unhide B) 2 (by simp)
  have n3 : w1.cell? ⟨w.heap.size, 3, none⟩ = some (.int .i64 s.c) := (unhide B) 3 (by simp)
  have n4 : w1.cell? ⟨w.heap.size, 4, none⟩ = some (.slice a1 ps.length c1) := (unhide B) 4 (by simp)
  go_wp2_with fail
  clear n0 n1 n2 n3 n4
  refine (toLane_any proc s _ ps _ (unhide H) (unhide HL1) (unhide HL2)).mono ?_
  rintro e w2 ⟨v2, rfl, hf2, hb2⟩
  go_wp2_with fail
  refine (specLaneNow_any proc s _ ps _ hf2.at).mono ?_
  rintro e w3 ⟨rfl, hb3⟩
  have hb23 := below_then hb2 hb3
  replace HB := hide (below_then (unhide HB) hb23)
  replace H := hide ((unhide H).on hb23)
  replace B := hide ((unhide B).on hb23)
  clear hf2 hb2 hb3 hb23
  obtain ⟨t, ht⟩ : ∃ t, t = laneNow proc s ps := ⟨_, rfl⟩
  rw [← ht]
  have HT := hide ht
  clear ht
  have hx : Below w3.heap.size w3 (w3.alloc (.cells #[.int .i64 t.x, .int .i64 t.y, .int .i64 t.c] 29)) := (Below.refl _ _).alloc (Nat.le_refl _) _
  replace HB := hide (below_then (unhide HB) hx)
  replace H := hide ((unhide H).on hx)
  replace B := hide ((unhide B).on hx)
  have D := hide (cellsAt_new w3 (stCells t) 29)
  clear hx
  go_upto_region 6 with fail
  generalize (w3.alloc (.cells #[.int .i64 t.x, .int .i64 t.y, .int .i64 t.c] 29)) = W4 at *
  generalize w3.heap.size = q4 at *
  have n0 : W4.cell? ⟨w.heap.size, 0, none⟩ = some (.int .i64 proc) := (unhide B) 0 (by simp)
  have n1 : W4.cell? ⟨w.heap.size, 1, none⟩ = some (.int .i64 s.x) := (unhide B) 1 (by simp)
  have n2 : W4.cell? ⟨w.heap.size, 2, none⟩ = some (.int .i64 s.y) := (unhide B) 2 (by simp)
  have n3 : W4.cell? ⟨w.heap.size, 3, none⟩ = some (.int .i64 s.c) := (unhide B) 3 (by simp)
  have n4 : W4.cell? ⟨w.heap.size, 4, none⟩ = some (.slice a1 ps.length c1) := (unhide B) 4 (by simp)
  go_wp2_with fail
  clear n0 n1 n2 n3 n4
  refine (toLane_any proc s _ ps _ (unhide H) (unhide HL1) (unhide HL2)).mono ?_
  rintro e w5 ⟨v5, rfl, hf5, hb5⟩
  obtain ⟨d1, k1, rfl⟩ := hf5.at.sliced
  replace HB := hide (below_then (unhide HB) hb5)
  replace H := hide ((unhide H).on hb5)
  replace B := hide ((unhide B).on hb5)
  replace D := hide ((unhide D).on hb5)
  have F := hide (hf5.at)
  clear hf5 hb5
  have hx : Below w5.heap.size w5 (w5.alloc (.cells #[.int .i64 proc, .int .i64 s.x, .int .i64 s.y, .int .i64 s.c, .slice d1 ps.length k1] 32)) := (Below.refl _ _).alloc (Nat.le_refl _) _
  replace HB := hide (below_then (unhide HB) hx)
  replace H := hide ((unhide H).on hx)
  replace B := hide ((unhide B).on hx)
  replace D := hide ((unhide D).on hx)
  replace F := hide ((unhide F).on hx)
  have C := hide (cellsAt_new w5 (laneCells proc s (.slice d1 ps.length k1)) 32)
  clear hx
  go_upto_region 7 with fail
  generalize (w5.alloc (.cells #[.int .i64 proc, .int .i64 s.x, .int .i64 s.y, .int .i64 s.c, .slice d1 ps.length k1] 32)) = W6 at *
  generalize w5.heap.size = q6 at *
  have n0 : W6.cell? ⟨q6, 0, none⟩ = some (.int .i64 proc) := (unhide C) 0 (by simp)
  have n1 : W6.cell? ⟨q6, 1, none⟩ = some (.int .i64 s.x) := (unhide C) 1 (by simp)
  have n2 : W6.cell? ⟨q6, 2, none⟩ = some (.int .i64 s.y) := (unhide C) 2 (by simp)
  have n3 : W6.cell? ⟨q6, 3, none⟩ = some (.int .i64 s.c) := (unhide C) 3 (by simp)
  have n4 : W6.cell? ⟨q6, 4, none⟩ = some (.slice d1 ps.length k1) := (unhide C) 4 (by simp)
  go_wp2_with fail
  clear n0 n1 n2 n3 n4
  refine (implLaneNow_any proc s _ ps _ (unhide F)).mono ?_
  rintro e w7 ⟨rfl, hb7⟩
  replace HB := hide (below_then (unhide HB) hb7)
  replace H := hide ((unhide H).on hb7)
  replace B := hide ((unhide B).on hb7)
  replace D := hide ((unhide D).on hb7)
  replace F := hide ((unhide F).on hb7)
  replace C := hide ((unhide C).on hb7)
  clear hb7
  rw [← unhide HT]
  clear HT
  have hx : Below w7.heap.size w7 (w7.alloc (.cells #[.int .i64 t.x, .int .i64 t.y, .int .i64 t.c] 29)) := (Below.refl _ _).alloc (Nat.le_refl _) _
  replace HB := hide (below_then (unhide HB) hx)
  replace H := hide ((unhide H).on hx)
  replace B := hide ((unhide B).on hx)
  replace D := hide ((unhide D).on hx)
  replace F := hide ((unhide F).on hx)
  replace C := hide ((unhide C).on hx)
  have E := hide (cellsAt_new w7 (stCells t) 29)
  clear hx
  go_upto_region 8 with fail
  generalize (w7.alloc (.cells #[.int .i64 t.x, .int .i64 t.y, .int .i64 t.c] 29)) = W8 at *
  generalize w7.heap.size = q8 at *
  have n0 : W8.cell? ⟨q4, 0, none⟩ = some (.int .i64 t.x) := (unhide D) 0 (by simp)
  have n1 : W8.cell? ⟨q4, 1, none⟩ = some (.int .i64 t.y) := (unhide D) 1 (by simp)
  have n2 : W8.cell? ⟨q4, 2, none⟩ = some (.int .i64 t.c) := (unhide D) 2 (by simp)
  have m0 : W8.cell? ⟨q8, 0, none⟩ = some (.int .i64 t.x) := (unhide E) 0 (by simp)
  have m1 : W8.cell? ⟨q8, 1, none⟩ = some (.int .i64 t.y) := (unhide E) 1 (by simp)
  have m2 : W8.cell? ⟨q8, 2, none⟩ = some (.int .i64 t.c) := (unhide E) 2 (by simp)
  go_wp2_with fail
  clear n0 n1 n2
  clear m0 m1 m2
  refine (eqState_any _ _ _ _).mono ?_
  rintro e w9 ⟨rfl, hb9⟩
  replace HB := hide (below_then (unhide HB) hb9)
  replace H := hide ((unhide H).on hb9)
  replace B := hide ((unhide B).on hb9)
  replace D := hide ((unhide D).on hb9)
  replace F := hide ((unhide F).on hb9)
  replace C := hide ((unhide C).on hb9)
  replace E := hide ((unhide E).on hb9)
  clear hb9
  go_upto_region 10 with fail
  go_region_held3 (fun w' => w'.cell? ⟨w.heap.size, 0, none⟩ = some (.int .i64 proc) ∧ w'.cell? ⟨w.heap.size, 1, none⟩ = some (.int .i64 s.x) ∧ w'.cell? ⟨w.heap.size, 2, none⟩ = some (.int .i64 s.y) ∧ w'.cell? ⟨w.heap.size, 3, none⟩ = some (.int .i64 s.c) ∧ w'.cell? ⟨w.heap.size, 4, none⟩ = some (.slice a1 ps.length c1) ∧ w'.cell? ⟨q6, 0, none⟩ = some (.int .i64 proc) ∧ w'.cell? ⟨q6, 1, none⟩ = some (.int .i64 s.x) ∧ w'.cell? ⟨q6, 2, none⟩ = some (.int .i64 s.y) ∧ w'.cell? ⟨q6, 3, none⟩ = some (.int .i64 s.c) ∧ w'.cell? ⟨q6, 4, none⟩ = some (.slice d1 ps.length k1) ∧ Below w9.heap.size w9 w')
    ((go_split_ands; refine sLo_of (unhide B) (unhide C) ?_; first | exact (Below.refl _ _).drew | exact below_then (by assumption) hba | exact below_then (by assumption) hbe))
    (first
      | (go_at_call 10; refine (toLane_any proc s _ ps _ ((unhide H).on (by go_split_ands; assumption)) (unhide HL1) (unhide HL2)).mono ?_; rintro e wa ⟨va, rfl, hfr, hba⟩; have hBa := below_then (a := w9) (by go_split_ands; assumption) hba)
      | (go_at_call 12; refine (eqLane_any proc s _ _ ps _ ((unhide F).on hBa) hfr.at).mono ?_; rintro e we ⟨rfl, hbe⟩; have hBe := below_then hBa hbe))
  go_wp2_with fail
  go_ret
  exact ⟨rfl, below_then (unhide HB) hBe⟩
end Go.Proofs.Ythekkgndckkoaaa
