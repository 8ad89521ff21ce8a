/- The walk of laws.FnExactLaneNext: it answers true. -/
import Derived.Test.YthekkgndckkoaaaNext2
import Derived.Test.YthekkgndckkoaaaLawLo
import Derived.Test.YthekkgndckkoaaaOpenLane
namespace Go.Proofs.Ythekkgndckkoaaa
open Go.RowKit
set_option linter.unusedVariables false
set_option linter.unusedSimpArgs false

set_option maxRecDepth 100000 in
set_option maxHeartbeats 2000000 in
theorem lawLaneNext_walk (proc : Int) (s : StV) (v vc : Value) (ps : List PastV) (es : List EvV) (w : World) (h : PastsAt w v ps) (hc : RowsAt 7 w vc (es.map evRow)) :
    Calls Try.prog 5 #[laneAgg proc s v, vc] w fun e w' => e = .returned (.bool true) ∧ Below w.heap.size w w' := by
  have hqm : ∀ b : Bool, (b != b) = false := by intro b; simp
  obtain ⟨a1, c1, rfl⟩ := h.sliced
  obtain ⟨ad, cap, rfl, -⟩ := rows_ev hc
  obtain ⟨n, hn⟩ := same_exists ps es
  have HN := hide hn
  clear hn
  have hb0 : Below w.heap.size w (w.alloc (.cells #[.int .i64 proc, .int .i64 s.x, .int .i64 s.y, .int .i64 s.c, .slice a1 ps.length c1] 26)) := (Below.refl _ _).alloc (Nat.le_refl _) _
  have HB := hide hb0
  have H := hide (h.on hb0)
  have G := hide (hc.on hb0)
  have B := hide (cellsAt_new w (laneCells proc s (.slice a1 ps.length c1)) 26)
  clear h hc hb0
  go_enter Try.func5, Try.ntmps5
  go_wp2_with fail
  generalize (w.alloc (.cells #[.int .i64 proc, .int .i64 s.x, .int .i64 s.y, .int .i64 s.c, .slice a1 ps.length c1] 26)) = W0 at *
  refine (szLane_any proc s _ ps 1048576 _ (unhide H) (by omega) (by omega)).mono ?_
  rintro e w1 ⟨r, rfl, hr, hb1⟩
  rcases hr with rfl | ⟨hr0, hr1, hl, hlp⟩
  · go_wp2_with fail
    go_ret
    exact ⟨rfl, below_then (unhide HB) hb1⟩
  have HL1 : Hid (ps.length ≤ 1048576) := hide (by omega)
  have HL2 : Hid (∀ p ∈ ps, p.sends.length ≤ 1048576 ∧ p.outs.length ≤ 1048576) := hide (fun p hp => by have := hlp p hp; omega)
  replace HB := hide (below_then (unhide HB) hb1)
  replace H := hide ((unhide H).on hb1)
  replace G := hide ((unhide G).on hb1)
  replace B := hide ((unhide B).on hb1)
  clear hl hlp hb1
  go_wp2_with fail
  refine (szEventS_any _ _ r w1 (unhide G) hr0 hr1).mono ?_
  rintro e w2 ⟨r2, rfl, hr2, hw2⟩
  obtain rfl := hw2.symm
  rw [List.length_map] at hr2
  rcases hr2 with ⟨rfl, _⟩ | ⟨hr20, hr21⟩
  · go_wp2_with fail
    go_ret
    exact ⟨rfl, unhide HB⟩
  have HL3 : Hid (es.length ≤ 1048576) := hide (by omega)
  clear hr1 hr21
  have n0 : w1.cell? ⟨w.heap.size, 0, none⟩ = some (.int .i64 proc) := (unhide B) 0 (by simp)
  have n1 : w1.cell? ⟨w.heap.size, 1, none⟩ = some (.int .i64 s.x) := (unhide B) 1 (by simp)
  have n2 : w1.cell? ⟨w.heap.size, 2, none⟩ = some (.int .i64 s.y) := (unhide B) 2 (by simp)
  have n3 : w1.cell? ⟨w.heap.size, 3, none⟩ = some (.int .i64 s.c) := (unhide B) 3 (by simp)
  have n4 : w1.cell? ⟨w.heap.size, 4, none⟩ = some (.slice a1 ps.length c1) := (unhide B) 4 (by simp)
  go_wp2_with fail
  clear n0 n1 n2 n3 n4
  refine (toLane_any proc s _ ps _ (unhide H) (unhide HL1) (unhide HL2)).mono ?_
  rintro e w2 ⟨v2, rfl, hf2, hb2⟩
  replace HB := hide (below_then (unhide HB) hb2)
  replace H := hide ((unhide H).on hb2)
  replace G := hide ((unhide G).on hb2)
  replace B := hide ((unhide B).on hb2)
  have F2 := hide (hf2.at)
  clear hf2 hb2
  go_wp2_with fail
  refine (toEventS_any _ _ w2 (unhide G) (by rw [List.length_map]; exact unhide HL3)).mono ?_
  rintro e w3 ⟨v3, rfl, hf3, hb3⟩
  replace HB := hide (below_then (unhide HB) hb3)
  replace H := hide ((unhide H).on hb3)
  replace G := hide ((unhide G).on hb3)
  replace B := hide ((unhide B).on hb3)
  replace F2 := hide ((unhide F2).on hb3)
  have F3 := hide (hf3.at)
  clear hf3 hb3
  go_wp2_with fail
  refine (specLaneNext_any proc s _ _ ps es n w3 (unhide HN) (unhide F2) (unhide F3)).mono ?_
  rintro e w4 ⟨rfl, hb4⟩
  clear F2 F3
  replace HB := hide (below_then (unhide HB) hb4)
  replace H := hide ((unhide H).on hb4)
  replace G := hide ((unhide G).on hb4)
  replace B := hide ((unhide B).on hb4)
  clear hb4
  obtain ⟨t, ht⟩ : ∃ t, t = (laneNext proc s ps es n).1 := ⟨_, rfl⟩
  obtain ⟨o, ho⟩ : ∃ o, o = (laneNext proc s ps es n).2 := ⟨_, rfl⟩
  rw [← ht, ← ho]
  have HT := hide ht
  have HO := hide ho
  clear ht ho
  have hx : Below w4.heap.size w4 (w4.alloc (.cells #[.int .i64 t.time, .int .i64 t.to, .int .i64 t.src, .int .i64 t.count, .int .i64 t.n, .int .i64 t.kind, .int .i64 t.arg] 41)) := (Below.refl _ _).alloc (Nat.le_refl _) _
  replace HB := hide (below_then (unhide HB) hx)
  replace H := hide ((unhide H).on hx)
  replace G := hide ((unhide G).on hx)
  replace B := hide ((unhide B).on hx)
  have D := hide (cellsAt_new w4 (evCells t) 41)
  clear hx
  go_upto_region 9 with fail
  generalize (w4.alloc (.cells #[.int .i64 t.time, .int .i64 t.to, .int .i64 t.src, .int .i64 t.count, .int .i64 t.n, .int .i64 t.kind, .int .i64 t.arg] 41)) = W5 at *
  generalize w4.heap.size = q5 at *
  have n0 : W5.cell? ⟨w.heap.size, 0, none⟩ = some (.int .i64 proc) := (unhide B) 0 (by simp)
  have n1 : W5.cell? ⟨w.heap.size, 1, none⟩ = some (.int .i64 s.x) := (unhide B) 1 (by simp)
  have n2 : W5.cell? ⟨w.heap.size, 2, none⟩ = some (.int .i64 s.y) := (unhide B) 2 (by simp)
  have n3 : W5.cell? ⟨w.heap.size, 3, none⟩ = some (.int .i64 s.c) := (unhide B) 3 (by simp)
  have n4 : W5.cell? ⟨w.heap.size, 4, none⟩ = some (.slice a1 ps.length c1) := (unhide B) 4 (by simp)
  go_wp2_with fail
  clear n0 n1 n2 n3 n4
  refine (toLane_any proc s _ ps _ (unhide H) (unhide HL1) (unhide HL2)).mono ?_
  rintro e w6 ⟨v6, rfl, hf6, hb6⟩
  obtain ⟨d1, k1, rfl⟩ := hf6.at.sliced
  replace HB := hide (below_then (unhide HB) hb6)
  replace H := hide ((unhide H).on hb6)
  replace G := hide ((unhide G).on hb6)
  replace B := hide ((unhide B).on hb6)
  replace D := hide ((unhide D).on hb6)
  have F := hide (hf6.at)
  clear hf6 hb6
  have hx : Below w6.heap.size w6 (w6.alloc (.cells #[.int .i64 proc, .int .i64 s.x, .int .i64 s.y, .int .i64 s.c, .slice d1 ps.length k1] 32)) := (Below.refl _ _).alloc (Nat.le_refl _) _
  replace HB := hide (below_then (unhide HB) hx)
  replace H := hide ((unhide H).on hx)
  replace G := hide ((unhide G).on hx)
  replace B := hide ((unhide B).on hx)
  replace D := hide ((unhide D).on hx)
  replace F := hide ((unhide F).on hx)
  have C := hide (cellsAt_new w6 (laneCells proc s (.slice d1 ps.length k1)) 32)
  clear hx
  go_upto_region 10 with fail
  generalize (w6.alloc (.cells #[.int .i64 proc, .int .i64 s.x, .int .i64 s.y, .int .i64 s.c, .slice d1 ps.length k1] 32)) = W7 at *
  generalize w6.heap.size = q7 at *
  go_wp2_with fail
  refine (toEventS_any _ _ W7 (unhide G) (by rw [List.length_map]; exact unhide HL3)).mono ?_
  rintro e w8 ⟨v8, rfl, hf8, hb8⟩
  obtain ⟨ad8, cap8, rfl, -⟩ := rows_ev hf8.at
  replace HB := hide (below_then (unhide HB) hb8)
  replace H := hide ((unhide H).on hb8)
  replace G := hide ((unhide G).on hb8)
  replace B := hide ((unhide B).on hb8)
  replace D := hide ((unhide D).on hb8)
  replace F := hide ((unhide F).on hb8)
  replace C := hide ((unhide C).on hb8)
  have K := hide (hf8.at)
  clear hf8 hb8
  have n0 : w8.cell? ⟨q7, 0, none⟩ = some (.int .i64 proc) := (unhide C) 0 (by simp)
  have n1 : w8.cell? ⟨q7, 1, none⟩ = some (.int .i64 s.x) := (unhide C) 1 (by simp)
  have n2 : w8.cell? ⟨q7, 2, none⟩ = some (.int .i64 s.y) := (unhide C) 2 (by simp)
  have n3 : w8.cell? ⟨q7, 3, none⟩ = some (.int .i64 s.c) := (unhide C) 3 (by simp)
  have n4 : w8.cell? ⟨q7, 4, none⟩ = some (.slice d1 ps.length k1) := (unhide C) 4 (by simp)
  go_wp2_with fail
  clear n0 n1 n2 n3 n4
  refine (implLaneNext_any proc s _ _ ps es n w8 (unhide HN) (unhide F) (unhide K)).mono ?_
  rintro e w9 ⟨rfl, hb9⟩
  replace HB := hide (below_then (unhide HB) hb9)
  replace H := hide ((unhide H).on hb9)
  replace G := hide ((unhide G).on hb9)
  replace B := hide ((unhide B).on hb9)
  replace D := hide ((unhide D).on hb9)
  replace F := hide ((unhide F).on hb9)
  replace C := hide ((unhide C).on hb9)
  replace K := hide ((unhide K).on hb9)
  clear hb9
  rw [← unhide HT, ← unhide HO]
  clear HT HO
  have hx : Below w9.heap.size w9 (w9.alloc (.cells #[.int .i64 t.time, .int .i64 t.to, .int .i64 t.src, .int .i64 t.count, .int .i64 t.n, .int .i64 t.kind, .int .i64 t.arg] 41)) := (Below.refl _ _).alloc (Nat.le_refl _) _
  replace HB := hide (below_then (unhide HB) hx)
  replace H := hide ((unhide H).on hx)
  replace G := hide ((unhide G).on hx)
  replace B := hide ((unhide B).on hx)
  replace D := hide ((unhide D).on hx)
  replace F := hide ((unhide F).on hx)
  replace C := hide ((unhide C).on hx)
  replace K := hide ((unhide K).on hx)
  have E := hide (cellsAt_new w9 (evCells t) 41)
  clear hx
  go_upto_region 12 with fail
  generalize (w9.alloc (.cells #[.int .i64 t.time, .int .i64 t.to, .int .i64 t.src, .int .i64 t.count, .int .i64 t.n, .int .i64 t.kind, .int .i64 t.arg] 41)) = W10 at *
  generalize w9.heap.size = q10 at *
  have n0 : W10.cell? ⟨q5, 0, none⟩ = some (.int .i64 t.time) := (unhide D) 0 (by simp)
  have n1 : W10.cell? ⟨q5, 1, none⟩ = some (.int .i64 t.to) := (unhide D) 1 (by simp)
  have n2 : W10.cell? ⟨q5, 2, none⟩ = some (.int .i64 t.src) := (unhide D) 2 (by simp)
  have n3 : W10.cell? ⟨q5, 3, none⟩ = some (.int .i64 t.count) := (unhide D) 3 (by simp)
  have n4 : W10.cell? ⟨q5, 4, none⟩ = some (.int .i64 t.n) := (unhide D) 4 (by simp)
  have n5 : W10.cell? ⟨q5, 5, none⟩ = some (.int .i64 t.kind) := (unhide D) 5 (by simp)
  have n6 : W10.cell? ⟨q5, 6, none⟩ = some (.int .i64 t.arg) := (unhide D) 6 (by simp)
  have m0 : W10.cell? ⟨q10, 0, none⟩ = some (.int .i64 t.time) := (unhide E) 0 (by simp)
  have m1 : W10.cell? ⟨q10, 1, none⟩ = some (.int .i64 t.to) := (unhide E) 1 (by simp)
  have m2 : W10.cell? ⟨q10, 2, none⟩ = some (.int .i64 t.src) := (unhide E) 2 (by simp)
  have m3 : W10.cell? ⟨q10, 3, none⟩ = some (.int .i64 t.count) := (unhide E) 3 (by simp)
  have m4 : W10.cell? ⟨q10, 4, none⟩ = some (.int .i64 t.n) := (unhide E) 4 (by simp)
  have m5 : W10.cell? ⟨q10, 5, none⟩ = some (.int .i64 t.kind) := (unhide E) 5 (by simp)
  have m6 : W10.cell? ⟨q10, 6, none⟩ = some (.int .i64 t.arg) := (unhide E) 6 (by simp)
  go_wp2_with fail
  clear n0 n1 n2 n3 n4 n5 n6
  clear m0 m1 m2 m3 m4 m5 m6
  refine (eqEvent_any _ _ _ _ _ _ _ _).mono ?_
  rintro e w11 ⟨rfl, hb11⟩
  replace HB := hide (below_then (unhide HB) hb11)
  replace H := hide ((unhide H).on hb11)
  replace G := hide ((unhide G).on hb11)
  replace B := hide ((unhide B).on hb11)
  replace D := hide ((unhide D).on hb11)
  replace F := hide ((unhide F).on hb11)
  replace C := hide ((unhide C).on hb11)
  replace K := hide ((unhide K).on hb11)
  replace E := hide ((unhide E).on hb11)
  clear hb11
  go_upto_region 14 with fail
  go_region_held3 (fun w' => w'.cell? ⟨w.heap.size, 0, none⟩ = some (.int .i64 proc) ∧ w'.cell? ⟨w.heap.size, 1, none⟩ = some (.int .i64 s.x) ∧ w'.cell? ⟨w.heap.size, 2, none⟩ = some (.int .i64 s.y) ∧ w'.cell? ⟨w.heap.size, 3, none⟩ = some (.int .i64 s.c) ∧ w'.cell? ⟨w.heap.size, 4, none⟩ = some (.slice a1 ps.length c1) ∧ w'.cell? ⟨q7, 0, none⟩ = some (.int .i64 proc) ∧ w'.cell? ⟨q7, 1, none⟩ = some (.int .i64 s.x) ∧ w'.cell? ⟨q7, 2, none⟩ = some (.int .i64 s.y) ∧ w'.cell? ⟨q7, 3, none⟩ = some (.int .i64 s.c) ∧ w'.cell? ⟨q7, 4, none⟩ = some (.slice d1 ps.length k1) ∧ Below w11.heap.size w11 w')
    ((go_split_ands; refine sLo_of (unhide B) (unhide C) ?_; first | exact (Below.refl _ _).drew | exact below_then (by assumption) hba | exact below_then (by assumption) hbe))
    (first
      | (go_at_call 10; refine (toLane_any proc s _ ps _ ((unhide H).on (by go_split_ands; assumption)) (unhide HL1) (unhide HL2)).mono ?_; rintro e wa ⟨va, rfl, hfr, hba⟩; have hBa := below_then (a := w11) (by go_split_ands; assumption) hba)
      | (go_at_call 12; refine (eqLane_any proc s _ _ ps _ ((unhide F).on hBa) hfr.at).mono ?_; rintro e we ⟨rfl, hbe⟩; have hBe := below_then hBa hbe))
  replace HB := hide (below_then (unhide HB) hBe)
  replace H := hide ((unhide H).on hBe)
  replace G := hide ((unhide G).on hBe)
  replace B := hide ((unhide B).on hBe)
  replace D := hide ((unhide D).on hBe)
  replace F := hide ((unhide F).on hBe)
  replace C := hide ((unhide C).on hBe)
  replace K := hide ((unhide K).on hBe)
  replace E := hide ((unhide E).on hBe)
  clear hBe
  go_wp2_with fail
  refine (toEventS_any _ _ _ (unhide G) (by rw [List.length_map]; exact unhide HL3)).mono ?_
  rintro e w12 ⟨v12, rfl, hf12, hb12⟩
  replace HB := hide (below_then (unhide HB) hb12)
  replace H := hide ((unhide H).on hb12)
  replace G := hide ((unhide G).on hb12)
  replace B := hide ((unhide B).on hb12)
  replace D := hide ((unhide D).on hb12)
  replace F := hide ((unhide F).on hb12)
  replace C := hide ((unhide C).on hb12)
  replace K := hide ((unhide K).on hb12)
  replace E := hide ((unhide E).on hb12)
  go_wp2_with fail
  refine (eqEventS_any _ _ _ w12 (unhide K) hf12.at).mono ?_
  rintro e w13 ⟨rfl, hb13⟩
  go_wp2_with fail
  go_ret
  exact ⟨rfl, below_then (unhide HB) hb13⟩

theorem lawLaneNext_rows (proc : Int) (s : StV) (v vc : Value) (ps : List PastV) (rs : List (List Int)) (w : World) (h : PastsAt w v ps) (hc : RowsAt 7 w vc rs) (hl : ∀ r ∈ rs, r.length = 7) :
    Calls Try.prog 5 #[laneAgg proc s v, vc] w fun e w' => e = .returned (.bool true) ∧ Below w.heap.size w w' := by
  obtain ⟨es, rfl⟩ := tyEv rs hl
  exact lawLaneNext_walk proc s v vc ps es w h hc
end Go.Proofs.Ythekkgndckkoaaa
