/- spec.LaneNext. -/
import Derived.Test.YthekkgndckkoaaaNext1
namespace Go.Proofs.Ythekkgndckkoaaa
open Go.RowKit
set_option linter.unusedVariables false
set_option linter.unusedSimpArgs false

set_option maxRecDepth 100000 in
set_option maxHeartbeats 2000000 in
theorem specLaneNext_any (proc : Int) (s : StV) (vd v : Value) (ps : List PastV) (es : List EvV) (n : Nat) (w : World) (hn : Same ps es n) (hd : PastsAt w vd ps) (h : RowsAt 7 w v (es.map evRow)) :
    Calls Try.prog 17 #[laneAgg proc s vd, v] w fun e w' => e = .returned (.tuple #[evAgg (laneNext proc s ps es n).1, .bool (laneNext proc s ps es n).2]) ∧ Below w.heap.size w w' := by
  have HD := hide hd
  have HE := hide h
  obtain ⟨a1, c1, e1, _, hm, hcc⟩ := hd
  subst e1
  obtain ⟨ad, cap, rfl, hlc2, hm2, hce⟩ := rows_ev h
  unfold maxLen at hm hm2
  have HC := hide hcc
  have HCE := hide hce
  have hb0 : Below w.heap.size w ((w.alloc (.cells #[.int .i64 proc, .int .i64 s.x, .int .i64 s.y, .int .i64 s.c, .slice a1 ps.length c1] 32)).alloc (.cells #[.int .i64 0, .int .i64 0, .int .i64 0, .int .i64 0, .int .i64 0, .int .i64 0, .int .i64 0] 41)) := ((Below.refl _ _).alloc (Nat.le_refl _) _).alloc (by simp) _
  have cA : CellsAt ((w.alloc (.cells #[.int .i64 proc, .int .i64 s.x, .int .i64 s.y, .int .i64 s.c, .slice a1 ps.length c1] 32)).alloc (.cells #[.int .i64 0, .int .i64 0, .int .i64 0, .int .i64 0, .int .i64 0, .int .i64 0, .int .i64 0] 41)) w.heap.size 0 (laneCells proc s (.slice a1 ps.length c1)) := (cellsAt_new w (laneCells proc s (.slice a1 ps.length c1)) 32).on ((Below.refl _ _).alloc (Nat.le_refl _) _)
  have rB : ((w.alloc (.cells #[.int .i64 proc, .int .i64 s.x, .int .i64 s.y, .int .i64 s.c, .slice a1 ps.length c1] 32)).alloc (.cells #[.int .i64 0, .int .i64 0, .int .i64 0, .int .i64 0, .int .i64 0, .int .i64 0, .int .i64 0] 41)).rowIs (w.heap.size + 1) 41 7 (fun i => (evCells zeroE).getD i undef) := by
    have e := row_new (w.alloc (.cells #[.int .i64 proc, .int .i64 s.x, .int .i64 s.y, .int .i64 s.c, .slice a1 ps.length c1] 32)) (evCells zeroE) 41
    have hs : (w.alloc (.cells #[.int .i64 proc, .int .i64 s.x, .int .i64 s.y, .int .i64 s.c, .slice a1 ps.length c1] 32)).heap.size = w.heap.size + 1 := by simp
    rw [hs] at e
    exact e
  have HA := hide cA
  have HB0 := hide hb0
  have HR := hide rB
  clear hb0 cA rB hcc hce h
  go_enter Try.func17, Try.ntmps17
  go_upto_region 1 with fail
  generalize ((w.alloc (.cells #[.int .i64 proc, .int .i64 s.x, .int .i64 s.y, .int .i64 s.c, .slice a1 ps.length c1] 32)).alloc (.cells #[.int .i64 0, .int .i64 0, .int .i64 0, .int .i64 0, .int .i64 0, .int .i64 0, .int .i64 0] 41)) = X at *
  have k0 : X.cell? ⟨w.heap.size, 0, none⟩ = some (.int .i64 proc) := (unhide HA) 0 (by simp)
  have k1 : X.cell? ⟨w.heap.size, 1, none⟩ = some (.int .i64 s.x) := (unhide HA) 1 (by simp)
  have k2 : X.cell? ⟨w.heap.size, 2, none⟩ = some (.int .i64 s.y) := (unhide HA) 2 (by simp)
  have k3 : X.cell? ⟨w.heap.size, 3, none⟩ = some (.int .i64 s.c) := (unhide HA) 3 (by simp)
  have k4 : X.cell? ⟨w.heap.size, 4, none⟩ = some (.slice a1 ps.length c1) := (unhide HA) 4 (by simp)
  go_wp2_with fail
  refine (specLaneOk_any proc s _ ps X ((unhide HD).on (unhide HB0))).mono ?_
  rintro e w1 ⟨rfl, hb1⟩
  have hB1 := below_then (unhide HB0) hb1
  replace k0 := cell_on hb1 k0
  replace k1 := cell_on hb1 k1
  replace k2 := cell_on hb1 k2
  replace k3 := cell_on hb1 k3
  replace k4 := cell_on hb1 k4
  cases hok : laneOk proc s ps
  · have HOK := hide hok
    clear hok
    have hrx := (unhide HR).of_block ((hb1).block (w.heap.size + 1) (unhide HR).lt)
    have y0 : w1.cell? ⟨w.heap.size + 1, 0, none⟩ = some (.int .i64 0) := hrx.cell (i := 0) (by omega)
    have y1 : w1.cell? ⟨w.heap.size + 1, 1, none⟩ = some (.int .i64 0) := hrx.cell (i := 1) (by omega)
    have y2 : w1.cell? ⟨w.heap.size + 1, 2, none⟩ = some (.int .i64 0) := hrx.cell (i := 2) (by omega)
    have y3 : w1.cell? ⟨w.heap.size + 1, 3, none⟩ = some (.int .i64 0) := hrx.cell (i := 3) (by omega)
    have y4 : w1.cell? ⟨w.heap.size + 1, 4, none⟩ = some (.int .i64 0) := hrx.cell (i := 4) (by omega)
    have y5 : w1.cell? ⟨w.heap.size + 1, 5, none⟩ = some (.int .i64 0) := hrx.cell (i := 5) (by omega)
    have y6 : w1.cell? ⟨w.heap.size + 1, 6, none⟩ = some (.int .i64 0) := hrx.cell (i := 6) (by omega)
    have z0 := hrx.frozen 0
    have z1 := hrx.frozen 1
    have z2 := hrx.frozen 2
    have z3 := hrx.frozen 3
    have z4 := hrx.frozen 4
    have z5 := hrx.frozen 5
    have z6 := hrx.frozen 6
    clear hrx
    go_wp2_with fail
    refine bodyPost_ret (v := .tuple #[evAgg zeroE, .bool false]) (by simp [results, Try.results17, go_sem, y0, y1, y2, y3, y4, y5, y6]) rfl ⟨?_, ?_⟩
    · rw [laneNext, if_neg (by simp [unhide HOK])]
    · exact (((((((hB1.setCell (by simp) _).setCell (by simp) _).setCell (by simp) _).setCell (by simp) _).setCell (by simp) _).setCell (by simp) _).setCell (by simp) _)
  have HOK := hide hok
  clear hok
  go_wp2_with fail
  refine (l21Came_any proc s _ _ es w1 ((unhide HE).on hB1)).mono ?_
  rintro e w2 ⟨rfl, hb2⟩
  have hB2 := below_then hB1 hb2
  have hb12 := below_then hb1 hb2
  replace k0 := cell_on hb2 k0
  replace k1 := cell_on hb2 k1
  replace k2 := cell_on hb2 k2
  replace k3 := cell_on hb2 k3
  replace k4 := cell_on hb2 k4
  cases hce : cameOk proc es
  · have HCO := hide hce
    clear hce
    have hrx := (unhide HR).of_block ((hb12).block (w.heap.size + 1) (unhide HR).lt)
    have y0 : w2.cell? ⟨w.heap.size + 1, 0, none⟩ = some (.int .i64 0) := hrx.cell (i := 0) (by omega)
    have y1 : w2.cell? ⟨w.heap.size + 1, 1, none⟩ = some (.int .i64 0) := hrx.cell (i := 1) (by omega)
    have y2 : w2.cell? ⟨w.heap.size + 1, 2, none⟩ = some (.int .i64 0) := hrx.cell (i := 2) (by omega)
    have y3 : w2.cell? ⟨w.heap.size + 1, 3, none⟩ = some (.int .i64 0) := hrx.cell (i := 3) (by omega)
    have y4 : w2.cell? ⟨w.heap.size + 1, 4, none⟩ = some (.int .i64 0) := hrx.cell (i := 4) (by omega)
    have y5 : w2.cell? ⟨w.heap.size + 1, 5, none⟩ = some (.int .i64 0) := hrx.cell (i := 5) (by omega)
    have y6 : w2.cell? ⟨w.heap.size + 1, 6, none⟩ = some (.int .i64 0) := hrx.cell (i := 6) (by omega)
    have z0 := hrx.frozen 0
    have z1 := hrx.frozen 1
    have z2 := hrx.frozen 2
    have z3 := hrx.frozen 3
    have z4 := hrx.frozen 4
    have z5 := hrx.frozen 5
    have z6 := hrx.frozen 6
    clear hrx
    go_wp2_with fail
    refine bodyPost_ret (v := .tuple #[evAgg zeroE, .bool false]) (by simp [results, Try.results17, go_sem, y0, y1, y2, y3, y4, y5, y6]) rfl ⟨?_, ?_⟩
    · rw [laneNext, if_neg (by simp [unhide HCO])]
    · exact (((((((hB2.setCell (by simp) _).setCell (by simp) _).setCell (by simp) _).setCell (by simp) _).setCell (by simp) _).setCell (by simp) _).setCell (by simp) _)
  have HCO := hide hce
  clear hce
  go_wp2_with fail
  refine (l21Same_any proc s _ _ ps es w2 ((unhide HD).on hB2) ((unhide HE).on hB2)).mono ?_
  rintro e w3 ⟨n', rfl, hs, hb3⟩
  obtain rfl := hs.unique hn
  have hB3 := below_then hB2 hb3
  have hb13 := below_then hb12 hb3
  replace k0 := cell_on hb3 k0
  replace k1 := cell_on hb3 k1
  replace k2 := cell_on hb3 k2
  replace k3 := cell_on hb3 k3
  replace k4 := cell_on hb3 k4
  have hrx := (unhide HR).of_block ((hb13).block (w.heap.size + 1) (unhide HR).lt)
  have y0 : w3.cell? ⟨w.heap.size + 1, 0, none⟩ = some (.int .i64 0) := hrx.cell (i := 0) (by omega)
  have y1 : w3.cell? ⟨w.heap.size + 1, 1, none⟩ = some (.int .i64 0) := hrx.cell (i := 1) (by omega)
  have y2 : w3.cell? ⟨w.heap.size + 1, 2, none⟩ = some (.int .i64 0) := hrx.cell (i := 2) (by omega)
  have y3 : w3.cell? ⟨w.heap.size + 1, 3, none⟩ = some (.int .i64 0) := hrx.cell (i := 3) (by omega)
  have y4 : w3.cell? ⟨w.heap.size + 1, 4, none⟩ = some (.int .i64 0) := hrx.cell (i := 4) (by omega)
  have y5 : w3.cell? ⟨w.heap.size + 1, 5, none⟩ = some (.int .i64 0) := hrx.cell (i := 5) (by omega)
  have y6 : w3.cell? ⟨w.heap.size + 1, 6, none⟩ = some (.int .i64 0) := hrx.cell (i := 6) (by omega)
  have z0 := hrx.frozen 0
  have z1 := hrx.frozen 1
  have z2 := hrx.frozen 2
  have z3 := hrx.frozen 3
  have z4 := hrx.frozen 4
  have z5 := hrx.frozen 5
  have z6 := hrx.frozen 6
  clear hrx
  have hn1 := hs.hp
  have hn2 := hs.he
  have hn0 : (0 : Int) ≤ (n' : Int) := by omega
  clear hn hs
  by_cases hlt : n' < ps.length
  · have hI : (n' : Int) < (ps.length : Int) := by omega
    have HNX : Hid (nextOf ps es n' = (zeroE, false)) := hide (by rw [nextOf, if_neg (by omega)])
    go_wp2_with fail
    refine bodyPost_ret (v := .tuple #[evAgg zeroE, .bool false]) (by simp [results, Try.results17, go_sem, y0, y1, y2, y3, y4, y5, y6]) rfl ⟨?_, ?_⟩
    · rw [laneNext, if_pos ⟨unhide HOK, unhide HCO⟩, unhide HNX]
    · exact (((((((hB3.setCell (by simp) _).setCell (by simp) _).setCell (by simp) _).setCell (by simp) _).setCell (by simp) _).setCell (by simp) _).setCell (by simp) _)
  have hI : ¬ (n' : Int) < (ps.length : Int) := by omega
  by_cases hlt2 : n' < es.length
  rotate_left
  · have hI2 : (es.length : Int) ≤ (n' : Int) := by omega
    have HNX : Hid (nextOf ps es n' = (zeroE, false)) := hide (by rw [nextOf, if_pos (by omega), List.getElem?_eq_none (by omega)])
    go_wp2_with fail
    refine bodyPost_ret (v := .tuple #[evAgg zeroE, .bool false]) (by simp [results, Try.results17, go_sem, y0, y1, y2, y3, y4, y5, y6]) rfl ⟨?_, ?_⟩
    · rw [laneNext, if_pos ⟨unhide HOK, unhide HCO⟩, unhide HNX]
    · exact (((((((hB3.setCell (by simp) _).setCell (by simp) _).setCell (by simp) _).setCell (by simp) _).setCell (by simp) _).setCell (by simp) _).setCell (by simp) _)
  have hI2 : ¬ (es.length : Int) ≤ (n' : Int) := by omega
  have hI3 : (n' : Int) < (es.length : Int) := by omega
  obtain ⟨x, hx⟩ : ∃ x, x = es[n'] := ⟨_, rfl⟩
  have HNX : Hid (nextOf ps es n' = (x, true)) := hide (by rw [nextOf, if_pos (by omega), List.getElem?_eq_getElem hlt2, hx])
  obtain ⟨b, off, had, hcc⟩ := (unhide HCE) (by omega)
  have hc := (hcc n' hlt2).on hB3
  rw [← hx] at hc
  subst had
  have x0 : w3.cell? ⟨b, off + n' * 7, none⟩ = some (.int .i64 x.time) := (hc) 0 (by simp)
  have x1 : w3.cell? ⟨b, off + n' * 7 + 1, none⟩ = some (.int .i64 x.to) := (hc) 1 (by simp)
  have x2 : w3.cell? ⟨b, off + n' * 7 + 2, none⟩ = some (.int .i64 x.src) := (hc) 2 (by simp)
  have x3 : w3.cell? ⟨b, off + n' * 7 + 3, none⟩ = some (.int .i64 x.count) := (hc) 3 (by simp)
  have x4 : w3.cell? ⟨b, off + n' * 7 + 4, none⟩ = some (.int .i64 x.n) := (hc) 4 (by simp)
  have x5 : w3.cell? ⟨b, off + n' * 7 + 5, none⟩ = some (.int .i64 x.kind) := (hc) 5 (by simp)
  have x6 : w3.cell? ⟨b, off + n' * 7 + 6, none⟩ = some (.int .i64 x.arg) := (hc) 6 (by simp)
  clear hcc hc hx
  go_wp2_with fail
  refine bodyPost_ret (v := .tuple #[evAgg x, .bool true]) (by simp [results, Try.results17, go_sem, y0, y1, y2, y3, y4, y5, y6]) rfl ⟨?_, ?_⟩
  · rw [laneNext, if_pos ⟨unhide HOK, unhide HCO⟩, unhide HNX]
  · exact (((((((hB3.setCell (by simp) _).setCell (by simp) _).setCell (by simp) _).setCell (by simp) _).setCell (by simp) _).setCell (by simp) _).setCell (by simp) _)
end Go.Proofs.Ythekkgndckkoaaa
