/- impl.LaneNow, spec.LaneNow. -/
import Derived.Test.YthekkgndckkoaaaLink1
import Derived.Test.YthekkgndckkoaaaLane3
import Derived.Test.YthekkgndckkoaaaPast3
import Derived.Deep.Cut
namespace Go.Proofs.Ythekkgndckkoaaa
open Go.RowKit
set_option linter.unusedVariables false
set_option linter.unusedSimpArgs false

def lastSt (s : StV) (ps : List PastV) : StV := ((baseQ s :: ps)[ps.length]'(by simp)).st
def laneNow (proc : Int) (s : StV) (ps : List PastV) : StV := if laneOk proc s ps then lastSt s ps else ⟨0, 0, 0⟩

set_option maxRecDepth 100000 in
set_option maxHeartbeats 1000000 in
theorem implLaneNow_any (proc : Int) (s : StV) (v : Value) (ps : List PastV) (w : World) (h : PastsAt w v ps) :
    Calls Try.prog 14 #[laneAgg proc s v] w fun e w' => e = .returned (stAgg (laneNow proc s ps)) ∧ Below w.heap.size w w' := by
  have H := hide h
  obtain ⟨a1, c1, e1, _, hm, hcc⟩ := h
  subst e1
  unfold maxLen at hm
  have HC := hide hcc
  have hb0 : Below w.heap.size w ((w.alloc (.cells #[.int .i64 proc, .int .i64 s.x, .int .i64 s.y, .int .i64 s.c, .slice a1 ps.length c1] 32)).alloc (.cells #[.int .i64 0, .int .i64 0, .int .i64 0] 29)) := ((Below.refl _ _).alloc (Nat.le_refl _) _).alloc (by simp) _
  have cA : CellsAt ((w.alloc (.cells #[.int .i64 proc, .int .i64 s.x, .int .i64 s.y, .int .i64 s.c, .slice a1 ps.length c1] 32)).alloc (.cells #[.int .i64 0, .int .i64 0, .int .i64 0] 29)) w.heap.size 0 (laneCells proc s (.slice a1 ps.length c1)) := (cellsAt_new w (laneCells proc s (.slice a1 ps.length c1)) 32).on ((Below.refl _ _).alloc (Nat.le_refl _) _)
  have rB : ((w.alloc (.cells #[.int .i64 proc, .int .i64 s.x, .int .i64 s.y, .int .i64 s.c, .slice a1 ps.length c1] 32)).alloc (.cells #[.int .i64 0, .int .i64 0, .int .i64 0] 29)).rowIs (w.heap.size + 1) 29 3 (fun i => [Value.int .i64 0, .int .i64 0, .int .i64 0].getD i undef) := by
    have e := row_new (w.alloc (.cells #[.int .i64 proc, .int .i64 s.x, .int .i64 s.y, .int .i64 s.c, .slice a1 ps.length c1] 32)) [.int .i64 0, .int .i64 0, .int .i64 0] 29
    have hs : (w.alloc (.cells #[.int .i64 proc, .int .i64 s.x, .int .i64 s.y, .int .i64 s.c, .slice a1 ps.length c1] 32)).heap.size = w.heap.size + 1 := by simp
    rw [hs] at e
    exact e
  have HA := hide cA
  have HB0 := hide hb0
  have HR := hide rB
  clear hb0 cA rB hcc
  go_enter Try.func14, Try.ntmps14
  go_upto_region 1 with fail
  generalize ((w.alloc (.cells #[.int .i64 proc, .int .i64 s.x, .int .i64 s.y, .int .i64 s.c, .slice a1 ps.length c1] 32)).alloc (.cells #[.int .i64 0, .int .i64 0, .int .i64 0] 29)) = X at *
  have k0 : X.cell? ⟨w.heap.size, 0, none⟩ = some (.int .i64 proc) := (unhide HA) 0 (by simp)
  have k1 : X.cell? ⟨w.heap.size, 1, none⟩ = some (.int .i64 s.x) := (unhide HA) 1 (by simp)
  have k2 : X.cell? ⟨w.heap.size, 2, none⟩ = some (.int .i64 s.y) := (unhide HA) 2 (by simp)
  have k3 : X.cell? ⟨w.heap.size, 3, none⟩ = some (.int .i64 s.c) := (unhide HA) 3 (by simp)
  have k4 : X.cell? ⟨w.heap.size, 4, none⟩ = some (.slice a1 ps.length c1) := (unhide HA) 4 (by simp)
  go_wp2_with fail
  refine (implLaneOk_any proc s _ ps X ((unhide H).on (unhide HB0))).mono ?_
  rintro e w1 ⟨rfl, hb1⟩
  have hB1 := below_then (unhide HB0) hb1
  replace k0 := cell_on hb1 k0
  replace k1 := cell_on hb1 k1
  replace k2 := cell_on hb1 k2
  replace k3 := cell_on hb1 k3
  replace k4 := cell_on hb1 k4
  cases hok : laneOk proc s ps
  · have HOK := hide hok
    clear hok
    have hrx := (unhide HR).of_block ((hb1).block (w.heap.size + 1) (unhide HR).lt)
    have y0 : w1.cell? ⟨w.heap.size + 1, 0, none⟩ = some (.int .i64 0) := hrx.cell (i := 0) (by omega)
    have y1 : w1.cell? ⟨w.heap.size + 1, 1, none⟩ = some (.int .i64 0) := hrx.cell (i := 1) (by omega)
    have y2 : w1.cell? ⟨w.heap.size + 1, 2, none⟩ = some (.int .i64 0) := hrx.cell (i := 2) (by omega)
    have z0 := hrx.frozen 0
    have z1 := hrx.frozen 1
    have z2 := hrx.frozen 2
    clear hrx
    go_wp2_with fail
    refine bodyPost_ret (v := stAgg ⟨0, 0, 0⟩) (by simp [results, Try.results14, go_sem, y0, y1, y2]) rfl ⟨?_, ?_⟩
    · rw [laneNow, unhide HOK]; rfl
    · exact ((hB1.setCell (by simp) _).setCell (by simp) _).setCell (by simp) _
  have HOK := hide hok
  clear hok
  go_wp2_with fail
  refine (linkLane_any proc s _ ps w1 ((unhide H).on hB1)).mono ?_
  rintro e w2 ⟨g, gs, rfl, hch, hb2⟩
  have hB2 := below_then hB1 hb2
  have hb12 := below_then hb1 hb2
  clear k0 k1 k2 k3 k4
  have HCH := hide hch
  clear hch
  go_wp2_with fail
  refine (lastLink_any _ _ g gs _ w2 (unhide HCH)).mono ?_
  rintro e w3 ⟨rfl, hw3⟩
  obtain rfl := hw3.symm
  have hlen := (unhide HCH).len
  simp only [List.length_cons, Nat.add_right_cancel_iff] at hlen
  obtain ⟨l, hl⟩ : ∃ l, l = (g :: gs)[gs.length]'(by simp) := ⟨_, rfl⟩
  have HLK := hide ((unhide HCH).node gs.length (by simp) (by simp; omega))
  rw [← hl]
  rw [← hl] at HLK
  clear hl
  obtain ⟨vs, vo, hc, -⟩ := (unhide HLK).cells
  obtain ⟨t, ht⟩ : ∃ t, t = ((baseQ s :: ps)[gs.length]'(by simp; omega)).st := ⟨_, rfl⟩
  have HT : Hid (t = lastSt s ps) := hide (by rw [ht, lastSt]; simp only [hlen])
  have x7 : w2.cell? ⟨l, 7, none⟩ = some (.int .i64 t.x) := by rw [ht]; exact hc 7 (by simp)
  have x8 : w2.cell? ⟨l, 8, none⟩ = some (.int .i64 t.y) := by rw [ht]; exact hc 8 (by simp)
  have x9 : w2.cell? ⟨l, 9, none⟩ = some (.int .i64 t.c) := by rw [ht]; exact hc 9 (by simp)
  clear hc ht HLK hlen
  have hrx := (unhide HR).of_block ((hb12).block (w.heap.size + 1) (unhide HR).lt)
  have y0 : w2.cell? ⟨w.heap.size + 1, 0, none⟩ = some (.int .i64 0) := hrx.cell (i := 0) (by omega)
  have y1 : w2.cell? ⟨w.heap.size + 1, 1, none⟩ = some (.int .i64 0) := hrx.cell (i := 1) (by omega)
  have y2 : w2.cell? ⟨w.heap.size + 1, 2, none⟩ = some (.int .i64 0) := hrx.cell (i := 2) (by omega)
  have z0 := hrx.frozen 0
  have z1 := hrx.frozen 1
  have z2 := hrx.frozen 2
  clear hrx
  go_wp2_with fail
  refine bodyPost_ret (v := stAgg t) (by simp [results, Try.results14, go_sem, y0, y1, y2]) rfl ⟨?_, ?_⟩
  · rw [laneNow, unhide HOK, unhide HT]; rfl
  · exact ((hB2.setCell (by simp) _).setCell (by simp) _).setCell (by simp) _

set_option maxRecDepth 100000 in
set_option maxHeartbeats 1000000 in
theorem specLaneNow_any (proc : Int) (s : StV) (v : Value) (ps : List PastV) (w : World) (h : PastsAt w v ps) :
    Calls Try.prog 13 #[laneAgg proc s v] w fun e w' => e = .returned (stAgg (laneNow proc s ps)) ∧ Below w.heap.size w w' := by
  have H := hide h
  obtain ⟨a1, c1, e1, _, hm, hcc⟩ := h
  subst e1
  unfold maxLen at hm
  have HC := hide hcc
  have hb0 : Below w.heap.size w ((w.alloc (.cells #[.int .i64 proc, .int .i64 s.x, .int .i64 s.y, .int .i64 s.c, .slice a1 ps.length c1] 32)).alloc (.cells #[.int .i64 0, .int .i64 0, .int .i64 0] 29)) := ((Below.refl _ _).alloc (Nat.le_refl _) _).alloc (by simp) _
  have cA : CellsAt ((w.alloc (.cells #[.int .i64 proc, .int .i64 s.x, .int .i64 s.y, .int .i64 s.c, .slice a1 ps.length c1] 32)).alloc (.cells #[.int .i64 0, .int .i64 0, .int .i64 0] 29)) w.heap.size 0 (laneCells proc s (.slice a1 ps.length c1)) := (cellsAt_new w (laneCells proc s (.slice a1 ps.length c1)) 32).on ((Below.refl _ _).alloc (Nat.le_refl _) _)
  have rB : ((w.alloc (.cells #[.int .i64 proc, .int .i64 s.x, .int .i64 s.y, .int .i64 s.c, .slice a1 ps.length c1] 32)).alloc (.cells #[.int .i64 0, .int .i64 0, .int .i64 0] 29)).rowIs (w.heap.size + 1) 29 3 (fun i => [Value.int .i64 0, .int .i64 0, .int .i64 0].getD i undef) := by
    have e := row_new (w.alloc (.cells #[.int .i64 proc, .int .i64 s.x, .int .i64 s.y, .int .i64 s.c, .slice a1 ps.length c1] 32)) [.int .i64 0, .int .i64 0, .int .i64 0] 29
    have hs : (w.alloc (.cells #[.int .i64 proc, .int .i64 s.x, .int .i64 s.y, .int .i64 s.c, .slice a1 ps.length c1] 32)).heap.size = w.heap.size + 1 := by simp
    rw [hs] at e
    exact e
  have HA := hide cA
  have HB0 := hide hb0
  have HR := hide rB
  clear hb0 cA rB hcc
  go_enter Try.func13, Try.ntmps13
  go_upto_region 1 with fail
  generalize ((w.alloc (.cells #[.int .i64 proc, .int .i64 s.x, .int .i64 s.y, .int .i64 s.c, .slice a1 ps.length c1] 32)).alloc (.cells #[.int .i64 0, .int .i64 0, .int .i64 0] 29)) = X at *
  have k0 : X.cell? ⟨w.heap.size, 0, none⟩ = some (.int .i64 proc) := (unhide HA) 0 (by simp)
  have k1 : X.cell? ⟨w.heap.size, 1, none⟩ = some (.int .i64 s.x) := (unhide HA) 1 (by simp)
  have k2 : X.cell? ⟨w.heap.size, 2, none⟩ = some (.int .i64 s.y) := (unhide HA) 2 (by simp)
  have k3 : X.cell? ⟨w.heap.size, 3, none⟩ = some (.int .i64 s.c) := (unhide HA) 3 (by simp)
  have k4 : X.cell? ⟨w.heap.size, 4, none⟩ = some (.slice a1 ps.length c1) := (unhide HA) 4 (by simp)
  go_wp2_with fail
  refine (specLaneOk_any proc s _ ps X ((unhide H).on (unhide HB0))).mono ?_
  rintro e w1 ⟨rfl, hb1⟩
  have hB1 := below_then (unhide HB0) hb1
  replace k0 := cell_on hb1 k0
  replace k1 := cell_on hb1 k1
  replace k2 := cell_on hb1 k2
  replace k3 := cell_on hb1 k3
  replace k4 := cell_on hb1 k4
  have hrx := (unhide HR).of_block ((hb1).block (w.heap.size + 1) (unhide HR).lt)
  have y0 : w1.cell? ⟨w.heap.size + 1, 0, none⟩ = some (.int .i64 0) := hrx.cell (i := 0) (by omega)
  have y1 : w1.cell? ⟨w.heap.size + 1, 1, none⟩ = some (.int .i64 0) := hrx.cell (i := 1) (by omega)
  have y2 : w1.cell? ⟨w.heap.size + 1, 2, none⟩ = some (.int .i64 0) := hrx.cell (i := 2) (by omega)
  have z0 := hrx.frozen 0
  have z1 := hrx.frozen 1
  have z2 := hrx.frozen 2
  clear hrx
  cases hok : laneOk proc s ps
  · have HOK := hide hok
    clear hok
    go_wp2_with fail
    refine bodyPost_ret (v := stAgg ⟨0, 0, 0⟩) (by simp [results, Try.results13, go_sem, y0, y1, y2]) rfl ⟨?_, ?_⟩
    · rw [laneNow, unhide HOK]; rfl
    · exact ((hB1.setCell (by simp) _).setCell (by simp) _).setCell (by simp) _
  have HOK := hide hok
  clear hok
  by_cases h0 : ps.length = 0
  · have h0I : ((ps.length : Int) == 0) = true := by simp [h0]
    have HT : Hid (s = lastSt s ps) := hide (by
      obtain rfl := List.length_eq_zero_iff.1 h0
      rfl)
    clear h0
    go_wp2_with fail
    refine bodyPost_ret (v := stAgg s) (by simp [results, Try.results13, go_sem, y0, y1, y2]) rfl ⟨?_, ?_⟩
    · rw [laneNow, unhide HOK, if_pos rfl, ← unhide HT]
    · exact ((hB1.setCell (by simp) _).setCell (by simp) _).setCell (by simp) _
  obtain ⟨m, hm1⟩ : ∃ m, ps.length = m + 1 := ⟨ps.length - 1, by omega⟩
  have hml : m < ps.length := by omega
  obtain ⟨b, off, vs, vo, had, hc⟩ : ∃ b off vs vo, a1 = some ⟨b, off, none⟩ ∧ CellsAt w1 b (off + m * 12) (pastCells ps[m] vs vo) := by
    rcases unhide HC with h | ⟨b, off, h1, h2⟩
    · rw [h] at hml; exact absurd hml (Nat.not_lt_zero _)
    · obtain ⟨vs, vo, h3, h4⟩ := h2 m hml
      exact ⟨b, off, vs, vo, h1, h3.on hB1⟩
  subst had
  obtain ⟨t, ht⟩ : ∃ t, t = (ps[m]).st := ⟨_, rfl⟩
  have HT : Hid (t = lastSt s ps) := hide (by
    rw [ht, lastSt]
    simp only [hm1, List.getElem_cons_succ])
  have x7 : w1.cell? ⟨b, off + m * 12 + 7, none⟩ = some (.int .i64 t.x) := by rw [ht]; exact hc 7 (by simp)
  have x8 : w1.cell? ⟨b, off + m * 12 + 8, none⟩ = some (.int .i64 t.y) := by rw [ht]; exact hc 8 (by simp)
  have x9 : w1.cell? ⟨b, off + m * 12 + 9, none⟩ = some (.int .i64 t.c) := by rw [ht]; exact hc 9 (by simp)
  have h0I : ((ps.length : Int) == 0) = false := by simp; exact fun h => h0 (by simp [h])
  have h1I : (ps.length : Int) - 1 = (m : Int) := by omega
  have h2I : (m : Int) < (ps.length : Int) := by omega
  have h3I : (0 : Int) ≤ (m : Int) := by omega
  have HM1 := hide hm1
  clear hc ht hm1 h0
  go_wp2_with fail
  refine bodyPost_ret (v := stAgg t) (by simp [results, Try.results13, go_sem, y0, y1, y2]) rfl ⟨?_, ?_⟩
  · rw [laneNow, unhide HOK, if_pos rfl, ← unhide HT]
  · exact ((hB1.setCell (by simp) _).setCell (by simp) _).setCell (by simp) _
end Go.Proofs.Ythekkgndckkoaaa
