/- impl.SlotDo. -/
import Derived.Test.YtocgfngcgekciaaSDoP
namespace Go.Proofs.Ytocgfngcgekciaa
open Go.RowKit
set_option linter.unusedVariables false
set_option linter.unusedSimpArgs false


def SlotDone (d : DiskV) (w : World) (e : Ending) (w' : World) : Prop := ∃ va vb us vs, e = .returned (diskAgg d va vb) ∧ DiskOwn w.heap.size w' d va vb us vs ∧ Below w.heap.size w w'

theorem bareGrid (N : Nat) (w : World) : GridOwn N w (.slice none 0 0) (fun _ => undef) [] :=
  ⟨⟨none, 0, rfl, Nat.le_refl _, Nat.zero_le _, Or.inl rfl⟩, fun i h => absurd h (Nat.not_lt_zero _), fun i h => absurd h (Nat.not_lt_zero _), fun i j _ h => absurd h (Nat.not_lt_zero _), fun b h => by simp [Value.ownBlock] at h⟩

set_option maxRecDepth 100000 in
set_option maxHeartbeats 4000000 in
theorem implSlotDo_any (d : DiskV) (va vb : Value) (v : Value) (es : List StepV) (most : Int) (w : World) (h : DiskAt w d va vb) (hs : StepsAt w v es) (hlen : es.length ≤ 1048576) :
    Calls Try.prog 19 #[diskAgg d va vb, v, .int .i64 most] w (SlotDone (slotDoD d es most) w) := by
  have hcap := hs
  obtain ⟨a1, c1, rfl⟩ := h.a.sliced
  obtain ⟨a2, c2, rfl⟩ := h.b.sliced
  obtain ⟨ae, ce, rfl⟩ := hs.sliced
  have HCE := hide hcap.caps
  clear hcap
  have hb0 : Below w.heap.size w ((w.alloc (.cells #[.int .i64 d.a.num, .int .i64 d.a.cnt, .slice a1 d.a.rows.length c1, .int .i64 d.b.num, .int .i64 d.b.cnt, .slice a2 d.b.rows.length c2] 27)).alloc (.cells #[.int .i64 0, .int .i64 0, .slice none 0 0, .int .i64 0, .int .i64 0, .slice none 0 0] 27)) := ((Below.refl _ _).alloc (Nat.le_refl _) _).alloc (by simp) _
  have K := hide (show CellsAt ((w.alloc (.cells #[.int .i64 d.a.num, .int .i64 d.a.cnt, .slice a1 d.a.rows.length c1, .int .i64 d.b.num, .int .i64 d.b.cnt, .slice a2 d.b.rows.length c2] 27)).alloc (.cells #[.int .i64 0, .int .i64 0, .slice none 0 0, .int .i64 0, .int .i64 0, .slice none 0 0] 27)) w.heap.size 0 (diskCells d (.slice a1 d.a.rows.length c1) (.slice a2 d.b.rows.length c2)) from (cellsAt_new w (diskCells d (.slice a1 d.a.rows.length c1) (.slice a2 d.b.rows.length c2)) 27).on ((Below.refl _ _).alloc (Nat.le_refl _) _))
  have R : Hid (((w.alloc (.cells #[.int .i64 d.a.num, .int .i64 d.a.cnt, .slice a1 d.a.rows.length c1, .int .i64 d.b.num, .int .i64 d.b.cnt, .slice a2 d.b.rows.length c2] 27)).alloc (.cells #[.int .i64 0, .int .i64 0, .slice none 0 0, .int .i64 0, .int .i64 0, .slice none 0 0] 27)).rowIs (w.heap.size + 1) 27 6 (fun i => [Value.int .i64 0, .int .i64 0, .slice none 0 0, .int .i64 0, .int .i64 0, .slice none 0 0].getD i undef)) := hide (by
    have e := row_new (w.alloc (.cells #[.int .i64 d.a.num, .int .i64 d.a.cnt, .slice a1 d.a.rows.length c1, .int .i64 d.b.num, .int .i64 d.b.cnt, .slice a2 d.b.rows.length c2] 27)) [.int .i64 0, .int .i64 0, .slice none 0 0, .int .i64 0, .int .i64 0, .slice none 0 0] 27
    have hs : (w.alloc (.cells #[.int .i64 d.a.num, .int .i64 d.a.cnt, .slice a1 d.a.rows.length c1, .int .i64 d.b.num, .int .i64 d.b.cnt, .slice a2 d.b.rows.length c2] 27)).heap.size = w.heap.size + 1 := by simp
    rw [hs] at e
    exact e)
  have HSZ : Hid (((w.alloc (.cells #[.int .i64 d.a.num, .int .i64 d.a.cnt, .slice a1 d.a.rows.length c1, .int .i64 d.b.num, .int .i64 d.b.cnt, .slice a2 d.b.rows.length c2] 27)).alloc (.cells #[.int .i64 0, .int .i64 0, .slice none 0 0, .int .i64 0, .int .i64 0, .slice none 0 0] 27)).heap.size = w.heap.size + 2) := hide (by simp)
  have H := hide (h.on hb0)
  have HS := hide (hs.on hb0)
  have HB := hide hb0
  have HLE := hide hlen
  clear h hb0 hs hlen
  go_enter Try.func19, Try.ntmps19
  go_upto_region 1 with fail
  generalize ((w.alloc (.cells #[.int .i64 d.a.num, .int .i64 d.a.cnt, .slice a1 d.a.rows.length c1, .int .i64 d.b.num, .int .i64 d.b.cnt, .slice a2 d.b.rows.length c2] 27)).alloc (.cells #[.int .i64 0, .int .i64 0, .slice none 0 0, .int .i64 0, .int .i64 0, .slice none 0 0] 27)) = W at *
  have m0 : W.cell? ⟨w.heap.size, 0, none⟩ = some (.int .i64 d.a.num) := (unhide K) 0 (by simp)
  have m1 : W.cell? ⟨w.heap.size, 1, none⟩ = some (.int .i64 d.a.cnt) := (unhide K) 1 (by simp)
  have m2 : W.cell? ⟨w.heap.size, 2, none⟩ = some (.slice a1 d.a.rows.length c1) := (unhide K) 2 (by simp)
  have m3 : W.cell? ⟨w.heap.size, 3, none⟩ = some (.int .i64 d.b.num) := (unhide K) 3 (by simp)
  have m4 : W.cell? ⟨w.heap.size, 4, none⟩ = some (.int .i64 d.b.cnt) := (unhide K) 4 (by simp)
  have m5 : W.cell? ⟨w.heap.size, 5, none⟩ = some (.slice a2 d.b.rows.length c2) := (unhide K) 5 (by simp)
  go_wp2_with fail
  clear m0 m1 m2 m3 m4 m5
  refine (implSlotOk_any d _ _ W (unhide H)).mono ?_
  rintro e w1 ⟨rfl, hb1⟩
  have HB1 := hide (below_then (unhide HB) hb1)
  have K1 := hide ((unhide K).on hb1)
  have H1 := hide ((unhide H).on hb1)
  have HS1 := hide ((unhide HS).on hb1)
  have R1 := hide ((unhide R).of_block (hb1.block (w.heap.size + 1) (unhide R).lt))
  have HSZ1 : Hid (w.heap.size + 2 ≤ w1.heap.size) := hide (by have := unhide HSZ; have := hb1.size; omega)
  clear hb1 K H HS R HSZ HB
  have e0 : w1.cell? ⟨w.heap.size + 1, 0, none⟩ = some (.int .i64 0) := (unhide R1).cell (i := 0) (by omega)
  have e1 : w1.cell? ⟨w.heap.size + 1, 1, none⟩ = some (.int .i64 0) := (unhide R1).cell (i := 1) (by omega)
  have e2 : w1.cell? ⟨w.heap.size + 1, 2, none⟩ = some (.slice none 0 0) := (unhide R1).cell (i := 2) (by omega)
  have e3 : w1.cell? ⟨w.heap.size + 1, 3, none⟩ = some (.int .i64 0) := (unhide R1).cell (i := 3) (by omega)
  have e4 : w1.cell? ⟨w.heap.size + 1, 4, none⟩ = some (.int .i64 0) := (unhide R1).cell (i := 4) (by omega)
  have e5 : w1.cell? ⟨w.heap.size + 1, 5, none⟩ = some (.slice none 0 0) := (unhide R1).cell (i := 5) (by omega)
  have z0 := (unhide R1).frozen 0
  have z1 := (unhide R1).frozen 1
  have z2 := (unhide R1).frozen 2
  have z3 := (unhide R1).frozen 3
  have z4 := (unhide R1).frozen 4
  have z5 := (unhide R1).frozen 5
  cases hok : diskOk d
  · go_wp2_with fail
    have hrow := setVals_row [.int .i64 0, .int .i64 0, .slice none 0 0, .int .i64 0, .int .i64 0, .slice none 0 0] 0 w1 _ (unhide R1)
    have y0 := hrow.cell (i := 0) (by simp)
    have y1 := hrow.cell (i := 1) (by simp)
    have y2 := hrow.cell (i := 2) (by simp)
    have y3 := hrow.cell (i := 3) (by simp)
    have y4 := hrow.cell (i := 4) (by simp)
    have y5 := hrow.cell (i := 5) (by simp)
    simp at y0 y1 y2 y3 y4 y5
    show bodyPost _ _ _ _ _ (setVals w1 (w.heap.size + 1) 0 [.int .i64 0, .int .i64 0, .slice none 0 0, .int .i64 0, .int .i64 0, .slice none 0 0])
    have hb2 := setVals_below (b := w.heap.size + 1) [.int .i64 0, .int .i64 0, .slice none 0 0, .int .i64 0, .int .i64 0, .slice none 0 0] 0 w1 (unhide HB1) (by omega)
    have hD : SlotDone (slotDoD d es most) w (.returned (diskAgg bareDisk (.slice none 0 0) (.slice none 0 0))) (setVals w1 (w.heap.size + 1) 0 [.int .i64 0, .int .i64 0, .slice none 0 0, .int .i64 0, .int .i64 0, .slice none 0 0]) := by
      have e : slotDoD d es most = bareDisk := by simp [slotDoD, hok]
      rw [e]
      exact ⟨_, _, _, _, rfl, ⟨bareGrid _ _, bareGrid _ _, fun i j h => absurd h (Nat.not_lt_zero _), fun i h => absurd h (Nat.not_lt_zero _), fun i h => absurd h (Nat.not_lt_zero _)⟩, hb2⟩
    generalize setVals w1 (w.heap.size + 1) 0 [.int .i64 0, .int .i64 0, .slice none 0 0, .int .i64 0, .int .i64 0, .slice none 0 0] = W3 at *
    exact bodyPost_ret (v := diskAgg bareDisk (.slice none 0 0) (.slice none 0 0)) (by simp [results, Try.results19, go_sem, bareDisk, y0, y1, y2, y3, y4, y5]) rfl hD
  clear e0 e1 e2 e3 e4 e5 z0 z1 z2 z3 z4 z5
  have HOK := hide hok
  clear hok
  have m0 : w1.cell? ⟨w.heap.size, 0, none⟩ = some (.int .i64 d.a.num) := (unhide K1) 0 (by simp)
  have m1 : w1.cell? ⟨w.heap.size, 1, none⟩ = some (.int .i64 d.a.cnt) := (unhide K1) 1 (by simp)
  have m2 : w1.cell? ⟨w.heap.size, 2, none⟩ = some (.slice a1 d.a.rows.length c1) := (unhide K1) 2 (by simp)
  have m3 : w1.cell? ⟨w.heap.size, 3, none⟩ = some (.int .i64 d.b.num) := (unhide K1) 3 (by simp)
  have m4 : w1.cell? ⟨w.heap.size, 4, none⟩ = some (.int .i64 d.b.cnt) := (unhide K1) 4 (by simp)
  have m5 : w1.cell? ⟨w.heap.size, 5, none⟩ = some (.slice a2 d.b.rows.length c2) := (unhide K1) 5 (by simp)
  go_wp2_with fail
  clear m0 m1 m2 m3 m4 m5
  refine (openDisk_any d _ _ w1 (unhide H1) (unhide HOK)).mono ?_
  rintro e w2 ⟨p, ga, ca, fa, gb, cb, fb, rfl, hd2, hb2⟩
  have HB2 : Hid (Below w1.heap.size w1 w2) := hide hb2
  have HD2 : Hid (∃ fa fb, DiskW w1.heap.size w2 p d ga ca fa gb cb fb) := hide ⟨fa, fb, hd2⟩
  have HP : Hid (w1.heap.size ≤ p) := hide hd2.lo
  clear hb2 hd2 K1 H1
  rcases Int.lt_trichotomy most 0 with hm | hm | hm
  · go_wp2_with fail
    go_loopw [25] (fun i wr => i = .int .i64 0 ∧ wr = w2) (fun _ _ => 0)
    case atStart => exact ⟨rfl, rfl⟩
    case round =>
      obtain ⟨rfl, rfl⟩ := hrel
      have HD9 := HD2
      have HB9 := HB2
      obtain ⟨dn, hdn⟩ : ∃ x, x = d := ⟨_, rfl⟩
      have HDN := hide hdn
      rw [← hdn] at HD9
      clear hdn
      obtain ⟨fa9, fb9, hd9⟩ := unhide HD9
      have hc := hd9.cells
      have g0 : wr.cell? ⟨p, 0, none⟩ = some (.int .i64 dn.a.num) := hc 0 (by simp)
      have g1 : wr.cell? ⟨p, 1, none⟩ = some (.int .i64 dn.a.cnt) := hc 1 (by simp)
      have g2 : wr.cell? ⟨p, 2, none⟩ = some (.slice (some ⟨ga, 0, none⟩) dn.a.rows.length ca) := hc 2 (by simp)
      have g3 : wr.cell? ⟨p, 3, none⟩ = some (.int .i64 dn.b.num) := hc 3 (by simp)
      have g4 : wr.cell? ⟨p, 4, none⟩ = some (.int .i64 dn.b.cnt) := hc 4 (by simp)
      have g5 : wr.cell? ⟨p, 5, none⟩ = some (.slice (some ⟨gb, 0, none⟩) dn.b.rows.length cb) := hc 5 (by simp)
      have hr9 := (unhide R1).of_block ((unhide HB9).block (w.heap.size + 1) (unhide R1).lt)
      have e0 : wr.cell? ⟨w.heap.size + 1, 0, none⟩ = some (.int .i64 0) := hr9.cell (i := 0) (by omega)
      have e1 : wr.cell? ⟨w.heap.size + 1, 1, none⟩ = some (.int .i64 0) := hr9.cell (i := 1) (by omega)
      have e2 : wr.cell? ⟨w.heap.size + 1, 2, none⟩ = some (.slice none 0 0) := hr9.cell (i := 2) (by omega)
      have e3 : wr.cell? ⟨w.heap.size + 1, 3, none⟩ = some (.int .i64 0) := hr9.cell (i := 3) (by omega)
      have e4 : wr.cell? ⟨w.heap.size + 1, 4, none⟩ = some (.int .i64 0) := hr9.cell (i := 4) (by omega)
      have e5 : wr.cell? ⟨w.heap.size + 1, 5, none⟩ = some (.slice none 0 0) := hr9.cell (i := 5) (by omega)
      have z0 := hr9.frozen 0
      have z1 := hr9.frozen 1
      have z2 := hr9.frozen 2
      have z3 := hr9.frozen 3
      have z4 := hr9.frozen 4
      have z5 := hr9.frozen 5
      have hrow := setVals_row (diskCells dn (gridV ga ca dn.a.rows) (gridV gb cb dn.b.rows)) 0 wr _ hr9
      have y0 := hrow.cell (i := 0) (by simp)
      have y1 := hrow.cell (i := 1) (by simp)
      have y2 := hrow.cell (i := 2) (by simp)
      have y3 := hrow.cell (i := 3) (by simp)
      have y4 := hrow.cell (i := 4) (by simp)
      have y5 := hrow.cell (i := 5) (by simp)
      simp at y0 y1 y2 y3 y4 y5
      have hszz := unhide HSZ1
      have hb12 := below_then (unhide HB1) (unhide HB9)
      have hb3 := setVals_below (b := w.heap.size + 1) (diskCells dn (gridV ga ca dn.a.rows) (gridV gb cb dn.b.rows)) 0 wr hb12 (by omega)
      have hset : ∀ b, w1.heap.size ≤ b → b < wr.heap.size → (setVals wr (w.heap.size + 1) 0 (diskCells dn (gridV ga ca dn.a.rows) (gridV gb cb dn.b.rows))).heap[b]? = wr.heap[b]? := fun b hb _ => setVals_other _ _ _ b (by omega)
      have hfin : SlotDone (slotDoD d es most) w (.returned (diskAgg dn (gridV ga ca dn.a.rows) (gridV gb cb dn.b.rows))) (setVals wr (w.heap.size + 1) 0 (diskCells dn (gridV ga ca dn.a.rows) (gridV gb cb dn.b.rows))) := by
        rw [show slotDoD d es most = dn by rw [unhide HDN]; simp only [slotDoD, unhide HOK, if_true]; simp [stepsDo, mostOf, show most.toNat = 0 by omega]]
        exact ⟨_, _, _, _, rfl, ((hd9.keep hset).less (by omega)).own, hb3⟩
      have HFIN := hide hfin
      have Y0 := hide y0
      have Y1 := hide y1
      have Y2 := hide y2
      have Y3 := hide y3
      have Y4 := hide y4
      have Y5 := hide y5
      clear hfin y0 y1 y2 y3 y4 y5 hrow hset hb3 hb12 hd9 hc hr9
      go_wp2_with fail
      show bodyPost _ _ _ _ _ (setVals wr (w.heap.size + 1) 0 (diskCells dn (gridV ga ca dn.a.rows) (gridV gb cb dn.b.rows)))
      clear g0 g1 g2 g3 g4 g5 e0 e1 e2 e3 e4 e5 z0 z1 z2 z3 z4 z5
      generalize setVals wr (w.heap.size + 1) 0 (diskCells dn (gridV ga ca dn.a.rows) (gridV gb cb dn.b.rows)) = W9 at *
      have y0 := unhide Y0
      have y1 := unhide Y1
      have y2 := unhide Y2
      have y3 := unhide Y3
      have y4 := unhide Y4
      have y5 := unhide Y5
      exact bodyPost_ret (v := diskAgg dn (gridV ga ca dn.a.rows) (gridV gb cb dn.b.rows)) (by simp [results, Try.results19, go_sem, y0, y1, y2, y3, y4, y5]) rfl (unhide HFIN)
  · go_wp2_with fail
    go_loopw [25] (fun i wr => i = .int .i64 0 ∧ wr = w2) (fun _ _ => 0)
    case atStart => exact ⟨rfl, rfl⟩
    case round =>
      obtain ⟨rfl, rfl⟩ := hrel
      have HD9 := HD2
      have HB9 := HB2
      obtain ⟨dn, hdn⟩ : ∃ x, x = d := ⟨_, rfl⟩
      have HDN := hide hdn
      rw [← hdn] at HD9
      clear hdn
      obtain ⟨fa9, fb9, hd9⟩ := unhide HD9
      have hc := hd9.cells
      have g0 : wr.cell? ⟨p, 0, none⟩ = some (.int .i64 dn.a.num) := hc 0 (by simp)
      have g1 : wr.cell? ⟨p, 1, none⟩ = some (.int .i64 dn.a.cnt) := hc 1 (by simp)
      have g2 : wr.cell? ⟨p, 2, none⟩ = some (.slice (some ⟨ga, 0, none⟩) dn.a.rows.length ca) := hc 2 (by simp)
      have g3 : wr.cell? ⟨p, 3, none⟩ = some (.int .i64 dn.b.num) := hc 3 (by simp)
      have g4 : wr.cell? ⟨p, 4, none⟩ = some (.int .i64 dn.b.cnt) := hc 4 (by simp)
      have g5 : wr.cell? ⟨p, 5, none⟩ = some (.slice (some ⟨gb, 0, none⟩) dn.b.rows.length cb) := hc 5 (by simp)
      have hr9 := (unhide R1).of_block ((unhide HB9).block (w.heap.size + 1) (unhide R1).lt)
      have e0 : wr.cell? ⟨w.heap.size + 1, 0, none⟩ = some (.int .i64 0) := hr9.cell (i := 0) (by omega)
      have e1 : wr.cell? ⟨w.heap.size + 1, 1, none⟩ = some (.int .i64 0) := hr9.cell (i := 1) (by omega)
      have e2 : wr.cell? ⟨w.heap.size + 1, 2, none⟩ = some (.slice none 0 0) := hr9.cell (i := 2) (by omega)
      have e3 : wr.cell? ⟨w.heap.size + 1, 3, none⟩ = some (.int .i64 0) := hr9.cell (i := 3) (by omega)
      have e4 : wr.cell? ⟨w.heap.size + 1, 4, none⟩ = some (.int .i64 0) := hr9.cell (i := 4) (by omega)
      have e5 : wr.cell? ⟨w.heap.size + 1, 5, none⟩ = some (.slice none 0 0) := hr9.cell (i := 5) (by omega)
      have z0 := hr9.frozen 0
      have z1 := hr9.frozen 1
      have z2 := hr9.frozen 2
      have z3 := hr9.frozen 3
      have z4 := hr9.frozen 4
      have z5 := hr9.frozen 5
      have hrow := setVals_row (diskCells dn (gridV ga ca dn.a.rows) (gridV gb cb dn.b.rows)) 0 wr _ hr9
      have y0 := hrow.cell (i := 0) (by simp)
      have y1 := hrow.cell (i := 1) (by simp)
      have y2 := hrow.cell (i := 2) (by simp)
      have y3 := hrow.cell (i := 3) (by simp)
      have y4 := hrow.cell (i := 4) (by simp)
      have y5 := hrow.cell (i := 5) (by simp)
      simp at y0 y1 y2 y3 y4 y5
      have hszz := unhide HSZ1
      have hb12 := below_then (unhide HB1) (unhide HB9)
      have hb3 := setVals_below (b := w.heap.size + 1) (diskCells dn (gridV ga ca dn.a.rows) (gridV gb cb dn.b.rows)) 0 wr hb12 (by omega)
      have hset : ∀ b, w1.heap.size ≤ b → b < wr.heap.size → (setVals wr (w.heap.size + 1) 0 (diskCells dn (gridV ga ca dn.a.rows) (gridV gb cb dn.b.rows))).heap[b]? = wr.heap[b]? := fun b hb _ => setVals_other _ _ _ b (by omega)
      have hfin : SlotDone (slotDoD d es most) w (.returned (diskAgg dn (gridV ga ca dn.a.rows) (gridV gb cb dn.b.rows))) (setVals wr (w.heap.size + 1) 0 (diskCells dn (gridV ga ca dn.a.rows) (gridV gb cb dn.b.rows))) := by
        rw [show slotDoD d es most = dn by rw [unhide HDN]; simp only [slotDoD, unhide HOK, if_true]; simp [stepsDo, mostOf, hm]]
        exact ⟨_, _, _, _, rfl, ((hd9.keep hset).less (by omega)).own, hb3⟩
      have HFIN := hide hfin
      have Y0 := hide y0
      have Y1 := hide y1
      have Y2 := hide y2
      have Y3 := hide y3
      have Y4 := hide y4
      have Y5 := hide y5
      clear hfin y0 y1 y2 y3 y4 y5 hrow hset hb3 hb12 hd9 hc hr9
      go_wp2_with fail
      show bodyPost _ _ _ _ _ (setVals wr (w.heap.size + 1) 0 (diskCells dn (gridV ga ca dn.a.rows) (gridV gb cb dn.b.rows)))
      clear g0 g1 g2 g3 g4 g5 e0 e1 e2 e3 e4 e5 z0 z1 z2 z3 z4 z5
      generalize setVals wr (w.heap.size + 1) 0 (diskCells dn (gridV ga ca dn.a.rows) (gridV gb cb dn.b.rows)) = W9 at *
      have y0 := unhide Y0
      have y1 := unhide Y1
      have y2 := unhide Y2
      have y3 := unhide Y3
      have y4 := unhide Y4
      have y5 := unhide Y5
      exact bodyPost_ret (v := diskAgg dn (gridV ga ca dn.a.rows) (gridV gb cb dn.b.rows)) (by simp [results, Try.results19, go_sem, y0, y1, y2, y3, y4, y5]) rfl (unhide HFIN)
  rcases Nat.eq_zero_or_pos es.length with hl | hl
  · have hl0 : (es.length : Int) = 0 := by omega
    go_wp2_with fail
    go_loopw [25] (fun i wr => i = .int .i64 0 ∧ wr = w2) (fun _ _ => 0)
    case atStart => exact ⟨rfl, rfl⟩
    case round =>
      obtain ⟨rfl, rfl⟩ := hrel
      have HD9 := HD2
      have HB9 := HB2
      obtain ⟨dn, hdn⟩ : ∃ x, x = d := ⟨_, rfl⟩
      have HDN := hide hdn
      rw [← hdn] at HD9
      clear hdn
      obtain ⟨fa9, fb9, hd9⟩ := unhide HD9
      have hc := hd9.cells
      have g0 : wr.cell? ⟨p, 0, none⟩ = some (.int .i64 dn.a.num) := hc 0 (by simp)
      have g1 : wr.cell? ⟨p, 1, none⟩ = some (.int .i64 dn.a.cnt) := hc 1 (by simp)
      have g2 : wr.cell? ⟨p, 2, none⟩ = some (.slice (some ⟨ga, 0, none⟩) dn.a.rows.length ca) := hc 2 (by simp)
      have g3 : wr.cell? ⟨p, 3, none⟩ = some (.int .i64 dn.b.num) := hc 3 (by simp)
      have g4 : wr.cell? ⟨p, 4, none⟩ = some (.int .i64 dn.b.cnt) := hc 4 (by simp)
      have g5 : wr.cell? ⟨p, 5, none⟩ = some (.slice (some ⟨gb, 0, none⟩) dn.b.rows.length cb) := hc 5 (by simp)
      have hr9 := (unhide R1).of_block ((unhide HB9).block (w.heap.size + 1) (unhide R1).lt)
      have e0 : wr.cell? ⟨w.heap.size + 1, 0, none⟩ = some (.int .i64 0) := hr9.cell (i := 0) (by omega)
      have e1 : wr.cell? ⟨w.heap.size + 1, 1, none⟩ = some (.int .i64 0) := hr9.cell (i := 1) (by omega)
      have e2 : wr.cell? ⟨w.heap.size + 1, 2, none⟩ = some (.slice none 0 0) := hr9.cell (i := 2) (by omega)
      have e3 : wr.cell? ⟨w.heap.size + 1, 3, none⟩ = some (.int .i64 0) := hr9.cell (i := 3) (by omega)
      have e4 : wr.cell? ⟨w.heap.size + 1, 4, none⟩ = some (.int .i64 0) := hr9.cell (i := 4) (by omega)
      have e5 : wr.cell? ⟨w.heap.size + 1, 5, none⟩ = some (.slice none 0 0) := hr9.cell (i := 5) (by omega)
      have z0 := hr9.frozen 0
      have z1 := hr9.frozen 1
      have z2 := hr9.frozen 2
      have z3 := hr9.frozen 3
      have z4 := hr9.frozen 4
      have z5 := hr9.frozen 5
      have hrow := setVals_row (diskCells dn (gridV ga ca dn.a.rows) (gridV gb cb dn.b.rows)) 0 wr _ hr9
      have y0 := hrow.cell (i := 0) (by simp)
      have y1 := hrow.cell (i := 1) (by simp)
      have y2 := hrow.cell (i := 2) (by simp)
      have y3 := hrow.cell (i := 3) (by simp)
      have y4 := hrow.cell (i := 4) (by simp)
      have y5 := hrow.cell (i := 5) (by simp)
      simp at y0 y1 y2 y3 y4 y5
      have hszz := unhide HSZ1
      have hb12 := below_then (unhide HB1) (unhide HB9)
      have hb3 := setVals_below (b := w.heap.size + 1) (diskCells dn (gridV ga ca dn.a.rows) (gridV gb cb dn.b.rows)) 0 wr hb12 (by omega)
      have hset : ∀ b, w1.heap.size ≤ b → b < wr.heap.size → (setVals wr (w.heap.size + 1) 0 (diskCells dn (gridV ga ca dn.a.rows) (gridV gb cb dn.b.rows))).heap[b]? = wr.heap[b]? := fun b hb _ => setVals_other _ _ _ b (by omega)
      have hfin : SlotDone (slotDoD d es most) w (.returned (diskAgg dn (gridV ga ca dn.a.rows) (gridV gb cb dn.b.rows))) (setVals wr (w.heap.size + 1) 0 (diskCells dn (gridV ga ca dn.a.rows) (gridV gb cb dn.b.rows))) := by
        rw [show slotDoD d es most = dn by rw [unhide HDN]; simp only [slotDoD, unhide HOK, if_true]; simp [stepsDo, mostOf, hl]]
        exact ⟨_, _, _, _, rfl, ((hd9.keep hset).less (by omega)).own, hb3⟩
      have HFIN := hide hfin
      have Y0 := hide y0
      have Y1 := hide y1
      have Y2 := hide y2
      have Y3 := hide y3
      have Y4 := hide y4
      have Y5 := hide y5
      clear hfin y0 y1 y2 y3 y4 y5 hrow hset hb3 hb12 hd9 hc hr9
      go_wp2_with fail
      show bodyPost _ _ _ _ _ (setVals wr (w.heap.size + 1) 0 (diskCells dn (gridV ga ca dn.a.rows) (gridV gb cb dn.b.rows)))
      clear g0 g1 g2 g3 g4 g5 e0 e1 e2 e3 e4 e5 z0 z1 z2 z3 z4 z5
      generalize setVals wr (w.heap.size + 1) 0 (diskCells dn (gridV ga ca dn.a.rows) (gridV gb cb dn.b.rows)) = W9 at *
      have y0 := unhide Y0
      have y1 := unhide Y1
      have y2 := unhide Y2
      have y3 := unhide Y3
      have y4 := unhide Y4
      have y5 := unhide Y5
      exact bodyPost_ret (v := diskAgg dn (gridV ga ca dn.a.rows) (gridV gb cb dn.b.rows)) (by simp [results, Try.results19, go_sem, y0, y1, y2, y3, y4, y5]) rfl (unhide HFIN)
  obtain ⟨m, hmm⟩ : ∃ m : Nat, most = (m : Int) := ⟨most.toNat, by omega⟩
  subst hmm
  by_cases hml : m ≤ es.length
  · obtain ⟨n, hn⟩ : ∃ n, n = m := ⟨_, rfl⟩
    subst hn
    have hnl : n ≤ es.length := hml
    have hnn : mostOf es.length (n : Int) = n := by unfold mostOf; omega
    obtain ⟨b, off, vd, had, -, -⟩ := (unhide HS1).row (show 0 < es.length by omega)
    subst had
    have HNL := hide hnl
    have HNE := hide hnn
    have hn0 : (0 : Int) ≤ (n : Int) := by omega
    have hnc : (n : Int) ≤ (ce : Int) := by have := unhide HCE; omega
    have hnL : (n : Int) ≤ (es.length : Int) := by omega
    have hcz : ¬ ce = 0 := by have := unhide HCE; omega
    go_wp2_with fail
    go_loopw [25] (fun i wr => ∃ k : Nat, k ≤ n ∧ i = .int .i64 k ∧ Hid (∃ fa fb, DiskW w1.heap.size wr p (stepsDo d (es.take k)) ga ca fa gb cb fb) ∧ Hid (Below w1.heap.size w1 wr)) (fun i _ => n - (intOf i).toNat)
    case atStart => exact ⟨0, Nat.zero_le _, rfl, HD2, HB2⟩
    case round =>
      obtain ⟨k, hk, rfl, HD9, HB9⟩ := hrel
      by_cases hlt : k < n
      · have hke : k < es.length := by have := unhide HNL; omega
        obtain ⟨b', off', vd', had, hc, hp⟩ := ((unhide HS1).on (unhide HB9)).row hke
        simp only [Option.some.injEq, Addr.mk.injEq, and_true] at had
        obtain ⟨rfl, rfl⟩ := had
        have hkI : (k : Int) < (n : Int) := by omega
        have hkk : (k : Int) + 1 ≤ 1048576 := by have := unhide HLE; have := unhide HNL; omega
        have hk0 : (0 : Int) ≤ (k : Int) := by omega
        obtain ⟨ea, ec, rfl⟩ := hp.sliced
        have hokk := stepsDo_ok (es.take k) d (unhide HOK)
        have HSN : Hid (stepsDo d (es.take (k + 1)) = implStep (stepsDo d (es.take k)) es[k]) := hide (by rw [stepsDo_snoc es d k hke, implStep_is _ hokk])
        have HROWS : Hid ((stepsDo d (es.take k)).a.rows.length = 160 ∧ (stepsDo d (es.take k)).b.rows.length = 160) := hide (by
          unfold diskOk at hokk
          simp only [Bool.and_eq_true] at hokk
          exact ⟨(slotOk_facts hokk.1.1).2.2.2.2.1, (slotOk_facts hokk.1.2).2.2.2.2.1⟩)
        clear hokk
        generalize stepsDo d (es.take k) = dk at *
        generalize es[k] = z at *
        obtain ⟨sec, sct, num, cnt, data⟩ := z
        dsimp only at *
        have hx : Below wr.heap.size wr (wr.alloc (.cells #[.bool sec, .int .i64 sct, .int .i64 num, .int .i64 cnt, .slice ea data.length ec] 45)) := (Below.refl _ _).alloc (Nat.le_refl _) _
        have K3 := hide (cellsAt_new wr (stepCells ⟨sec, sct, num, cnt, data⟩ (.slice ea data.length ec)) 45)
        have q0 : wr.cell? ⟨b, off + k * 5, none⟩ = some (.bool sec) := hc 0 (by simp)
        have q1 : wr.cell? ⟨b, off + k * 5 + 1, none⟩ = some (.int .i64 sct) := hc 1 (by simp)
        have q2 : wr.cell? ⟨b, off + k * 5 + 2, none⟩ = some (.int .i64 num) := hc 2 (by simp)
        have q3 : wr.cell? ⟨b, off + k * 5 + 3, none⟩ = some (.int .i64 cnt) := hc 3 (by simp)
        have q4 : wr.cell? ⟨b, off + k * 5 + 4, none⟩ = some (.slice ea data.length ec) := hc 4 (by simp)
        obtain ⟨fa9, fb9, hd9⟩ := unhide HD9
        have HDX := hide (hd9.on hx)
        have HBX := hide (below_then (unhide HB9) hx)
        have HPX := hide (hp.on hx)
        clear hc hp hd9 hx
        go_upto_region 7 with fail
        generalize (wr.alloc (.cells #[.bool sec, .int .i64 sct, .int .i64 num, .int .i64 cnt, .slice ea data.length ec] 45)) = W3 at *
        generalize wr.heap.size = qe at *
        clear q0 q1 q2 q3 q4
        have m0 : W3.cell? ⟨qe, 0, none⟩ = some (.bool sec) := (unhide K3) 0 (by simp)
        have m1 : W3.cell? ⟨qe, 1, none⟩ = some (.int .i64 sct) := (unhide K3) 1 (by simp)
        have m2 : W3.cell? ⟨qe, 2, none⟩ = some (.int .i64 num) := (unhide K3) 2 (by simp)
        have m3 : W3.cell? ⟨qe, 3, none⟩ = some (.int .i64 cnt) := (unhide K3) 3 (by simp)
        have m4 : W3.cell? ⟨qe, 4, none⟩ = some (.slice ea data.length ec) := (unhide K3) 4 (by simp)
        go_wp2_with fail
        refine (writeFor_any p sct W3).mono ?_
        rintro e w' ⟨rfl, hw⟩
        obtain rfl := hw.symm
        clear hw
        by_cases hs1 : sct = -1
        · have HW : writerOf p sct = .func (.func 81) #[.pointer (some ⟨p, 0, none⟩)] #[] := by simp [writerOf, hs1]
          rw [HW]
          have HST : Hid (implStep dk ⟨sec, sct, num, cnt, data⟩ = writeHeadD dk sec num cnt) := hide (by simp [implStep, hs1])
          clear HW hs1
          cases sec
          · go_wp2_with fail
            refine (writeHead_false w1 _ p dk ga ca gb cb fa9 fb9 sct num cnt ea data.length ec (unhide HDX) (unhide HBX)).mono ?_
            rintro e w4 ⟨rfl, hd4, hb4⟩
            clear m0 m1 m2 m3 m4
            have HD4 := hide hd4
            have HB4 := hide hb4
            clear hd4 hb4
            go_wp2_with fail
            go_roundw
            case rel => exact ⟨k + 1, by omega, by go_num, by rw [unhide HSN, unhide HST]; exact HD4, HB4⟩
            case measure => (simp [intOf]; try omega)
          · go_wp2_with fail
            refine (writeHead_true w1 _ p dk ga ca gb cb fa9 fb9 sct num cnt ea data.length ec (unhide HDX) (unhide HBX)).mono ?_
            rintro e w4 ⟨rfl, hd4, hb4⟩
            clear m0 m1 m2 m3 m4
            have HD4 := hide hd4
            have HB4 := hide hb4
            clear hd4 hb4
            go_wp2_with fail
            go_roundw
            case rel => exact ⟨k + 1, by omega, by go_num, by rw [unhide HSN, unhide HST]; exact HD4, HB4⟩
            case measure => (simp [intOf]; try omega)
        · cases hs2 : inR 0 159 sct
          · have HW : writerOf p sct = .func (.func 83) #[.pointer (some ⟨p, 0, none⟩)] #[] := by simp [writerOf, hs1, hs2]
            rw [HW]
            have HST : Hid (implStep dk ⟨sec, sct, num, cnt, data⟩ = dk) := hide (by simp [implStep, hs1, hs2])
            clear HW hs1 hs2
            go_wp2_with fail
            refine (writeNothing_any w1 _ p dk ga ca gb cb fa9 fb9 sec sct num cnt ea data.length ec (unhide HDX) (unhide HBX)).mono ?_
            rintro e w4 ⟨rfl, hd4, hb4⟩
            clear m0 m1 m2 m3 m4
            have HD4 := hide hd4
            have HB4 := hide hb4
            clear hd4 hb4
            go_wp2_with fail
            go_roundw
            case rel => exact ⟨k + 1, by omega, by go_num, by rw [unhide HSN, unhide HST]; exact HD4, HB4⟩
            case measure => (simp [intOf]; try omega)
          · have hr := inR_iff.1 hs2
            obtain ⟨j, rfl⟩ : ∃ j : Nat, sct = (j : Int) := ⟨sct.toNat, by omega⟩
            have HW : writerOf p (j : Int) = .func (.func 82) #[.pointer (some ⟨p, 0, none⟩)] #[] := by unfold writerOf; rw [if_neg hs1, hs2]; rfl
            rw [HW]
            have HST : Hid (implStep dk ⟨sec, (j : Int), num, cnt, data⟩ = writeSectorD dk sec j data) := hide (by simp only [implStep]; rw [if_neg hs1, hs2]; simp)
            have HJ : Hid (j < 160) := hide (by omega)
            clear HW hs1 hs2 hr
            cases sec
            · go_wp2_with fail
              refine (writeSector_false w1 _ p dk ga ca gb cb fa9 fb9 j num cnt data ea ec (unhide HDX) (unhide HBX) (by have := unhide HJ; have := (unhide HROWS).1; omega) (unhide HPX)).mono ?_
              rintro e w4 ⟨rfl, hd4, hb4⟩
              clear m0 m1 m2 m3 m4
              have HD4 := hide hd4
              have HB4 := hide hb4
              clear hd4 hb4
              go_wp2_with fail
              go_roundw
              case rel => exact ⟨k + 1, by omega, by go_num, by rw [unhide HSN, unhide HST]; exact HD4, HB4⟩
              case measure => (simp [intOf]; try omega)
            · go_wp2_with fail
              refine (writeSector_true w1 _ p dk ga ca gb cb fa9 fb9 j num cnt data ea ec (unhide HDX) (unhide HBX) (by have := unhide HJ; have := (unhide HROWS).2; omega) (unhide HPX)).mono ?_
              rintro e w4 ⟨rfl, hd4, hb4⟩
              clear m0 m1 m2 m3 m4
              have HD4 := hide hd4
              have HB4 := hide hb4
              clear hd4 hb4
              go_wp2_with fail
              go_roundw
              case rel => exact ⟨k + 1, by omega, by go_num, by rw [unhide HSN, unhide HST]; exact HD4, HB4⟩
              case measure => (simp [intOf]; try omega)
      · have hkn : k = n := by omega
        subst hkn
        obtain ⟨dn, hdn⟩ : ∃ x, x = stepsDo d (es.take k) := ⟨_, rfl⟩
        have HDN := hide hdn
        rw [← hdn] at HD9
        clear hdn hlt
        obtain ⟨fa9, fb9, hd9⟩ := unhide HD9
        have hc := hd9.cells
        have g0 : wr.cell? ⟨p, 0, none⟩ = some (.int .i64 dn.a.num) := hc 0 (by simp)
        have g1 : wr.cell? ⟨p, 1, none⟩ = some (.int .i64 dn.a.cnt) := hc 1 (by simp)
        have g2 : wr.cell? ⟨p, 2, none⟩ = some (.slice (some ⟨ga, 0, none⟩) dn.a.rows.length ca) := hc 2 (by simp)
        have g3 : wr.cell? ⟨p, 3, none⟩ = some (.int .i64 dn.b.num) := hc 3 (by simp)
        have g4 : wr.cell? ⟨p, 4, none⟩ = some (.int .i64 dn.b.cnt) := hc 4 (by simp)
        have g5 : wr.cell? ⟨p, 5, none⟩ = some (.slice (some ⟨gb, 0, none⟩) dn.b.rows.length cb) := hc 5 (by simp)
        have hr9 := (unhide R1).of_block ((unhide HB9).block (w.heap.size + 1) (unhide R1).lt)
        have e0 : wr.cell? ⟨w.heap.size + 1, 0, none⟩ = some (.int .i64 0) := hr9.cell (i := 0) (by omega)
        have e1 : wr.cell? ⟨w.heap.size + 1, 1, none⟩ = some (.int .i64 0) := hr9.cell (i := 1) (by omega)
        have e2 : wr.cell? ⟨w.heap.size + 1, 2, none⟩ = some (.slice none 0 0) := hr9.cell (i := 2) (by omega)
        have e3 : wr.cell? ⟨w.heap.size + 1, 3, none⟩ = some (.int .i64 0) := hr9.cell (i := 3) (by omega)
        have e4 : wr.cell? ⟨w.heap.size + 1, 4, none⟩ = some (.int .i64 0) := hr9.cell (i := 4) (by omega)
        have e5 : wr.cell? ⟨w.heap.size + 1, 5, none⟩ = some (.slice none 0 0) := hr9.cell (i := 5) (by omega)
        have z0 := hr9.frozen 0
        have z1 := hr9.frozen 1
        have z2 := hr9.frozen 2
        have z3 := hr9.frozen 3
        have z4 := hr9.frozen 4
        have z5 := hr9.frozen 5
        have hrow := setVals_row (diskCells dn (gridV ga ca dn.a.rows) (gridV gb cb dn.b.rows)) 0 wr _ hr9
        have y0 := hrow.cell (i := 0) (by simp)
        have y1 := hrow.cell (i := 1) (by simp)
        have y2 := hrow.cell (i := 2) (by simp)
        have y3 := hrow.cell (i := 3) (by simp)
        have y4 := hrow.cell (i := 4) (by simp)
        have y5 := hrow.cell (i := 5) (by simp)
        simp at y0 y1 y2 y3 y4 y5
        have hszz := unhide HSZ1
        have hb12 := below_then (unhide HB1) (unhide HB9)
        have hb3 := setVals_below (b := w.heap.size + 1) (diskCells dn (gridV ga ca dn.a.rows) (gridV gb cb dn.b.rows)) 0 wr hb12 (by omega)
        have hset : ∀ b, w1.heap.size ≤ b → b < wr.heap.size → (setVals wr (w.heap.size + 1) 0 (diskCells dn (gridV ga ca dn.a.rows) (gridV gb cb dn.b.rows))).heap[b]? = wr.heap[b]? := fun b hb _ => setVals_other _ _ _ b (by omega)
        have hfin : SlotDone (slotDoD d es (k : Int)) w (.returned (diskAgg dn (gridV ga ca dn.a.rows) (gridV gb cb dn.b.rows))) (setVals wr (w.heap.size + 1) 0 (diskCells dn (gridV ga ca dn.a.rows) (gridV gb cb dn.b.rows))) := by
          rw [show slotDoD d es (k : Int) = dn by rw [unhide HDN]; simp only [slotDoD, unhide HOK, if_true]; rw [unhide HNE]]
          exact ⟨_, _, _, _, rfl, ((hd9.keep hset).less (by omega)).own, hb3⟩
        have HFIN := hide hfin
        have Y0 := hide y0
        have Y1 := hide y1
        have Y2 := hide y2
        have Y3 := hide y3
        have Y4 := hide y4
        have Y5 := hide y5
        clear hfin y0 y1 y2 y3 y4 y5 hrow hset hb3 hb12 hd9 hc hr9
        go_wp2_with fail
        show bodyPost _ _ _ _ _ (setVals wr (w.heap.size + 1) 0 (diskCells dn (gridV ga ca dn.a.rows) (gridV gb cb dn.b.rows)))
        clear g0 g1 g2 g3 g4 g5 e0 e1 e2 e3 e4 e5 z0 z1 z2 z3 z4 z5
        generalize setVals wr (w.heap.size + 1) 0 (diskCells dn (gridV ga ca dn.a.rows) (gridV gb cb dn.b.rows)) = W9 at *
        have y0 := unhide Y0
        have y1 := unhide Y1
        have y2 := unhide Y2
        have y3 := unhide Y3
        have y4 := unhide Y4
        have y5 := unhide Y5
        exact bodyPost_ret (v := diskAgg dn (gridV ga ca dn.a.rows) (gridV gb cb dn.b.rows)) (by simp [results, Try.results19, go_sem, y0, y1, y2, y3, y4, y5]) rfl (unhide HFIN)
  · have hnl : es.length ≤ es.length := Nat.le_refl _
    have hnn : mostOf es.length (m : Int) = es.length := by unfold mostOf; omega
    have hmI : ¬ ((m : Int) ≤ (es.length : Int)) := by omega
    have hm0 : (0 : Int) ≤ (m : Int) := by omega
    obtain ⟨b, off, vd, had, -, -⟩ := (unhide HS1).row (show 0 < es.length by omega)
    subst had
    have HNL := hide hnl
    have HNE := hide hnn
    have hn0 : (0 : Int) ≤ (es.length : Int) := by omega
    have hnc : (es.length : Int) ≤ (ce : Int) := by have := unhide HCE; omega
    have hnL : (es.length : Int) ≤ (es.length : Int) := by omega
    have hcz : ¬ ce = 0 := by have := unhide HCE; omega
    go_wp2_with fail
    go_loopw [25] (fun i wr => ∃ k : Nat, k ≤ es.length ∧ i = .int .i64 k ∧ Hid (∃ fa fb, DiskW w1.heap.size wr p (stepsDo d (es.take k)) ga ca fa gb cb fb) ∧ Hid (Below w1.heap.size w1 wr)) (fun i _ => es.length - (intOf i).toNat)
    case atStart => exact ⟨0, Nat.zero_le _, rfl, HD2, HB2⟩
    case round =>
      obtain ⟨k, hk, rfl, HD9, HB9⟩ := hrel
      by_cases hlt : k < es.length
      · have hke : k < es.length := by have := unhide HNL; omega
        obtain ⟨b', off', vd', had, hc, hp⟩ := ((unhide HS1).on (unhide HB9)).row hke
        simp only [Option.some.injEq, Addr.mk.injEq, and_true] at had
        obtain ⟨rfl, rfl⟩ := had
        have hkI : (k : Int) < (es.length : Int) := by omega
        have hkk : (k : Int) + 1 ≤ 1048576 := by have := unhide HLE; have := unhide HNL; omega
        have hk0 : (0 : Int) ≤ (k : Int) := by omega
        obtain ⟨ea, ec, rfl⟩ := hp.sliced
        have hokk := stepsDo_ok (es.take k) d (unhide HOK)
        have HSN : Hid (stepsDo d (es.take (k + 1)) = implStep (stepsDo d (es.take k)) es[k]) := hide (by rw [stepsDo_snoc es d k hke, implStep_is _ hokk])
        have HROWS : Hid ((stepsDo d (es.take k)).a.rows.length = 160 ∧ (stepsDo d (es.take k)).b.rows.length = 160) := hide (by
          unfold diskOk at hokk
          simp only [Bool.and_eq_true] at hokk
          exact ⟨(slotOk_facts hokk.1.1).2.2.2.2.1, (slotOk_facts hokk.1.2).2.2.2.2.1⟩)
        clear hokk
        generalize stepsDo d (es.take k) = dk at *
        generalize es[k] = z at *
        obtain ⟨sec, sct, num, cnt, data⟩ := z
        dsimp only at *
        have hx : Below wr.heap.size wr (wr.alloc (.cells #[.bool sec, .int .i64 sct, .int .i64 num, .int .i64 cnt, .slice ea data.length ec] 45)) := (Below.refl _ _).alloc (Nat.le_refl _) _
        have K3 := hide (cellsAt_new wr (stepCells ⟨sec, sct, num, cnt, data⟩ (.slice ea data.length ec)) 45)
        have q0 : wr.cell? ⟨b, off + k * 5, none⟩ = some (.bool sec) := hc 0 (by simp)
        have q1 : wr.cell? ⟨b, off + k * 5 + 1, none⟩ = some (.int .i64 sct) := hc 1 (by simp)
        have q2 : wr.cell? ⟨b, off + k * 5 + 2, none⟩ = some (.int .i64 num) := hc 2 (by simp)
        have q3 : wr.cell? ⟨b, off + k * 5 + 3, none⟩ = some (.int .i64 cnt) := hc 3 (by simp)
        have q4 : wr.cell? ⟨b, off + k * 5 + 4, none⟩ = some (.slice ea data.length ec) := hc 4 (by simp)
        obtain ⟨fa9, fb9, hd9⟩ := unhide HD9
        have HDX := hide (hd9.on hx)
        have HBX := hide (below_then (unhide HB9) hx)
        have HPX := hide (hp.on hx)
        clear hc hp hd9 hx
        go_upto_region 7 with fail
        generalize (wr.alloc (.cells #[.bool sec, .int .i64 sct, .int .i64 num, .int .i64 cnt, .slice ea data.length ec] 45)) = W3 at *
        generalize wr.heap.size = qe at *
        clear q0 q1 q2 q3 q4
        have m0 : W3.cell? ⟨qe, 0, none⟩ = some (.bool sec) := (unhide K3) 0 (by simp)
        have m1 : W3.cell? ⟨qe, 1, none⟩ = some (.int .i64 sct) := (unhide K3) 1 (by simp)
        have m2 : W3.cell? ⟨qe, 2, none⟩ = some (.int .i64 num) := (unhide K3) 2 (by simp)
        have m3 : W3.cell? ⟨qe, 3, none⟩ = some (.int .i64 cnt) := (unhide K3) 3 (by simp)
        have m4 : W3.cell? ⟨qe, 4, none⟩ = some (.slice ea data.length ec) := (unhide K3) 4 (by simp)
        go_wp2_with fail
        refine (writeFor_any p sct W3).mono ?_
        rintro e w' ⟨rfl, hw⟩
        obtain rfl := hw.symm
        clear hw
        by_cases hs1 : sct = -1
        · have HW : writerOf p sct = .func (.func 81) #[.pointer (some ⟨p, 0, none⟩)] #[] := by simp [writerOf, hs1]
          rw [HW]
          have HST : Hid (implStep dk ⟨sec, sct, num, cnt, data⟩ = writeHeadD dk sec num cnt) := hide (by simp [implStep, hs1])
          clear HW hs1
          cases sec
          · go_wp2_with fail
            refine (writeHead_false w1 _ p dk ga ca gb cb fa9 fb9 sct num cnt ea data.length ec (unhide HDX) (unhide HBX)).mono ?_
            rintro e w4 ⟨rfl, hd4, hb4⟩
            clear m0 m1 m2 m3 m4
            have HD4 := hide hd4
            have HB4 := hide hb4
            clear hd4 hb4
            go_wp2_with fail
            go_roundw
            case rel => exact ⟨k + 1, by omega, by go_num, by rw [unhide HSN, unhide HST]; exact HD4, HB4⟩
            case measure => (simp [intOf]; try omega)
          · go_wp2_with fail
            refine (writeHead_true w1 _ p dk ga ca gb cb fa9 fb9 sct num cnt ea data.length ec (unhide HDX) (unhide HBX)).mono ?_
            rintro e w4 ⟨rfl, hd4, hb4⟩
            clear m0 m1 m2 m3 m4
            have HD4 := hide hd4
            have HB4 := hide hb4
            clear hd4 hb4
            go_wp2_with fail
            go_roundw
            case rel => exact ⟨k + 1, by omega, by go_num, by rw [unhide HSN, unhide HST]; exact HD4, HB4⟩
            case measure => (simp [intOf]; try omega)
        · cases hs2 : inR 0 159 sct
          · have HW : writerOf p sct = .func (.func 83) #[.pointer (some ⟨p, 0, none⟩)] #[] := by simp [writerOf, hs1, hs2]
            rw [HW]
            have HST : Hid (implStep dk ⟨sec, sct, num, cnt, data⟩ = dk) := hide (by simp [implStep, hs1, hs2])
            clear HW hs1 hs2
            go_wp2_with fail
            refine (writeNothing_any w1 _ p dk ga ca gb cb fa9 fb9 sec sct num cnt ea data.length ec (unhide HDX) (unhide HBX)).mono ?_
            rintro e w4 ⟨rfl, hd4, hb4⟩
            clear m0 m1 m2 m3 m4
            have HD4 := hide hd4
            have HB4 := hide hb4
            clear hd4 hb4
            go_wp2_with fail
            go_roundw
            case rel => exact ⟨k + 1, by omega, by go_num, by rw [unhide HSN, unhide HST]; exact HD4, HB4⟩
            case measure => (simp [intOf]; try omega)
          · have hr := inR_iff.1 hs2
            obtain ⟨j, rfl⟩ : ∃ j : Nat, sct = (j : Int) := ⟨sct.toNat, by omega⟩
            have HW : writerOf p (j : Int) = .func (.func 82) #[.pointer (some ⟨p, 0, none⟩)] #[] := by unfold writerOf; rw [if_neg hs1, hs2]; rfl
            rw [HW]
            have HST : Hid (implStep dk ⟨sec, (j : Int), num, cnt, data⟩ = writeSectorD dk sec j data) := hide (by simp only [implStep]; rw [if_neg hs1, hs2]; simp)
            have HJ : Hid (j < 160) := hide (by omega)
            clear HW hs1 hs2 hr
            cases sec
            · go_wp2_with fail
              refine (writeSector_false w1 _ p dk ga ca gb cb fa9 fb9 j num cnt data ea ec (unhide HDX) (unhide HBX) (by have := unhide HJ; have := (unhide HROWS).1; omega) (unhide HPX)).mono ?_
              rintro e w4 ⟨rfl, hd4, hb4⟩
              clear m0 m1 m2 m3 m4
              have HD4 := hide hd4
              have HB4 := hide hb4
              clear hd4 hb4
              go_wp2_with fail
              go_roundw
              case rel => exact ⟨k + 1, by omega, by go_num, by rw [unhide HSN, unhide HST]; exact HD4, HB4⟩
              case measure => (simp [intOf]; try omega)
            · go_wp2_with fail
              refine (writeSector_true w1 _ p dk ga ca gb cb fa9 fb9 j num cnt data ea ec (unhide HDX) (unhide HBX) (by have := unhide HJ; have := (unhide HROWS).2; omega) (unhide HPX)).mono ?_
              rintro e w4 ⟨rfl, hd4, hb4⟩
              clear m0 m1 m2 m3 m4
              have HD4 := hide hd4
              have HB4 := hide hb4
              clear hd4 hb4
              go_wp2_with fail
              go_roundw
              case rel => exact ⟨k + 1, by omega, by go_num, by rw [unhide HSN, unhide HST]; exact HD4, HB4⟩
              case measure => (simp [intOf]; try omega)
      · have hkn : k = es.length := by omega
        subst hkn
        obtain ⟨dn, hdn⟩ : ∃ x, x = stepsDo d (es.take es.length) := ⟨_, rfl⟩
        have HDN := hide hdn
        rw [← hdn] at HD9
        clear hdn hlt
        obtain ⟨fa9, fb9, hd9⟩ := unhide HD9
        have hc := hd9.cells
        have g0 : wr.cell? ⟨p, 0, none⟩ = some (.int .i64 dn.a.num) := hc 0 (by simp)
        have g1 : wr.cell? ⟨p, 1, none⟩ = some (.int .i64 dn.a.cnt) := hc 1 (by simp)
        have g2 : wr.cell? ⟨p, 2, none⟩ = some (.slice (some ⟨ga, 0, none⟩) dn.a.rows.length ca) := hc 2 (by simp)
        have g3 : wr.cell? ⟨p, 3, none⟩ = some (.int .i64 dn.b.num) := hc 3 (by simp)
        have g4 : wr.cell? ⟨p, 4, none⟩ = some (.int .i64 dn.b.cnt) := hc 4 (by simp)
        have g5 : wr.cell? ⟨p, 5, none⟩ = some (.slice (some ⟨gb, 0, none⟩) dn.b.rows.length cb) := hc 5 (by simp)
        have hr9 := (unhide R1).of_block ((unhide HB9).block (w.heap.size + 1) (unhide R1).lt)
        have e0 : wr.cell? ⟨w.heap.size + 1, 0, none⟩ = some (.int .i64 0) := hr9.cell (i := 0) (by omega)
        have e1 : wr.cell? ⟨w.heap.size + 1, 1, none⟩ = some (.int .i64 0) := hr9.cell (i := 1) (by omega)
        have e2 : wr.cell? ⟨w.heap.size + 1, 2, none⟩ = some (.slice none 0 0) := hr9.cell (i := 2) (by omega)
        have e3 : wr.cell? ⟨w.heap.size + 1, 3, none⟩ = some (.int .i64 0) := hr9.cell (i := 3) (by omega)
        have e4 : wr.cell? ⟨w.heap.size + 1, 4, none⟩ = some (.int .i64 0) := hr9.cell (i := 4) (by omega)
        have e5 : wr.cell? ⟨w.heap.size + 1, 5, none⟩ = some (.slice none 0 0) := hr9.cell (i := 5) (by omega)
        have z0 := hr9.frozen 0
        have z1 := hr9.frozen 1
        have z2 := hr9.frozen 2
        have z3 := hr9.frozen 3
        have z4 := hr9.frozen 4
        have z5 := hr9.frozen 5
        have hrow := setVals_row (diskCells dn (gridV ga ca dn.a.rows) (gridV gb cb dn.b.rows)) 0 wr _ hr9
        have y0 := hrow.cell (i := 0) (by simp)
        have y1 := hrow.cell (i := 1) (by simp)
        have y2 := hrow.cell (i := 2) (by simp)
        have y3 := hrow.cell (i := 3) (by simp)
        have y4 := hrow.cell (i := 4) (by simp)
        have y5 := hrow.cell (i := 5) (by simp)
        simp at y0 y1 y2 y3 y4 y5
        have hszz := unhide HSZ1
        have hb12 := below_then (unhide HB1) (unhide HB9)
        have hb3 := setVals_below (b := w.heap.size + 1) (diskCells dn (gridV ga ca dn.a.rows) (gridV gb cb dn.b.rows)) 0 wr hb12 (by omega)
        have hset : ∀ b, w1.heap.size ≤ b → b < wr.heap.size → (setVals wr (w.heap.size + 1) 0 (diskCells dn (gridV ga ca dn.a.rows) (gridV gb cb dn.b.rows))).heap[b]? = wr.heap[b]? := fun b hb _ => setVals_other _ _ _ b (by omega)
        have hfin : SlotDone (slotDoD d es (m : Int)) w (.returned (diskAgg dn (gridV ga ca dn.a.rows) (gridV gb cb dn.b.rows))) (setVals wr (w.heap.size + 1) 0 (diskCells dn (gridV ga ca dn.a.rows) (gridV gb cb dn.b.rows))) := by
          rw [show slotDoD d es (m : Int) = dn by rw [unhide HDN]; simp only [slotDoD, unhide HOK, if_true]; rw [unhide HNE]]
          exact ⟨_, _, _, _, rfl, ((hd9.keep hset).less (by omega)).own, hb3⟩
        have HFIN := hide hfin
        have Y0 := hide y0
        have Y1 := hide y1
        have Y2 := hide y2
        have Y3 := hide y3
        have Y4 := hide y4
        have Y5 := hide y5
        clear hfin y0 y1 y2 y3 y4 y5 hrow hset hb3 hb12 hd9 hc hr9
        go_wp2_with fail
        show bodyPost _ _ _ _ _ (setVals wr (w.heap.size + 1) 0 (diskCells dn (gridV ga ca dn.a.rows) (gridV gb cb dn.b.rows)))
        clear g0 g1 g2 g3 g4 g5 e0 e1 e2 e3 e4 e5 z0 z1 z2 z3 z4 z5
        generalize setVals wr (w.heap.size + 1) 0 (diskCells dn (gridV ga ca dn.a.rows) (gridV gb cb dn.b.rows)) = W9 at *
        have y0 := unhide Y0
        have y1 := unhide Y1
        have y2 := unhide Y2
        have y3 := unhide Y3
        have y4 := unhide Y4
        have y5 := unhide Y5
        exact bodyPost_ret (v := diskAgg dn (gridV ga ca dn.a.rows) (gridV gb cb dn.b.rows)) (by simp [results, Try.results19, go_sem, y0, y1, y2, y3, y4, y5]) rfl (unhide HFIN)
end Go.Proofs.Ytocgfngcgekciaa
