/- impl.newSlot, impl.SlotNew. -/
import Derived.Test.YtocgfngcgekciaaGrid3
namespace Go.Proofs.Ytocgfngcgekciaa
open Go.RowKit
set_option linter.unusedVariables false
set_option linter.unusedSimpArgs false


theorem slice_SS : Try.prog.underlying 23 = some (.slice 28) := by kernel_rfl
theorem info_S1 : (Try.prog.info? 28).map (fun i => (i.zero, i.size, i.bytes)) = some (some (.slice none 0 0), 1, 24) := by kernel_rfl

def noRows : List (List Int) := List.replicate 160 []
def noSlot : SlotV := ⟨0, 0, noRows⟩
def noDisk : DiskV := ⟨noSlot, noSlot⟩
theorem noRows_len : noRows.length = 160 := by simp [noRows]
theorem noRows_small : Small noRows := fun l hl => by
  simp only [noRows, List.mem_replicate] at hl
  rw [hl.2]; simp

theorem blankGrid {N q t : Nat} {w : World} (hN : N ≤ q) (hr : w.rowIs q t 160 (fun _ => .slice none 0 0)) : GridOwn N w (.slice (some ⟨q, 0, none⟩) 160 160) (fun _ => .slice none 0 0) noRows := by
  have h0 : ∀ i (h : i < noRows.length), noRows[i] = [] := fun i h => List.getElem_replicate ..
  refine ⟨⟨some ⟨q, 0, none⟩, 160, by rw [noRows_len], by rw [noRows_len]; exact Nat.le_refl _, by rw [noRows_len]; unfold maxLen; omega, Or.inr ⟨q, 0, rfl, hN, fun i hi => ?_⟩⟩, fun i hi => ?_, fun i hi g hg => by simp [Value.ownBlock] at hg, fun i j _ _ g hg => by simp [Value.ownBlock] at hg, fun g hg => ?_⟩
  · rw [noRows_len] at hi
    rw [Nat.zero_add]
    exact hr.cell hi
  · rw [h0 i hi]
    exact Or.inl ⟨rfl, rfl⟩
  · have e : q = g := by simpa [Value.ownBlock] using hg
    subst e
    exact ⟨hN, hr.lt⟩

set_option maxRecDepth 100000 in
theorem newSlot_any (w : World) : Calls Try.prog 58 #[] w fun e w' => ∃ q, e = .returned (.agg #[.int .i64 0, .int .i64 0, .slice (some ⟨q, 0, none⟩) 160 160]) ∧ w.heap.size ≤ q ∧ w'.rowIs q 28 160 (fun _ => .slice none 0 0) ∧ Below w.heap.size w w' := by
  have hmk : ∀ w : World, (Instr.makeSlice 23 (.int .i64 160) (.int .i64 160)).run Try.prog w = .ok (.slice (some ⟨w.heap.size, 0, none⟩) 160 160) (w.alloc (.cells (madeCells #[.slice none 0 0] 160) 28)) := fun w => by
    have h := run_make_n (P := Try.prog) 23 28 _ 1 24 slice_SS info_S1 160 (by omega) (by omega) w
    exact h
  obtain ⟨W, hW⟩ : ∃ W, W = (w.alloc (.cells #[.int .i64 0, .int .i64 0, .slice (some ⟨w.heap.size + 1, 0, none⟩) 160 160] 25)).alloc (.cells (madeCells #[.slice none 0 0] 160) 28) := ⟨_, rfl⟩
  have hs1 : (w.alloc (.cells #[.int .i64 0, .int .i64 0, .slice (some ⟨w.heap.size + 1, 0, none⟩) 160 160] 25)).heap.size = w.heap.size + 1 := World.size_alloc _ _
  have hb : Below w.heap.size w W := by rw [hW]; exact ((Below.refl _ _).alloc (Nat.le_refl _) _).alloc (by rw [hs1]; omega) _
  have hr : W.rowIs (w.heap.size + 1) 28 160 (fun _ => .slice none 0 0) := by
    have h := row_made (w.alloc (.cells #[.int .i64 0, .int .i64 0, .slice (some ⟨w.heap.size + 1, 0, none⟩) 160 160] 25)) #[.slice none 0 0] 160 28
    rw [hs1, ← hW] at h
    exact h.congr (fun i hi => by simp [Nat.mod_one])
  have hc := (cellsAt_new w [.int .i64 0, .int .i64 0, .slice (some ⟨w.heap.size + 1, 0, none⟩) 160 160] 25).on ((Below.refl _ _).alloc (Nat.le_refl _) (.cells (madeCells #[.slice none 0 0] 160) 28))
  have hc2 : CellsAt W w.heap.size 0 [.int .i64 0, .int .i64 0, .slice (some ⟨w.heap.size + 1, 0, none⟩) 160 160] := by rw [hW]; exact hc
  have HB := hide hb
  have HR := hide hr
  have HC := hide hc2
  have HW := hide hW
  clear hb hr hc hc2 hW
  go_enter Try.func58, Try.ntmps58
  go_wp2_with fail
  rw [← unhide HW]
  have y0 : W.cell? ⟨w.heap.size, 0, none⟩ = some (.int .i64 0) := (unhide HC) 0 (by simp)
  have y1 : W.cell? ⟨w.heap.size, 1, none⟩ = some (.int .i64 0) := (unhide HC) 1 (by simp)
  have y2 : W.cell? ⟨w.heap.size, 2, none⟩ = some (.slice (some ⟨w.heap.size + 1, 0, none⟩) 160 160) := (unhide HC) 2 (by simp)
  exact bodyPost_ret (v := .agg #[.int .i64 0, .int .i64 0, .slice (some ⟨w.heap.size + 1, 0, none⟩) 160 160]) (by simp [results, Try.results58, go_sem, y0, y1, y2]) rfl ⟨w.heap.size + 1, rfl, by omega, unhide HR, unhide HB⟩

set_option maxRecDepth 100000 in
set_option maxHeartbeats 1000000 in
theorem implSlotNew_any (w : World) : Calls Try.prog 23 #[] w fun e w' => ∃ va vb, e = .returned (diskAgg noDisk va vb) ∧ DiskOwn w.heap.size w' noDisk va vb (fun _ => .slice none 0 0) (fun _ => .slice none 0 0) ∧ Below w.heap.size w w' := by
  have HB0 : Hid (Below w.heap.size w (w.alloc (.cells #[.int .i64 0, .int .i64 0, .slice none 0 0, .int .i64 0, .int .i64 0, .slice none 0 0] 27))) := hide ((Below.refl _ _).alloc (Nat.le_refl _) _)
  have HR0 := hide (row_new w [.int .i64 0, .int .i64 0, .slice none 0 0, .int .i64 0, .int .i64 0, .slice none 0 0] 27)
  have HS : Hid ((w.alloc (.cells #[.int .i64 0, .int .i64 0, .slice none 0 0, .int .i64 0, .int .i64 0, .slice none 0 0] 27)).heap.size = w.heap.size + 1) := hide (World.size_alloc _ _)
  go_enter Try.func23, Try.ntmps23
  go_upto_region 1 with fail
  generalize (w.alloc (.cells #[.int .i64 0, .int .i64 0, .slice none 0 0, .int .i64 0, .int .i64 0, .slice none 0 0] 27)) = W0 at *
  go_wp2_with fail
  refine (newSlot_any W0).mono ?_
  rintro e W1 ⟨qa, rfl, ha, hra, hb1⟩
  have HA := hide ha
  have HRA := hide hra
  have HB1 := hide hb1
  clear ha hra hb1
  go_wp2_with fail
  refine (newSlot_any W1).mono ?_
  rintro e W2 ⟨qb, rfl, hb, hrb, hb2⟩
  have HQB := hide hb
  have HRB := hide hrb
  have HB2 := hide hb2
  clear hb hrb hb2
  have hs0 := unhide HS
  have hs1 := (unhide HB1).size
  have hs2 := (unhide HB2).size
  have ha := unhide HA
  have hb := unhide HQB
  have hqa := (unhide HRA).lt
  have hr2 := (((unhide HR0).of_block ((unhide HB1).block w.heap.size (by omega))).of_block ((unhide HB2).block w.heap.size (by omega)))
  have g0 : W2.cell? ⟨w.heap.size, 0, none⟩ = some (.int .i64 0) := hr2.cell (i := 0) (by simp)
  have g1 : W2.cell? ⟨w.heap.size, 1, none⟩ = some (.int .i64 0) := hr2.cell (i := 1) (by simp)
  have g2 : W2.cell? ⟨w.heap.size, 2, none⟩ = some (.slice none 0 0) := hr2.cell (i := 2) (by simp)
  have g3 : W2.cell? ⟨w.heap.size, 3, none⟩ = some (.int .i64 0) := hr2.cell (i := 3) (by simp)
  have g4 : W2.cell? ⟨w.heap.size, 4, none⟩ = some (.int .i64 0) := hr2.cell (i := 4) (by simp)
  have g5 : W2.cell? ⟨w.heap.size, 5, none⟩ = some (.slice none 0 0) := hr2.cell (i := 5) (by simp)
  have z0 := hr2.frozen 0
  have z1 := hr2.frozen 1
  have z2 := hr2.frozen 2
  have z3 := hr2.frozen 3
  have z4 := hr2.frozen 4
  have z5 := hr2.frozen 5
  have hrow := setVals_row [.int .i64 0, .int .i64 0, .slice (some ⟨qa, 0, none⟩) 160 160, .int .i64 0, .int .i64 0, .slice (some ⟨qb, 0, none⟩) 160 160] 0 W2 _ hr2
  have y0 := hrow.cell (i := 0) (by simp)
  have y1 := hrow.cell (i := 1) (by simp)
  have y2 := hrow.cell (i := 2) (by simp)
  have y3 := hrow.cell (i := 3) (by simp)
  have y4 := hrow.cell (i := 4) (by simp)
  have y5 := hrow.cell (i := 5) (by simp)
  simp at y0 y1 y2 y3 y4 y5
  have Y0 := hide y0
  have Y1 := hide y1
  have Y2 := hide y2
  have Y3 := hide y3
  have Y4 := hide y4
  have Y5 := hide y5
  have HO := hide (fun k (hk : k ≠ w.heap.size) => setVals_other (b := w.heap.size) [.int .i64 0, .int .i64 0, .slice (some ⟨qa, 0, none⟩) 160 160, .int .i64 0, .int .i64 0, .slice (some ⟨qb, 0, none⟩) 160 160] 0 W2 k hk)
  have hb12 : Below w.heap.size w W2 := ((unhide HB0).trans ((unhide HB1).mono (by omega))).trans ((unhide HB2).mono (by omega))
  have HB3 := hide (setVals_below (b := w.heap.size) [.int .i64 0, .int .i64 0, .slice (some ⟨qa, 0, none⟩) 160 160, .int .i64 0, .int .i64 0, .slice (some ⟨qb, 0, none⟩) 160 160] 0 W2 hb12 (Nat.le_refl _))
  have HQ : Hid (w.heap.size < qa ∧ qa < qb) := hide ⟨by omega, by omega⟩
  have HRA2 := hide ((unhide HRA).of_block ((unhide HB2).block qa hqa))
  clear hrow y0 y1 y2 y3 y4 y5 hr2 hb12 hs0 hs1 hs2 ha hb hqa
  go_wp2_with fail
  show bodyPost _ _ _ _ _ (setVals W2 w.heap.size 0 [.int .i64 0, .int .i64 0, .slice (some ⟨qa, 0, none⟩) 160 160, .int .i64 0, .int .i64 0, .slice (some ⟨qb, 0, none⟩) 160 160])
  clear g0 g1 g2 g3 g4 g5 z0 z1 z2 z3 z4 z5
  generalize setVals W2 w.heap.size 0 [.int .i64 0, .int .i64 0, .slice (some ⟨qa, 0, none⟩) 160 160, .int .i64 0, .int .i64 0, .slice (some ⟨qb, 0, none⟩) 160 160] = W3 at *
  have y0 := unhide Y0
  have y1 := unhide Y1
  have y2 := unhide Y2
  have y3 := unhide Y3
  have y4 := unhide Y4
  have y5 := unhide Y5
  have hq := unhide HQ
  have hga := blankGrid (N := w.heap.size) (by omega) ((unhide HRA2).of_block ((unhide HO) qa (by omega)))
  have hgb := blankGrid (N := w.heap.size) (by omega) ((unhide HRB).of_block ((unhide HO) qb (by omega)))
  refine bodyPost_ret (v := diskAgg noDisk (.slice (some ⟨qa, 0, none⟩) 160 160) (.slice (some ⟨qb, 0, none⟩) 160 160)) (by simp [results, Try.results23, go_sem, noDisk, noSlot, y0, y1, y2, y3, y4, y5]) rfl ⟨_, _, rfl, ⟨hga, hgb, fun i j _ _ g e => by simp [Value.ownBlock] at e, fun i _ g e => by simp [Value.ownBlock] at e, fun i _ g e => by simp [Value.ownBlock] at e⟩, unhide HB3⟩
end Go.Proofs.Ytocgfngcgekciaa
