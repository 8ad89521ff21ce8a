/- impl.copySlot, impl.openDisk: a disk at work. -/
import Derived.Test.YtocgfngcgekciaaSCp1
import Derived.Test.YtocgfngcgekciaaHeld
namespace Go.Proofs.Ytocgfngcgekciaa
open Go.RowKit
set_option linter.unusedVariables false
set_option linter.unusedSimpArgs false


/-- A disk at work: its six cells in a block of their own, its lists of their own. -/
structure DiskW (N : Nat) (w : World) (p : Nat) (d : DiskV) (ga ca : Nat) (fa : Nat → Value) (gb cb : Nat) (fb : Nat → Value) : Prop where
  row : w.rowIs p 86 6 (fun i => (diskCells d (gridV ga ca d.a.rows) (gridV gb cb d.b.rows)).getD i undef)
  a : WGrid N w ga ca fa d.a.rows
  b : WGrid N w gb cb fb d.b.rows
  lo : N ≤ p
  g : ga ≠ gb
  pa : p ≠ ga
  pb : p ≠ gb
  x : ∀ i j, i < d.a.rows.length → j < d.b.rows.length → Apart (fa i) (fb j)
  xa : ∀ i, i < d.a.rows.length → (fa i).ownBlock ≠ some gb
  xb : ∀ i, i < d.b.rows.length → (fb i).ownBlock ≠ some ga
  ya : ∀ i, i < d.a.rows.length → (fa i).ownBlock ≠ some p
  yb : ∀ i, i < d.b.rows.length → (fb i).ownBlock ≠ some p

theorem DiskW.keep {N : Nat} {w w' : World} {p : Nat} {d : DiskV} {ga ca gb cb : Nat} {fa fb : Nat → Value} (hk : ∀ b, N ≤ b → b < w.heap.size → w'.heap[b]? = w.heap[b]?) (h : DiskW N w p d ga ca fa gb cb fb) : DiskW N w' p d ga ca fa gb cb fb :=
  ⟨h.row.of_block (hk p h.lo h.row.lt), h.a.keep hk, h.b.keep hk, h.lo, h.g, h.pa, h.pb, h.x, h.xa, h.xb, h.ya, h.yb⟩
theorem DiskW.on {N : Nat} {w w' : World} {p : Nat} {d : DiskV} {ga ca gb cb : Nat} {fa fb : Nat → Value} (hb : Below w.heap.size w w') (h : DiskW N w p d ga ca fa gb cb fb) : DiskW N w' p d ga ca fa gb cb fb := h.keep (fun b _ hl => hb.block b hl)
theorem DiskW.less {N M : Nat} {w : World} {p : Nat} {d : DiskV} {ga ca gb cb : Nat} {fa fb : Nat → Value} (hM : M ≤ N) (h : DiskW N w p d ga ca fa gb cb fb) : DiskW M w p d ga ca fa gb cb fb :=
  ⟨h.row, h.a.less hM, h.b.less hM, Nat.le_trans hM h.lo, h.g, h.pa, h.pb, h.x, h.xa, h.xb, h.ya, h.yb⟩
theorem DiskW.own {N : Nat} {w : World} {p : Nat} {d : DiskV} {ga ca gb cb : Nat} {fa fb : Nat → Value} (h : DiskW N w p d ga ca fa gb cb fb) : DiskOwn N w d (gridV ga ca d.a.rows) (gridV gb cb d.b.rows) fa fb :=
  ⟨h.a.own, h.b.own, h.x, fun i hi b h1 h2 => by
    have e : gb = b := by simpa [Value.ownBlock] using h2
    exact h.xa i hi (by rw [h1, e]), fun i hi b h1 h2 => by
    have e : ga = b := by simpa [Value.ownBlock] using h2
    exact h.xb i hi (by rw [h1, e])⟩
theorem DiskW.cells {N : Nat} {w : World} {p : Nat} {d : DiskV} {ga ca gb cb : Nat} {fa fb : Nat → Value} (h : DiskW N w p d ga ca fa gb cb fb) : CellsAt w p 0 (diskCells d (gridV ga ca d.a.rows) (gridV gb cb d.b.rows)) :=
  rowIs_cells h.row _ (by simp) (fun j hj => by simp [List.getD, List.getElem?_eq_getElem hj])

def SlotCopied (s : SlotV) (w : World) (e : Ending) (w' : World) : Prop := ∃ g cap f, e = .returned (slotAgg s (gridV g cap s.rows)) ∧ WGrid w.heap.size w' g cap f s.rows ∧ Below w.heap.size w w'
def DiskOpened (d : DiskV) (w : World) (e : Ending) (w' : World) : Prop := ∃ p ga ca fa gb cb fb, e = .returned (.pointer (some ⟨p, 0, none⟩)) ∧ DiskW w.heap.size w' p d ga ca fa gb cb fb ∧ Below w.heap.size w w'
def Fits (ls : List (List Int)) : Prop := 0 < ls.length ∧ ls.length ≤ 1048576 ∧ ∀ l ∈ ls, l.length ≤ 1048576
theorem slotOk_fits {s : SlotV} (h : slotOk s = true) : Fits s.rows := by
  unfold slotOk at h
  simp only [Bool.and_eq_true, decide_eq_true_eq] at h
  obtain ⟨⟨_, h5⟩, h6⟩ := h
  refine ⟨by omega, by omega, fun l hl => ?_⟩
  have e := List.all_eq_true.1 h6 l hl
  unfold sectorOk at e
  simp only [Bool.and_eq_true, decide_eq_true_eq] at e
  omega
theorem diskOk_rows {d : DiskV} (h : diskOk d = true) : Fits d.a.rows ∧ Fits d.b.rows := by
  unfold diskOk at h
  simp only [Bool.and_eq_true] at h
  exact ⟨slotOk_fits h.1.1, slotOk_fits h.1.2⟩

set_option maxRecDepth 100000 in
set_option maxHeartbeats 2000000 in
theorem copySlot_any (s : SlotV) (v : Value) (w : World) (h : GridAt w v s.rows) (h0 : 0 < s.rows.length) (hlen : s.rows.length ≤ 1048576) (hl : ∀ l ∈ s.rows, l.length ≤ 1048576) :
    Calls Try.prog 80 #[slotAgg s v] w (SlotCopied s w) := by
  have H := hide h
  obtain ⟨a1, c1, rfl⟩ := h.sliced
  clear h
  have hb0 : Below w.heap.size w ((w.alloc (.cells #[.int .i64 s.num, .int .i64 s.cnt, .slice a1 s.rows.length c1] 25)).alloc (.cells #[.int .i64 0, .int .i64 0, .slice none 0 0] 25)) := ((Below.refl _ _).alloc (Nat.le_refl _) _).alloc (by simp) _
  have cA : CellsAt ((w.alloc (.cells #[.int .i64 s.num, .int .i64 s.cnt, .slice a1 s.rows.length c1] 25)).alloc (.cells #[.int .i64 0, .int .i64 0, .slice none 0 0] 25)) w.heap.size 0 (slotCells s (.slice a1 s.rows.length c1)) := (cellsAt_new w (slotCells s (.slice a1 s.rows.length c1)) 25).on ((Below.refl _ _).alloc (Nat.le_refl _) _)
  have rB : ((w.alloc (.cells #[.int .i64 s.num, .int .i64 s.cnt, .slice a1 s.rows.length c1] 25)).alloc (.cells #[.int .i64 0, .int .i64 0, .slice none 0 0] 25)).rowIs (w.heap.size + 1) 25 3 (fun i => [Value.int .i64 0, .int .i64 0, .slice none 0 0].getD i undef) := by
    have e := row_new (w.alloc (.cells #[.int .i64 s.num, .int .i64 s.cnt, .slice a1 s.rows.length c1] 25)) [.int .i64 0, .int .i64 0, .slice none 0 0] 25
    have hs : (w.alloc (.cells #[.int .i64 s.num, .int .i64 s.cnt, .slice a1 s.rows.length c1] 25)).heap.size = w.heap.size + 1 := by simp
    rw [hs] at e
    exact e
  have hs0 : ((w.alloc (.cells #[.int .i64 s.num, .int .i64 s.cnt, .slice a1 s.rows.length c1] 25)).alloc (.cells #[.int .i64 0, .int .i64 0, .slice none 0 0] 25)).heap.size = w.heap.size + 2 := by simp
  have HB0 := hide hb0
  have HA := hide cA
  have HR := hide rB
  have HS0 := hide hs0
  have HH0 := hide h0
  have HHL := hide hlen
  have HL := hide hl
  clear hb0 cA rB hs0 h0 hlen hl
  go_enter Try.func80, Try.ntmps80
  go_upto_region 1 with fail
  generalize ((w.alloc (.cells #[.int .i64 s.num, .int .i64 s.cnt, .slice a1 s.rows.length c1] 25)).alloc (.cells #[.int .i64 0, .int .i64 0, .slice none 0 0] 25)) = X at *
  refine wp_region_last (L := 8) (S := fun w' : World => w'.cell? ⟨w.heap.size, 0, none⟩ = some (.int .i64 s.num) ∧ w'.cell? ⟨w.heap.size, 1, none⟩ = some (.int .i64 s.cnt) ∧ w'.cell? ⟨w.heap.size, 2, none⟩ = some (.slice a1 s.rows.length c1)) (by kernel_rfl) ?_
  have hHeld : (fun w' : World => w'.cell? ⟨w.heap.size, 0, none⟩ = some (.int .i64 s.num) ∧ w'.cell? ⟨w.heap.size, 1, none⟩ = some (.int .i64 s.cnt) ∧ w'.cell? ⟨w.heap.size, 2, none⟩ = some (.slice a1 s.rows.length c1)) X.drew := ⟨((unhide HA).on (Below.refl _ _).drew) 0 (by simp), ((unhide HA).on (Below.refl _ _).drew) 1 (by simp), ((unhide HA).on (Below.refl _ _).drew) 2 (by simp)⟩
  refine wpAnyL_take (i := 0) (v := ?_) (by kernel_rfl) rfl (by kernel_rfl) (by kernel_rfl) (by kernel_rfl) (fun _ _ _ h => h) hHeld (Or.inl ⟨by kernel_rfl, ?_⟩) ?_
  rotate_left
  · (intro w hSw; (try dsimp only at hSw); obtain ⟨s0, s1, s2⟩ := hSw; go_simp; try with_reducible rfl)
  refine wpAnyL_take (i := 1) (v := ?_) (by kernel_rfl) rfl (by kernel_rfl) (by kernel_rfl) (by kernel_rfl) (fun _ _ _ h => h) hHeld (Or.inl ⟨by kernel_rfl, ?_⟩) ?_
  rotate_left
  · (intro w hSw; (try dsimp only at hSw); obtain ⟨s0, s1, s2⟩ := hSw; go_simp; try with_reducible rfl)
  refine wpAnyL_take (i := 2) (v := ?_) (by kernel_rfl) rfl (by kernel_rfl) (by kernel_rfl) (by kernel_rfl) (fun _ _ _ h => h) hHeld (Or.inl ⟨by kernel_rfl, ?_⟩) ?_
  rotate_left
  · (intro w hSw; (try dsimp only at hSw); obtain ⟨s0, s1, s2⟩ := hSw; go_simp; try with_reducible rfl)
  refine wpAnyL_take (i := 3) (v := ?_) (by kernel_rfl) rfl (by kernel_rfl) (by kernel_rfl) (by kernel_rfl) (fun _ _ _ h => h) hHeld (Or.inl ⟨by kernel_rfl, ?_⟩) ?_
  rotate_left
  · (intro w hSw; (try dsimp only at hSw); obtain ⟨s0, s1, s2⟩ := hSw; go_simp; try with_reducible rfl)
  refine wpAnyL_take (i := 4) (v := ?_) (by kernel_rfl) rfl (by kernel_rfl) (by kernel_rfl) (by kernel_rfl) (fun _ _ _ h => h) hHeld (Or.inl ⟨by kernel_rfl, ?_⟩) ?_
  rotate_left
  · (intro w hSw; (try dsimp only at hSw); obtain ⟨s0, s1, s2⟩ := hSw; go_simp; try with_reducible rfl)
  refine wpAnyL_take (i := 5) (v := ?_) (by kernel_rfl) rfl (by kernel_rfl) (by kernel_rfl) (by kernel_rfl) (fun _ _ _ h => h) hHeld (Or.inl ⟨by kernel_rfl, ?_⟩) ?_
  rotate_left
  · (intro w hSw; (try dsimp only at hSw); obtain ⟨s0, s1, s2⟩ := hSw; go_simp; try with_reducible rfl)
  refine wpAnyL_one (i := 6) (by kernel_rfl) rfl (fun K hK => ?_)
  go_simp
  refine (copyEach_any _ s.rows X.drew (((unhide H).on (unhide HB0)).on (Below.refl _ _).drew) (unhide HH0) (unhide HHL) (unhide HL)).mono ?_
  rintro e w1 ⟨g, cap, f, rfl, hg, hb1⟩
  have HG := hide hg
  have HX1 : Hid (Below X.heap.size X w1) := hide (below_then (Below.refl _ _).drew hb1)
  clear hg hb1
  (try go_simp)
  refine held_on hK ?_ (fun hHeld => ?_)
  · exact ⟨((unhide HA).on (unhide HX1)) 0 (by simp), ((unhide HA).on (unhide HX1)) 1 (by simp), ((unhide HA).on (unhide HX1)) 2 (by simp)⟩
  clear hK K
  refine wpAnyL_one (i := 7) (by kernel_rfl) rfl (fun K hK => ?_)
  go_simp
  refine held_on hK ?_ (fun hHeld => ?_)
  · exact hHeld
  clear hK K
  have hrx := (unhide HR).of_block ((unhide HX1).block (w.heap.size + 1) (unhide HR).lt)
  have y0 : w1.cell? ⟨w.heap.size + 1, 0, none⟩ = some (.int .i64 0) := hrx.cell (i := 0) (by omega)
  have z0 := hrx.frozen 0
  have y1 : w1.cell? ⟨w.heap.size + 1, 1, none⟩ = some (.int .i64 0) := hrx.cell (i := 1) (by omega)
  have z1 := hrx.frozen 1
  have y2 : w1.cell? ⟨w.heap.size + 1, 2, none⟩ = some (.slice none 0 0) := hrx.cell (i := 2) (by omega)
  have z2 := hrx.frozen 2
  clear hrx
  refine wpAnyL_end (by kernel_rfl) rfl (fun K hK => ?_)
  go_simp
  refine hK.out _ _ ?_
  clear hK K
  refine wpAnyL_done (by kernel_rfl) ?_ _
  go_wp2_with fail
  have hss := unhide HS0
  refine bodyPost_ret (v := slotAgg s (gridV g cap s.rows)) (by simp [results, Try.results80, go_sem, y0, y1, y2]) rfl ?_
  show SlotCopied s w _ (setVals w1 (w.heap.size + 1) 0 (slotCells s (gridV g cap s.rows)))
  have hg : WGrid (w.heap.size + 2) w1 g cap f s.rows := (unhide HG).less (by simp [hss])
  exact ⟨g, cap, f, rfl, (hg.keep (w' := setVals w1 (w.heap.size + 1) 0 (slotCells s (gridV g cap s.rows))) (fun b hb _ => setVals_other _ _ _ b (by omega))).less (by omega), setVals_below (slotCells s (gridV g cap s.rows)) 0 w1 (below_then (unhide HB0) (unhide HX1)) (by omega)⟩

set_option maxRecDepth 100000 in
set_option maxHeartbeats 2000000 in
theorem openDisk_any (d : DiskV) (va vb : Value) (w : World) (h : DiskAt w d va vb) (hok : diskOk d = true) :
    Calls Try.prog 56 #[diskAgg d va vb] w (DiskOpened d w) := by
  have H := hide h
  obtain ⟨a1, c1, rfl⟩ := h.a.sliced
  obtain ⟨a2, c2, rfl⟩ := h.b.sliced
  clear h
  have hb0 : Below w.heap.size w (w.alloc (.cells #[.int .i64 d.a.num, .int .i64 d.a.cnt, .slice a1 d.a.rows.length c1, .int .i64 d.b.num, .int .i64 d.b.cnt, .slice a2 d.b.rows.length c2] 27)) := (Below.refl _ _).alloc (Nat.le_refl _) _
  have cA : CellsAt (w.alloc (.cells #[.int .i64 d.a.num, .int .i64 d.a.cnt, .slice a1 d.a.rows.length c1, .int .i64 d.b.num, .int .i64 d.b.cnt, .slice a2 d.b.rows.length c2] 27)) w.heap.size 0 (diskCells d (.slice a1 d.a.rows.length c1) (.slice a2 d.b.rows.length c2)) := cellsAt_new w (diskCells d (.slice a1 d.a.rows.length c1) (.slice a2 d.b.rows.length c2)) 27
  have hs0 : (w.alloc (.cells #[.int .i64 d.a.num, .int .i64 d.a.cnt, .slice a1 d.a.rows.length c1, .int .i64 d.b.num, .int .i64 d.b.cnt, .slice a2 d.b.rows.length c2] 27)).heap.size = w.heap.size + 1 := by simp
  have HB0 := hide hb0
  have HA := hide cA
  have HS0 := hide hs0
  have HLA := hide (diskOk_rows hok).1
  have HLB := hide (diskOk_rows hok).2
  clear hb0 cA hs0 hok
  go_enter Try.func56, Try.ntmps56
  go_upto_region 1 with fail
  generalize (w.alloc (.cells #[.int .i64 d.a.num, .int .i64 d.a.cnt, .slice a1 d.a.rows.length c1, .int .i64 d.b.num, .int .i64 d.b.cnt, .slice a2 d.b.rows.length c2] 27)) = X at *
  refine wp_region_last (L := 9) (S := fun w' : World => w'.cell? ⟨w.heap.size, 0, none⟩ = some (.int .i64 d.a.num) ∧ w'.cell? ⟨w.heap.size, 1, none⟩ = some (.int .i64 d.a.cnt) ∧ w'.cell? ⟨w.heap.size, 2, none⟩ = some (.slice a1 d.a.rows.length c1) ∧ w'.cell? ⟨w.heap.size, 3, none⟩ = some (.int .i64 d.b.num) ∧ w'.cell? ⟨w.heap.size, 4, none⟩ = some (.int .i64 d.b.cnt) ∧ w'.cell? ⟨w.heap.size, 5, none⟩ = some (.slice a2 d.b.rows.length c2)) (by kernel_rfl) ?_
  have hHeld : (fun w' : World => w'.cell? ⟨w.heap.size, 0, none⟩ = some (.int .i64 d.a.num) ∧ w'.cell? ⟨w.heap.size, 1, none⟩ = some (.int .i64 d.a.cnt) ∧ w'.cell? ⟨w.heap.size, 2, none⟩ = some (.slice a1 d.a.rows.length c1) ∧ w'.cell? ⟨w.heap.size, 3, none⟩ = some (.int .i64 d.b.num) ∧ w'.cell? ⟨w.heap.size, 4, none⟩ = some (.int .i64 d.b.cnt) ∧ w'.cell? ⟨w.heap.size, 5, none⟩ = some (.slice a2 d.b.rows.length c2)) X.drew := ⟨((unhide HA).on (Below.refl _ _).drew) 0 (by simp), ((unhide HA).on (Below.refl _ _).drew) 1 (by simp), ((unhide HA).on (Below.refl _ _).drew) 2 (by simp), ((unhide HA).on (Below.refl _ _).drew) 3 (by simp), ((unhide HA).on (Below.refl _ _).drew) 4 (by simp), ((unhide HA).on (Below.refl _ _).drew) 5 (by simp)⟩
  refine wpAnyL_take (i := 0) (v := ?_) (by kernel_rfl) rfl (by kernel_rfl) (by kernel_rfl) (by kernel_rfl) (fun _ _ _ h => h) hHeld (Or.inl ⟨by kernel_rfl, ?_⟩) ?_
  rotate_left
  · (intro w hSw; (try dsimp only at hSw); obtain ⟨s0, s1, s2, s3, s4, s5⟩ := hSw; go_simp; try with_reducible rfl)
  refine wpAnyL_take (i := 1) (v := ?_) (by kernel_rfl) rfl (by kernel_rfl) (by kernel_rfl) (by kernel_rfl) (fun _ _ _ h => h) hHeld (Or.inl ⟨by kernel_rfl, ?_⟩) ?_
  rotate_left
  · (intro w hSw; (try dsimp only at hSw); obtain ⟨s0, s1, s2, s3, s4, s5⟩ := hSw; go_simp; try with_reducible rfl)
  refine wpAnyL_take (i := 3) (v := ?_) (by kernel_rfl) rfl (by kernel_rfl) (by kernel_rfl) (by kernel_rfl) (fun _ _ _ h => h) hHeld (Or.inl ⟨by kernel_rfl, ?_⟩) ?_
  rotate_left
  · (intro w hSw; (try dsimp only at hSw); obtain ⟨s0, s1, s2, s3, s4, s5⟩ := hSw; go_simp; try with_reducible rfl)
  refine wpAnyL_take (i := 4) (v := ?_) (by kernel_rfl) rfl (by kernel_rfl) (by kernel_rfl) (by kernel_rfl) (fun _ _ _ h => h) hHeld (Or.inl ⟨by kernel_rfl, ?_⟩) ?_
  rotate_left
  · (intro w hSw; (try dsimp only at hSw); obtain ⟨s0, s1, s2, s3, s4, s5⟩ := hSw; go_simp; try with_reducible rfl)
  refine wpAnyL_one (i := 2) (by kernel_rfl) rfl (fun K hK => ?_)
  go_simp
  refine (copySlot_any d.a _ X.drew (((unhide H).a.on (unhide HB0)).on (Below.refl _ _).drew) (unhide HLA).1 (unhide HLA).2.1 (unhide HLA).2.2).mono ?_
  rintro e w1 ⟨ga, ca, fa, rfl, hga, hb1⟩
  have HGA : Hid (WGrid X.heap.size w1 ga ca fa d.a.rows) := hide hga
  have HX1 : Hid (Below X.heap.size X w1) := hide (below_then (Below.refl _ _).drew hb1)
  clear hga hb1
  (try go_simp)
  refine held_on hK ?_ (fun hHeld => ?_)
  · exact ⟨((unhide HA).on (unhide HX1)) 0 (by simp), ((unhide HA).on (unhide HX1)) 1 (by simp), ((unhide HA).on (unhide HX1)) 2 (by simp), ((unhide HA).on (unhide HX1)) 3 (by simp), ((unhide HA).on (unhide HX1)) 4 (by simp), ((unhide HA).on (unhide HX1)) 5 (by simp)⟩
  clear hK K
  refine wpAnyL_one (i := 5) (by kernel_rfl) rfl (fun K hK => ?_)
  go_simp
  refine (copySlot_any d.b _ w1 (((unhide H).b.on (unhide HB0)).on (unhide HX1)) (unhide HLB).1 (unhide HLB).2.1 (unhide HLB).2.2).mono ?_
  rintro e w2 ⟨gb, cb, fb, rfl, hgb, hb2⟩
  have HGB : Hid (WGrid w1.heap.size w2 gb cb fb d.b.rows) := hide hgb
  have HX2 : Hid (Below w1.heap.size w1 w2) := hide hb2
  have HX3 : Hid (Below X.heap.size X w2) := hide (below_then (unhide HX1) hb2)
  clear hgb hb2
  (try go_simp)
  refine held_on hK ?_ (fun hHeld => ?_)
  · exact ⟨((unhide HA).on (unhide HX3)) 0 (by simp), ((unhide HA).on (unhide HX3)) 1 (by simp), ((unhide HA).on (unhide HX3)) 2 (by simp), ((unhide HA).on (unhide HX3)) 3 (by simp), ((unhide HA).on (unhide HX3)) 4 (by simp), ((unhide HA).on (unhide HX3)) 5 (by simp)⟩
  clear hK K
  refine wpAnyL_one (i := 6) (by kernel_rfl) rfl (fun K hK => ?_)
  go_simp
  refine held_on hK ?_ (fun hHeld => ?_)
  · exact hHeld
  clear hK K
  refine wpAnyL_one (i := 7) (by kernel_rfl) rfl (fun K hK => ?_)
  go_simp
  refine held_on hK ?_ (fun hHeld => ?_)
  · exact hHeld
  clear hK K
  refine wpAnyL_one (i := 8) (by kernel_rfl) rfl (fun K hK => ?_)
  go_simp
  have HX4 : Hid (Below X.heap.size X (w2.alloc (.cells #[.int .i64 d.a.num, .int .i64 d.a.cnt, gridV ga ca d.a.rows, .int .i64 d.b.num, .int .i64 d.b.cnt, gridV gb cb d.b.rows] 86))) := hide ((unhide HX3).alloc (unhide HX3).size _)
  refine held_on hK ?_ (fun hHeld => ?_)
  · exact ⟨((unhide HA).on (unhide HX4)) 0 (by simp), ((unhide HA).on (unhide HX4)) 1 (by simp), ((unhide HA).on (unhide HX4)) 2 (by simp), ((unhide HA).on (unhide HX4)) 3 (by simp), ((unhide HA).on (unhide HX4)) 4 (by simp), ((unhide HA).on (unhide HX4)) 5 (by simp)⟩
  clear hK K
  refine wpAnyL_end (by kernel_rfl) rfl (fun K hK => ?_)
  go_simp
  refine hK.out _ _ ?_
  clear hK K
  refine wpAnyL_done (by kernel_rfl) ?_ _
  go_wp2_with fail
  go_ret
  show DiskOpened d w _ _
  have hss := unhide HS0
  have hga := unhide HGA
  have hgb := unhide HGB
  have h3 := (unhide HX2).size
  have h1 := (unhide HX1).size
  have hlt := hga.row.lt
  have hltb := hgb.row.lt
  have hnew : Below w2.heap.size w2 (w2.alloc (.cells #[.int .i64 d.a.num, .int .i64 d.a.cnt, gridV ga ca d.a.rows, .int .i64 d.b.num, .int .i64 d.b.cnt, gridV gb cb d.b.rows] 86)) := (Below.refl _ _).alloc (Nat.le_refl _) _
  have hla := hga.lo
  have hlb := hgb.lo
  refine ⟨w2.heap.size, ga, ca, fa, gb, cb, fb, rfl, ⟨row_new w2 (diskCells d (gridV ga ca d.a.rows) (gridV gb cb d.b.rows)) 86, ((hga.on (unhide HX2)).on hnew).less (by omega), (hgb.on hnew).less (by omega), by omega, by omega, by omega, by omega, fun i j hi hj b e1 e2 => ?_, fun i hi e => ?_, fun i hi e => ?_, fun i hi e => ?_, fun i hi e => ?_⟩, below_then (unhide HB0) (unhide HX4)⟩
  · have := ((hga.rows i hi).blk b e1).2; have := ((hgb.rows j hj).blk b e2).1; omega
  · have := ((hga.rows i hi).blk gb e).2; omega
  · have := ((hgb.rows i hi).blk ga e).1; omega
  · have := ((hga.rows i hi).blk _ e).2; omega
  · have := ((hgb.rows i hi).blk _ e).2; omega
end Go.Proofs.Ytocgfngcgekciaa
