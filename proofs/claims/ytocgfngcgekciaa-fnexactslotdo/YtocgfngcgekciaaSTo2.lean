/- The exact laws' to of disks. -/
import Derived.Test.YtocgfngcgekciaaSTo
namespace Go.Proofs.Ytocgfngcgekciaa
open Go.RowKit
set_option linter.unusedVariables false
set_option linter.unusedSimpArgs false


set_option maxRecDepth 100000 in
set_option maxHeartbeats 2000000 in
theorem toSlotDisk_any (d : DiskV) (va vb : Value) (w : World) (h : DiskAt w d va vb) (hla : d.a.rows.length ≤ 1048576) (hl1 : ∀ l ∈ d.a.rows, l.length ≤ 1048576) (hlb : d.b.rows.length ≤ 1048576) (hl2 : ∀ l ∈ d.b.rows, l.length ≤ 1048576) :
    Calls Try.prog 29 #[diskAgg d va vb] w fun e w' => ∃ ua ub us vs, e = .returned (diskAgg d ua ub) ∧ DiskOwn (w.heap.size + 3) w' d ua ub us vs ∧ w.heap.size + 3 ≤ w'.heap.size ∧ Below w.heap.size w w' := by
  have H := hide h
  obtain ⟨a1, c1, rfl⟩ := h.a.sliced
  obtain ⟨a2, c2, rfl⟩ := h.b.sliced
  have HL1 := hide hl1
  have HL2 := hide hl2
  clear h hl1 hl2
  obtain ⟨W0, hW0⟩ : ∃ W0, W0 = (((w.alloc (.cells #[.int .i64 d.a.num, .int .i64 d.a.cnt, .slice a1 d.a.rows.length c1, .int .i64 d.b.num, .int .i64 d.b.cnt, .slice a2 d.b.rows.length c2] 51)).alloc (.cells #[.int .i64 0, .int .i64 0, .slice none 0 0, .int .i64 0, .int .i64 0, .slice none 0 0] 27)).alloc (.cells #[.int .i64 0, .int .i64 0, .slice none 0 0, .int .i64 0, .int .i64 0, .slice none 0 0] 27)) := ⟨_, rfl⟩
  have hs1 : (w.alloc (.cells #[.int .i64 d.a.num, .int .i64 d.a.cnt, .slice a1 d.a.rows.length c1, .int .i64 d.b.num, .int .i64 d.b.cnt, .slice a2 d.b.rows.length c2] 51)).heap.size = w.heap.size + 1 := World.size_alloc _ _
  have hs2 : ((w.alloc (.cells #[.int .i64 d.a.num, .int .i64 d.a.cnt, .slice a1 d.a.rows.length c1, .int .i64 d.b.num, .int .i64 d.b.cnt, .slice a2 d.b.rows.length c2] 51)).alloc (.cells #[.int .i64 0, .int .i64 0, .slice none 0 0, .int .i64 0, .int .i64 0, .slice none 0 0] 27)).heap.size = w.heap.size + 2 := by rw [World.size_alloc, hs1]
  have hs3 : W0.heap.size = w.heap.size + 3 := by rw [hW0, World.size_alloc, hs2]
  have b12 := (Below.refl (w.alloc (.cells #[.int .i64 d.a.num, .int .i64 d.a.cnt, .slice a1 d.a.rows.length c1, .int .i64 d.b.num, .int .i64 d.b.cnt, .slice a2 d.b.rows.length c2] 51)).heap.size (w.alloc (.cells #[.int .i64 d.a.num, .int .i64 d.a.cnt, .slice a1 d.a.rows.length c1, .int .i64 d.b.num, .int .i64 d.b.cnt, .slice a2 d.b.rows.length c2] 51))).alloc (Nat.le_refl _) (.cells #[.int .i64 0, .int .i64 0, .slice none 0 0, .int .i64 0, .int .i64 0, .slice none 0 0] 27)
  have b23 := (Below.refl _ ((w.alloc (.cells #[.int .i64 d.a.num, .int .i64 d.a.cnt, .slice a1 d.a.rows.length c1, .int .i64 d.b.num, .int .i64 d.b.cnt, .slice a2 d.b.rows.length c2] 51)).alloc (.cells #[.int .i64 0, .int .i64 0, .slice none 0 0, .int .i64 0, .int .i64 0, .slice none 0 0] 27))).alloc (Nat.le_refl _) (.cells #[.int .i64 0, .int .i64 0, .slice none 0 0, .int .i64 0, .int .i64 0, .slice none 0 0] 27)
  have b13 := below_then b12 b23
  rw [← hW0] at b13 b23
  have K1 := hide ((cellsAt_new w [.int .i64 d.a.num, .int .i64 d.a.cnt, .slice a1 d.a.rows.length c1, .int .i64 d.b.num, .int .i64 d.b.cnt, .slice a2 d.b.rows.length c2] 51).on b13)
  have R2 := hide ((row_new (w.alloc (.cells #[.int .i64 d.a.num, .int .i64 d.a.cnt, .slice a1 d.a.rows.length c1, .int .i64 d.b.num, .int .i64 d.b.cnt, .slice a2 d.b.rows.length c2] 51)) [.int .i64 0, .int .i64 0, .slice none 0 0, .int .i64 0, .int .i64 0, .slice none 0 0] 27).of_block (b23.block _ (by rw [hs1, hs2]; omega)))
  have R3 := hide (row_new ((w.alloc (.cells #[.int .i64 d.a.num, .int .i64 d.a.cnt, .slice a1 d.a.rows.length c1, .int .i64 d.b.num, .int .i64 d.b.cnt, .slice a2 d.b.rows.length c2] 51)).alloc (.cells #[.int .i64 0, .int .i64 0, .slice none 0 0, .int .i64 0, .int .i64 0, .slice none 0 0] 27)) [.int .i64 0, .int .i64 0, .slice none 0 0, .int .i64 0, .int .i64 0, .slice none 0 0] 27)
  rw [hs1] at R2
  rw [hs2] at R3
  have R3' : Hid (W0.rowIs (w.heap.size + 2) 27 6 (fun i => ([.int .i64 0, .int .i64 0, .slice none 0 0, .int .i64 0, .int .i64 0, .slice none 0 0] : List Value).getD i undef)) := hide (by rw [hW0]; exact unhide R3)
  have HB : Hid (Below w.heap.size w W0) := hide (((Below.refl w.heap.size w).alloc (Nat.le_refl _) _).trans (b13.mono (by rw [hs1]; omega)))
  have HW := hide hW0
  have HS := hide hs3
  clear R3 b12 b23 b13 hs1 hs2 hs3 hW0
  go_enter Try.func29, Try.ntmps29
  go_upto_region 2 with fail
  rw [← unhide HW]
  clear HW
  have m0 : W0.cell? ⟨w.heap.size, 0, none⟩ = some (.int .i64 d.a.num) := (unhide K1) 0 (by simp)
  have m1 : W0.cell? ⟨w.heap.size, 1, none⟩ = some (.int .i64 d.a.cnt) := (unhide K1) 1 (by simp)
  have m2 : W0.cell? ⟨w.heap.size, 2, none⟩ = some (.slice a1 d.a.rows.length c1) := (unhide K1) 2 (by simp)
  go_wp2_with fail
  refine (toSlot_any d.a _ W0 ((unhide H).a.on (unhide HB)) hla (unhide HL1)).mono ?_
  rintro e w1 ⟨va, f, rfl, hg, hz1, hb1⟩
  obtain ⟨ga, gc, rfl⟩ := hg.at.sliced
  clear m0 m1 m2
  have hs := unhide HS
  have r2 := (unhide R2).of_block (hb1.block (w.heap.size + 1) (by omega))
  have r3 := (unhide R3').of_block (hb1.block (w.heap.size + 2) (by omega))
  have k1 := (unhide K1).on (hb1.mono (show W0.heap.size ≤ W0.heap.size from Nat.le_refl _))
  have hset : ((w1.setCell ⟨w.heap.size + 2, 0, none⟩ (.int .i64 d.a.num)).setCell ⟨w.heap.size + 2, 1, none⟩ (.int .i64 d.a.cnt)).setCell ⟨w.heap.size + 2, 2, none⟩ (.slice ga d.a.rows.length gc) = setVals w1 (w.heap.size + 2) 0 [.int .i64 d.a.num, .int .i64 d.a.cnt, .slice ga d.a.rows.length gc] := rfl
  have hrow3 := setVals_row [.int .i64 d.a.num, .int .i64 d.a.cnt, .slice ga d.a.rows.length gc] 0 w1 _ r3
  have HO := setVals_other (b := w.heap.size + 2) [.int .i64 d.a.num, .int .i64 d.a.cnt, .slice ga d.a.rows.length gc] 0 w1
  have r2' := r2.of_block (HO (w.heap.size + 1) (by omega))
  have k1' : CellsAt (setVals w1 (w.heap.size + 2) 0 [.int .i64 d.a.num, .int .i64 d.a.cnt, .slice ga d.a.rows.length gc]) w.heap.size 0 [.int .i64 d.a.num, .int .i64 d.a.cnt, .slice a1 d.a.rows.length c1, .int .i64 d.b.num, .int .i64 d.b.cnt, .slice a2 d.b.rows.length c2] := fun j hj => by rw [cell_block (HO w.heap.size (by omega))]; exact k1 j hj
  have hg3 := hg.keep (w' := setVals w1 (w.heap.size + 2) 0 [.int .i64 d.a.num, .int .i64 d.a.cnt, .slice ga d.a.rows.length gc]) (fun b h1 h2 => HO b (by omega))
  have hb3 : Below w.heap.size w (setVals w1 (w.heap.size + 2) 0 [.int .i64 d.a.num, .int .i64 d.a.cnt, .slice ga d.a.rows.length gc]) := setVals_below _ _ _ ((unhide HB).trans (hb1.mono (by omega))) (by omega)
  have g0 : w1.cell? ⟨w.heap.size + 2, 0, none⟩ = some (.int .i64 0) := r3.cell (i := 0) (by omega)
  have g1 : w1.cell? ⟨w.heap.size + 2, 1, none⟩ = some (.int .i64 0) := r3.cell (i := 1) (by omega)
  have g2 : w1.cell? ⟨w.heap.size + 2, 2, none⟩ = some (.slice none 0 0) := r3.cell (i := 2) (by omega)
  have z0 : w1.frozen? ⟨w.heap.size + 2, 0, none⟩ = false := r3.frozen 0
  have z1 : w1.frozen? ⟨w.heap.size + 2, 1, none⟩ = false := r3.frozen 1
  have z2 : w1.frozen? ⟨w.heap.size + 2, 2, none⟩ = false := r3.frozen 2
  have HR2 := hide r2'
  have HR3 := hide hrow3
  have HK := hide k1'
  have HG := hide hg3
  have HB3 := hide hb3
  have HSET := hide hset
  have HSZ : Hid (W0.heap.size + 3 ≤ (setVals w1 (w.heap.size + 2) 0 [.int .i64 d.a.num, .int .i64 d.a.cnt, .slice ga d.a.rows.length gc]).heap.size) := hide (by rw [setVals_size]; exact hz1)
  clear r2 r3 hrow3 r2' hg3 hb3 hg hb1 hs k1 k1' HO hset hz1
  go_upto_region 3 with fail
  clear g0 g1 g2 z0 z1 z2
  rw [unhide HSET]
  clear HSET
  generalize setVals w1 (w.heap.size + 2) 0 [.int .i64 d.a.num, .int .i64 d.a.cnt, .slice ga d.a.rows.length gc] = W3 at *
  have m3 : W3.cell? ⟨w.heap.size, 3, none⟩ = some (.int .i64 d.b.num) := (unhide HK) 3 (by simp)
  have m4 : W3.cell? ⟨w.heap.size, 4, none⟩ = some (.int .i64 d.b.cnt) := (unhide HK) 4 (by simp)
  have m5 : W3.cell? ⟨w.heap.size, 5, none⟩ = some (.slice a2 d.b.rows.length c2) := (unhide HK) 5 (by simp)
  go_wp2_with fail
  refine (toSlot_any d.b _ W3 ((unhide H).b.on (unhide HB3)) hlb (unhide HL2)).mono ?_
  rintro e w4 ⟨vb, f2, rfl, hg4, hz4, hb4⟩
  obtain ⟨gb, gd, rfl⟩ := hg4.at.sliced
  clear m3 m4 m5
  have hs := unhide HS
  have hsz := unhide HSZ
  have hga := (unhide HG).on hb4
  have r2 := (unhide HR2).of_block (hb4.block (w.heap.size + 1) (by omega))
  have r3 := (unhide HR3).of_block (hb4.block (w.heap.size + 2) (by omega))
  have hset : ((w4.setCell ⟨w.heap.size + 2, 3, none⟩ (.int .i64 d.b.num)).setCell ⟨w.heap.size + 2, 4, none⟩ (.int .i64 d.b.cnt)).setCell ⟨w.heap.size + 2, 5, none⟩ (.slice gb d.b.rows.length gd) = setVals w4 (w.heap.size + 2) 3 [.int .i64 d.b.num, .int .i64 d.b.cnt, .slice gb d.b.rows.length gd] := rfl
  have hrow5 := setVals_row [.int .i64 d.b.num, .int .i64 d.b.cnt, .slice gb d.b.rows.length gd] 3 w4 _ r3
  have HO := setVals_other (b := w.heap.size + 2) [.int .i64 d.b.num, .int .i64 d.b.cnt, .slice gb d.b.rows.length gd] 3 w4
  have r2' := r2.of_block (HO (w.heap.size + 1) (by omega))
  have hgb5 := hg4.keep (w' := setVals w4 (w.heap.size + 2) 3 [.int .i64 d.b.num, .int .i64 d.b.cnt, .slice gb d.b.rows.length gd]) (fun b h1 h2 => HO b (by omega))
  have hga5 := hga.keep (w' := setVals w4 (w.heap.size + 2) 3 [.int .i64 d.b.num, .int .i64 d.b.cnt, .slice gb d.b.rows.length gd]) (fun b h1 h2 => HO b (by omega))
  have hb5 : Below w.heap.size w (setVals w4 (w.heap.size + 2) 3 [.int .i64 d.b.num, .int .i64 d.b.cnt, .slice gb d.b.rows.length gd]) := setVals_below _ _ _ ((unhide HB3).trans (hb4.mono (by omega))) (by omega)
  have hown : DiskOwn (w.heap.size + 3) (setVals w4 (w.heap.size + 2) 3 [.int .i64 d.b.num, .int .i64 d.b.cnt, .slice gb d.b.rows.length gd]) d (.slice ga d.a.rows.length gc) (.slice gb d.b.rows.length gd) f f2 := by
    refine ⟨hga5.less (by omega), hgb5.less (by omega), fun i j hi hj g e1 e2 => ?_, fun i hi g e1 e2 => ?_, fun j hj g e1 e2 => ?_⟩
    · have h1 := (((unhide HG).rows i hi).blk g e1).2
      have h2 := ((hg4.rows j hj).blk g e2).1
      omega
    · have h1 := (((unhide HG).rows i hi).blk g e1).2
      have h2 := (hg4.blk g e2).1
      omega
    · have h1 := ((hg4.rows j hj).blk g e1).1
      have h2 := ((unhide HG).blk g e2).2
      omega
  have g3 : w4.cell? ⟨w.heap.size + 2, 3, none⟩ = some (.int .i64 0) := by have e := r3.cell (i := 3) (by omega); simpa using e
  have g4 : w4.cell? ⟨w.heap.size + 2, 4, none⟩ = some (.int .i64 0) := by have e := r3.cell (i := 4) (by omega); simpa using e
  have g5 : w4.cell? ⟨w.heap.size + 2, 5, none⟩ = some (.slice none 0 0) := by have e := r3.cell (i := 5) (by omega); simpa using e
  have z3 : w4.frozen? ⟨w.heap.size + 2, 3, none⟩ = false := r3.frozen 3
  have z4 : w4.frozen? ⟨w.heap.size + 2, 4, none⟩ = false := r3.frozen 4
  have z5 : w4.frozen? ⟨w.heap.size + 2, 5, none⟩ = false := r3.frozen 5
  have HR22 := hide r2'
  have HR33 := hide hrow5
  have HOWN := hide hown
  have HB5 := hide hb5
  have HSET := hide hset
  have HSZ5 : Hid (w.heap.size + 3 ≤ (setVals w4 (w.heap.size + 2) 3 [.int .i64 d.b.num, .int .i64 d.b.cnt, .slice gb d.b.rows.length gd]).heap.size) := hide (by rw [setVals_size]; omega)
  clear r2 r3 hrow5 r2' hgb5 hga5 hb5 hown hg4 hb4 hs hsz hga HO hset hz4
  go_upto_region 4 with fail
  clear g3 g4 g5 z3 z4 z5
  rw [unhide HSET]
  clear HSET
  generalize setVals w4 (w.heap.size + 2) 3 [.int .i64 d.b.num, .int .i64 d.b.cnt, .slice gb d.b.rows.length gd] = W5 at *
  have k0 : W5.cell? ⟨w.heap.size + 2, 0, none⟩ = some (.int .i64 d.a.num) := by have e := (unhide HR33).cell (i := 0) (by simp); simpa using e
  have k1 : W5.cell? ⟨w.heap.size + 2, 1, none⟩ = some (.int .i64 d.a.cnt) := by have e := (unhide HR33).cell (i := 1) (by simp); simpa using e
  have k2 : W5.cell? ⟨w.heap.size + 2, 2, none⟩ = some (.slice ga d.a.rows.length gc) := by have e := (unhide HR33).cell (i := 2) (by simp); simpa using e
  have k3 : W5.cell? ⟨w.heap.size + 2, 3, none⟩ = some (.int .i64 d.b.num) := by have e := (unhide HR33).cell (i := 3) (by simp); simpa using e
  have k4 : W5.cell? ⟨w.heap.size + 2, 4, none⟩ = some (.int .i64 d.b.cnt) := by have e := (unhide HR33).cell (i := 4) (by simp); simpa using e
  have k5 : W5.cell? ⟨w.heap.size + 2, 5, none⟩ = some (.slice gb d.b.rows.length gd) := by have e := (unhide HR33).cell (i := 5) (by simp); simpa using e
  have x0 : W5.cell? ⟨w.heap.size + 1, 0, none⟩ = some (.int .i64 0) := (unhide HR22).cell (i := 0) (by simp)
  have x1 : W5.cell? ⟨w.heap.size + 1, 1, none⟩ = some (.int .i64 0) := (unhide HR22).cell (i := 1) (by simp)
  have x2 : W5.cell? ⟨w.heap.size + 1, 2, none⟩ = some (.slice none 0 0) := (unhide HR22).cell (i := 2) (by simp)
  have x3 : W5.cell? ⟨w.heap.size + 1, 3, none⟩ = some (.int .i64 0) := (unhide HR22).cell (i := 3) (by simp)
  have x4 : W5.cell? ⟨w.heap.size + 1, 4, none⟩ = some (.int .i64 0) := (unhide HR22).cell (i := 4) (by simp)
  have x5 : W5.cell? ⟨w.heap.size + 1, 5, none⟩ = some (.slice none 0 0) := (unhide HR22).cell (i := 5) (by simp)
  have z0 := (unhide HR22).frozen 0
  have z1 := (unhide HR22).frozen 1
  have z2 := (unhide HR22).frozen 2
  have z3 := (unhide HR22).frozen 3
  have z4 := (unhide HR22).frozen 4
  have z5 := (unhide HR22).frozen 5
  have hrow := setVals_row [.int .i64 d.a.num, .int .i64 d.a.cnt, .slice ga d.a.rows.length gc, .int .i64 d.b.num, .int .i64 d.b.cnt, .slice gb d.b.rows.length gd] 0 W5 _ (unhide HR22)
  have v0 := hrow.cell (i := 0) (by simp)
  have v1 := hrow.cell (i := 1) (by simp)
  have v2 := hrow.cell (i := 2) (by simp)
  have v3 := hrow.cell (i := 3) (by simp)
  have v4 := hrow.cell (i := 4) (by simp)
  have v5 := hrow.cell (i := 5) (by simp)
  simp at v0 v1 v2 v3 v4 v5
  have V0 := hide v0
  have V1 := hide v1
  have V2 := hide v2
  have V3 := hide v3
  have V4 := hide v4
  have V5 := hide v5
  have HBF := hide (setVals_below (b := w.heap.size + 1) [.int .i64 d.a.num, .int .i64 d.a.cnt, .slice ga d.a.rows.length gc, .int .i64 d.b.num, .int .i64 d.b.cnt, .slice gb d.b.rows.length gd] 0 W5 (unhide HB5) (by omega))
  have HGF := hide ((unhide HOWN).keep (w' := setVals W5 (w.heap.size + 1) 0 [.int .i64 d.a.num, .int .i64 d.a.cnt, .slice ga d.a.rows.length gc, .int .i64 d.b.num, .int .i64 d.b.cnt, .slice gb d.b.rows.length gd]) (fun b h1 h2 => setVals_other _ _ _ _ (by omega)))
  have HSF : Hid (w.heap.size + 3 ≤ (setVals W5 (w.heap.size + 1) 0 [.int .i64 d.a.num, .int .i64 d.a.cnt, .slice ga d.a.rows.length gc, .int .i64 d.b.num, .int .i64 d.b.cnt, .slice gb d.b.rows.length gd]).heap.size) := hide (by rw [setVals_size]; exact unhide HSZ5)
  clear hrow v0 v1 v2 v3 v4 v5
  go_wp2_with fail
  show bodyPost _ _ _ _ _ (setVals W5 (w.heap.size + 1) 0 [.int .i64 d.a.num, .int .i64 d.a.cnt, .slice ga d.a.rows.length gc, .int .i64 d.b.num, .int .i64 d.b.cnt, .slice gb d.b.rows.length gd])
  clear k0 k1 k2 k3 k4 k5 x0 x1 x2 x3 x4 x5 z0 z1 z2 z3 z4 z5
  generalize setVals W5 (w.heap.size + 1) 0 [.int .i64 d.a.num, .int .i64 d.a.cnt, .slice ga d.a.rows.length gc, .int .i64 d.b.num, .int .i64 d.b.cnt, .slice gb d.b.rows.length gd] = W9 at *
  have v0 := unhide V0
  have v1 := unhide V1
  have v2 := unhide V2
  have v3 := unhide V3
  have v4 := unhide V4
  have v5 := unhide V5
  exact bodyPost_ret (v := diskAgg d (.slice ga d.a.rows.length gc) (.slice gb d.b.rows.length gd)) (by simp [results, Try.results29, go_sem, v0, v1, v2, v3, v4, v5]) rfl ⟨_, _, f, f2, rfl, unhide HGF, unhide HSF, unhide HBF⟩
end Go.Proofs.Ytocgfngcgekciaa
