/- The walk of laws.FnExactSlotNew: it answers true. -/
import Derived.Test.YtocgfngcgekciaaSlot2
namespace Go.Proofs.Ytocgfngcgekciaa
open Go.RowKit
set_option linter.unusedVariables false
set_option linter.unusedSimpArgs false

set_option maxRecDepth 100000 in
set_option maxHeartbeats 2000000 in
theorem lawSlotNew_walk (w : World) : Calls Try.prog 7 #[] w fun e w' => e = .returned (.bool true) ∧ Below w.heap.size w w' := by
  have hqm : ∀ b : Int, (b != b) = false := by intro b; simp
  have hz0 : szD noDisk = 0 := by kernel_rfl
  have hzn : ¬ 1 + szD noDisk < 0 := by omega
  have HZ := hide hz0
  clear hz0
  have HB := hide (Below.refl w.heap.size w)
  go_enter Try.func7, Try.ntmps7
  go_wp2_with fail
  refine (specSlotNew_any w).mono ?_
  rintro e w1 ⟨va, vb, rfl, hd1, hb1⟩
  obtain ⟨a1, c1, rfl⟩ := hd1.a.sliced
  obtain ⟨a2, c2, rfl⟩ := hd1.b.sliced
  replace HB := hide (below_then (unhide HB) hb1)
  have A := hide (hd1)
  clear hd1 hb1
  have hx : Below w1.heap.size w1 (w1.alloc (.cells #[.int .i64 noDisk.a.num, .int .i64 noDisk.a.cnt, .slice a1 noDisk.a.rows.length c1, .int .i64 noDisk.b.num, .int .i64 noDisk.b.cnt, .slice a2 noDisk.b.rows.length c2] 27)) := (Below.refl _ _).alloc (Nat.le_refl _) _
  replace HB := hide (below_then (unhide HB) hx)
  replace A := hide ((unhide A).on hx)
  have K2 := hide (cellsAt_new w1 (diskCells noDisk (.slice a1 noDisk.a.rows.length c1) (.slice a2 noDisk.b.rows.length c2)) 27)
  clear hx
  go_upto_region 2 with fail
  generalize (w1.alloc (.cells #[.int .i64 noDisk.a.num, .int .i64 noDisk.a.cnt, .slice a1 noDisk.a.rows.length c1, .int .i64 noDisk.b.num, .int .i64 noDisk.b.cnt, .slice a2 noDisk.b.rows.length c2] 27)) = W2 at *
  generalize w1.heap.size = q2 at *
  go_wp2_with fail
  refine (implSlotNew_any W2).mono ?_
  rintro e w3 ⟨ga, gb, rfl, ho3, hb3⟩
  obtain ⟨a3, c3, rfl⟩ := ho3.a.at.sliced
  obtain ⟨a4, c4, rfl⟩ := ho3.b.at.sliced
  replace HB := hide (below_then (unhide HB) hb3)
  replace A := hide ((unhide A).on hb3)
  replace K2 := hide ((unhide K2).on hb3)
  have G := hide (ho3)
  clear ho3 hb3
  have hx : Below w3.heap.size w3 (w3.alloc (.cells #[.int .i64 noDisk.a.num, .int .i64 noDisk.a.cnt, .slice a3 noDisk.a.rows.length c3, .int .i64 noDisk.b.num, .int .i64 noDisk.b.cnt, .slice a4 noDisk.b.rows.length c4] 27)) := (Below.refl _ _).alloc (Nat.le_refl _) _
  replace HB := hide (below_then (unhide HB) hx)
  replace A := hide ((unhide A).on hx)
  replace K2 := hide ((unhide K2).on hx)
  replace G := hide ((unhide G).on hx)
  have K4 := hide (cellsAt_new w3 (diskCells noDisk (.slice a3 noDisk.a.rows.length c3) (.slice a4 noDisk.b.rows.length c4)) 27)
  clear hx
  go_upto_region 3 with fail
  generalize (w3.alloc (.cells #[.int .i64 noDisk.a.num, .int .i64 noDisk.a.cnt, .slice a3 noDisk.a.rows.length c3, .int .i64 noDisk.b.num, .int .i64 noDisk.b.cnt, .slice a4 noDisk.b.rows.length c4] 27)) = W4 at *
  generalize w3.heap.size = q4 at *
  have n0 : W4.cell? ⟨q4, 0, none⟩ = some (.int .i64 noDisk.a.num) := (unhide K4) 0 (by simp)
  have n1 : W4.cell? ⟨q4, 1, none⟩ = some (.int .i64 noDisk.a.cnt) := (unhide K4) 1 (by simp)
  have n2 : W4.cell? ⟨q4, 2, none⟩ = some (.slice a3 noDisk.a.rows.length c3) := (unhide K4) 2 (by simp)
  have n3 : W4.cell? ⟨q4, 3, none⟩ = some (.int .i64 noDisk.b.num) := (unhide K4) 3 (by simp)
  have n4 : W4.cell? ⟨q4, 4, none⟩ = some (.int .i64 noDisk.b.cnt) := (unhide K4) 4 (by simp)
  have n5 : W4.cell? ⟨q4, 5, none⟩ = some (.slice a4 noDisk.b.rows.length c4) := (unhide K4) 5 (by simp)
  have m0 : W4.cell? ⟨q2, 0, none⟩ = some (.int .i64 noDisk.a.num) := (unhide K2) 0 (by simp)
  have m1 : W4.cell? ⟨q2, 1, none⟩ = some (.int .i64 noDisk.a.cnt) := (unhide K2) 1 (by simp)
  have m2 : W4.cell? ⟨q2, 2, none⟩ = some (.slice a1 noDisk.a.rows.length c1) := (unhide K2) 2 (by simp)
  have m3 : W4.cell? ⟨q2, 3, none⟩ = some (.int .i64 noDisk.b.num) := (unhide K2) 3 (by simp)
  have m4 : W4.cell? ⟨q2, 4, none⟩ = some (.int .i64 noDisk.b.cnt) := (unhide K2) 4 (by simp)
  have m5 : W4.cell? ⟨q2, 5, none⟩ = some (.slice a2 noDisk.b.rows.length c2) := (unhide K2) 5 (by simp)
  go_wp2_with fail
  clear n0 n1 n2 n3 n4 n5
  clear m0 m1 m2 m3 m4 m5
  refine (eqSlotDisk_any noDisk _ _ _ _ W4 (unhide G).at (unhide A)).mono ?_
  rintro e w5 ⟨rfl, hb5⟩
  replace HB := hide (below_then (unhide HB) hb5)
  replace A := hide ((unhide A).on hb5)
  replace K2 := hide ((unhide K2).on hb5)
  replace G := hide ((unhide G).on hb5)
  replace K4 := hide ((unhide K4).on hb5)
  clear hb5
  have n0 : w5.cell? ⟨q4, 0, none⟩ = some (.int .i64 noDisk.a.num) := (unhide K4) 0 (by simp)
  have n1 : w5.cell? ⟨q4, 1, none⟩ = some (.int .i64 noDisk.a.cnt) := (unhide K4) 1 (by simp)
  have n2 : w5.cell? ⟨q4, 2, none⟩ = some (.slice a3 noDisk.a.rows.length c3) := (unhide K4) 2 (by simp)
  have n3 : w5.cell? ⟨q4, 3, none⟩ = some (.int .i64 noDisk.b.num) := (unhide K4) 3 (by simp)
  have n4 : w5.cell? ⟨q4, 4, none⟩ = some (.int .i64 noDisk.b.cnt) := (unhide K4) 4 (by simp)
  have n5 : w5.cell? ⟨q4, 5, none⟩ = some (.slice a4 noDisk.b.rows.length c4) := (unhide K4) 5 (by simp)
  go_wp2_with fail
  clear n0 n1 n2 n3 n4 n5
  refine (markSlotDisk_any _ noDisk _ _ _ _ 1 w5 (unhide G) noRows_small noRows_small (by omega) (by have := unhide HZ; omega)).mono ?_
  rintro e w6 ⟨rfl, ho6, hm6⟩
  have hb6 : Below w5.heap.size w5 w6 := hm6.below _ (Nat.le_refl _) (fun g hg => by
    rcases hg with ⟨i, _, h⟩ | ⟨i, _, h⟩ <;> simp [Value.ownBlock] at h)
  clear G
  replace HB := hide (below_then (unhide HB) hb6)
  replace A := hide ((unhide A).on hb6)
  replace K2 := hide ((unhide K2).on hb6)
  replace K4 := hide ((unhide K4).on hb6)
  have G := hide (ho6.at)
  clear ho6 hm6 hb6
  have n0 : w6.cell? ⟨q4, 0, none⟩ = some (.int .i64 noDisk.a.num) := (unhide K4) 0 (by simp)
  have n1 : w6.cell? ⟨q4, 1, none⟩ = some (.int .i64 noDisk.a.cnt) := (unhide K4) 1 (by simp)
  have n2 : w6.cell? ⟨q4, 2, none⟩ = some (.slice a3 noDisk.a.rows.length c3) := (unhide K4) 2 (by simp)
  have n3 : w6.cell? ⟨q4, 3, none⟩ = some (.int .i64 noDisk.b.num) := (unhide K4) 3 (by simp)
  have n4 : w6.cell? ⟨q4, 4, none⟩ = some (.int .i64 noDisk.b.cnt) := (unhide K4) 4 (by simp)
  have n5 : w6.cell? ⟨q4, 5, none⟩ = some (.slice a4 noDisk.b.rows.length c4) := (unhide K4) 5 (by simp)
  go_wp2_with fail
  clear n0 n1 n2 n3 n4 n5
  refine (heldSlotDisk_any noDisk _ _ 1 w6 (unhide G) noRows_small noRows_small (by omega) (by have := unhide HZ; omega)).mono ?_
  rintro e w7 ⟨rfl, hb7⟩
  replace HB := hide (below_then (unhide HB) hb7)
  replace A := hide ((unhide A).on hb7)
  replace K2 := hide ((unhide K2).on hb7)
  replace K4 := hide ((unhide K4).on hb7)
  replace G := hide ((unhide G).on hb7)
  clear hb7
  go_wp2_with fail
  refine (implSlotNew_any w7).mono ?_
  rintro e w8 ⟨ha, hb, rfl, ho8, hb8⟩
  obtain ⟨a5, c5, rfl⟩ := ho8.a.at.sliced
  obtain ⟨a6, c6, rfl⟩ := ho8.b.at.sliced
  replace HB := hide (below_then (unhide HB) hb8)
  replace A := hide ((unhide A).on hb8)
  replace K2 := hide ((unhide K2).on hb8)
  replace K4 := hide ((unhide K4).on hb8)
  replace G := hide ((unhide G).on hb8)
  have H := hide (ho8.at)
  clear ho8 hb8
  have hx : Below w8.heap.size w8 (w8.alloc (.cells #[.int .i64 noDisk.a.num, .int .i64 noDisk.a.cnt, .slice a5 noDisk.a.rows.length c5, .int .i64 noDisk.b.num, .int .i64 noDisk.b.cnt, .slice a6 noDisk.b.rows.length c6] 27)) := (Below.refl _ _).alloc (Nat.le_refl _) _
  replace HB := hide (below_then (unhide HB) hx)
  replace A := hide ((unhide A).on hx)
  replace K2 := hide ((unhide K2).on hx)
  replace K4 := hide ((unhide K4).on hx)
  replace G := hide ((unhide G).on hx)
  replace H := hide ((unhide H).on hx)
  have K9 := hide (cellsAt_new w8 (diskCells noDisk (.slice a5 noDisk.a.rows.length c5) (.slice a6 noDisk.b.rows.length c6)) 27)
  clear hx
  go_upto_region 14 with fail
  generalize (w8.alloc (.cells #[.int .i64 noDisk.a.num, .int .i64 noDisk.a.cnt, .slice a5 noDisk.a.rows.length c5, .int .i64 noDisk.b.num, .int .i64 noDisk.b.cnt, .slice a6 noDisk.b.rows.length c6] 27)) = W9 at *
  generalize w8.heap.size = q9 at *
  have n0 : W9.cell? ⟨q9, 0, none⟩ = some (.int .i64 noDisk.a.num) := (unhide K9) 0 (by simp)
  have n1 : W9.cell? ⟨q9, 1, none⟩ = some (.int .i64 noDisk.a.cnt) := (unhide K9) 1 (by simp)
  have n2 : W9.cell? ⟨q9, 2, none⟩ = some (.slice a5 noDisk.a.rows.length c5) := (unhide K9) 2 (by simp)
  have n3 : W9.cell? ⟨q9, 3, none⟩ = some (.int .i64 noDisk.b.num) := (unhide K9) 3 (by simp)
  have n4 : W9.cell? ⟨q9, 4, none⟩ = some (.int .i64 noDisk.b.cnt) := (unhide K9) 4 (by simp)
  have n5 : W9.cell? ⟨q9, 5, none⟩ = some (.slice a6 noDisk.b.rows.length c6) := (unhide K9) 5 (by simp)
  have m0 : W9.cell? ⟨q2, 0, none⟩ = some (.int .i64 noDisk.a.num) := (unhide K2) 0 (by simp)
  have m1 : W9.cell? ⟨q2, 1, none⟩ = some (.int .i64 noDisk.a.cnt) := (unhide K2) 1 (by simp)
  have m2 : W9.cell? ⟨q2, 2, none⟩ = some (.slice a1 noDisk.a.rows.length c1) := (unhide K2) 2 (by simp)
  have m3 : W9.cell? ⟨q2, 3, none⟩ = some (.int .i64 noDisk.b.num) := (unhide K2) 3 (by simp)
  have m4 : W9.cell? ⟨q2, 4, none⟩ = some (.int .i64 noDisk.b.cnt) := (unhide K2) 4 (by simp)
  have m5 : W9.cell? ⟨q2, 5, none⟩ = some (.slice a2 noDisk.b.rows.length c2) := (unhide K2) 5 (by simp)
  go_wp2_with fail
  clear n0 n1 n2 n3 n4 n5
  clear m0 m1 m2 m3 m4 m5
  refine (eqSlotDisk_any noDisk _ _ _ _ W9 (unhide H) (unhide A)).mono ?_
  rintro e w10 ⟨rfl, hb10⟩
  replace HB := hide (below_then (unhide HB) hb10)
  replace A := hide ((unhide A).on hb10)
  replace K2 := hide ((unhide K2).on hb10)
  replace K4 := hide ((unhide K4).on hb10)
  replace G := hide ((unhide G).on hb10)
  replace H := hide ((unhide H).on hb10)
  replace K9 := hide ((unhide K9).on hb10)
  clear hb10
  have n0 : w10.cell? ⟨q4, 0, none⟩ = some (.int .i64 noDisk.a.num) := (unhide K4) 0 (by simp)
  have n1 : w10.cell? ⟨q4, 1, none⟩ = some (.int .i64 noDisk.a.cnt) := (unhide K4) 1 (by simp)
  have n2 : w10.cell? ⟨q4, 2, none⟩ = some (.slice a3 noDisk.a.rows.length c3) := (unhide K4) 2 (by simp)
  have n3 : w10.cell? ⟨q4, 3, none⟩ = some (.int .i64 noDisk.b.num) := (unhide K4) 3 (by simp)
  have n4 : w10.cell? ⟨q4, 4, none⟩ = some (.int .i64 noDisk.b.cnt) := (unhide K4) 4 (by simp)
  have n5 : w10.cell? ⟨q4, 5, none⟩ = some (.slice a4 noDisk.b.rows.length c4) := (unhide K4) 5 (by simp)
  go_wp2_with fail
  clear n0 n1 n2 n3 n4 n5
  refine (heldSlotDisk_any noDisk _ _ 1 w10 (unhide G) noRows_small noRows_small (by omega) (by have := unhide HZ; omega)).mono ?_
  rintro e w11 ⟨rfl, hb11⟩
  go_wp2_with fail
  go_ret
  exact ⟨rfl, below_then (unhide HB) hb11⟩
end Go.Proofs.Ytocgfngcgekciaa
