/- spec.l22Lanes, spec.NodeStart: a node at first. -/
import Derived.Test.YtimkamgghkjhhaaBlank2
import Derived.Test.YtimkamgghkjhhaaForm
namespace Go.Proofs.Ytimkamgghkjhhaa
open Go.RowKit
set_option linter.unusedVariables false
set_option linter.unusedSimpArgs false

theorem specAppFirst_st (p : Int) (h1 : 0 ≤ p) (h2 : p ≤ 3) (w : World) :
    Calls Try.prog 38 #[.int .i64 p] w fun e w' => e = .returned (.agg (firstVals p)) ∧ Below w.heap.size w w' := by
  go_enter Try.func38, Try.ntmps38
  go_wp2_with (first | (go_at_call 26; go_in) | (go_at_call 36; go_in))
  exact bodyPost_ret (v := .agg (firstVals p)) (by simp [results, Try.results38, go_sem]) rfl ⟨rfl, (Below.refl _ _).alloc (Nat.le_refl _) _⟩

def xsOf (zs : List Int) : List (Int × StV) := zs.map fun z => (z, ⟨0, 0, 0⟩)
theorem xsOf_len (zs : List Int) : (xsOf zs).length = zs.length := by simp [xsOf]
theorem xsOf_snoc (zs : List Int) (z : Int) : xsOf (zs ++ [z]) = xsOf zs ++ [(z, ⟨0, 0, 0⟩)] := by simp [xsOf]
theorem zip_zeros : ∀ (zs : List Int), zs.zip (zeros3 zs.length) = xsOf zs
  | [] => rfl
  | z :: zs => by
    have ih := zip_zeros zs
    show (z, (⟨0, 0, 0⟩ : StV)) :: zs.zip (zeros3 zs.length) = _
    rw [ih]; rfl

set_option maxRecDepth 100000 in
set_option maxHeartbeats 2000000 in
theorem l22Lanes_any (id : Int) (w : World) :
    Calls Try.prog 37 #[.int .i64 id] w fun e w' => ∃ v, e = .returned v ∧ w'.ownsRow w.heap.size 37 5 v (procsTo id 4).length (laneFlat (xsOf (procsTo id 4))) ∧ Below w.heap.size w w' := by
  obtain ⟨iL, hiL, hzL0, hzL1, hzL2⟩ := infoT_parts info_cpLane
  have hb0 : Below w.heap.size w (w.alloc (.cells #[] 37)) := (Below.refl _ _).alloc (Nat.le_refl _) _
  have ho0 : (w.alloc (.cells #[] 37)).ownsRow w.heap.size 37 5 (.slice (some ⟨w.heap.size, 0, none⟩) 0 0) 0 [] := World.ownsRow_lit w #[] 0 (Nat.le_refl _) (Nat.zero_le _) rfl
  have HB0 := hide hb0
  have HO0 := hide ho0
  clear hb0 ho0
  go_enter Try.func37, Try.ntmps37
  go_wp2_with fail
  generalize (w.alloc (.cells #[] 37)) = W1 at *
  go_loopw [3, 4] (fun v i wr => ∃ (k : Nat) (va : Option Addr) (vc : Nat), k ≤ 4 ∧ v = .slice va (procsTo id k).length vc ∧ i = .int .i64 k ∧ Hid (wr.ownsRow w.heap.size 37 5 (.slice va (procsTo id k).length vc) (procsTo id k).length (laneFlat (xsOf (procsTo id k)))) ∧ Hid (Below w.heap.size w wr)) (fun _ i _ => 4 - (intOf i).toNat)
  case atStart => exact ⟨0, _, 0, Nat.zero_le _, rfl, rfl, HO0, HB0⟩
  case round =>
    obtain ⟨k, va, vc, hk, rfl, rfl, HO, HB⟩ := hrel
    obtain ⟨zs, hzs⟩ : ∃ zs, zs = procsTo id k := ⟨_, rfl⟩
    have hzl : zs.length ≤ 4 := by rw [hzs]; exact Nat.le_trans (procsTo_len id k) hk
    have HZ := hide hzs
    rw [← hzs] at HO ⊢
    clear hzs
    have hsz := (unhide HB).size
    by_cases hlt : k < 4
    · have hkI : (k : Int) < 4 := by omega
      by_cases hn : nodeOf (k : Int) = id
      · have HN := hide hn
        have hn1 : (nodeOf (k : Int) == id) = true := by simp [hn]
        clear hn
        have hbA : Below wr.heap.size wr (wr.alloc (.cells #[.int .i64 k, .int .i64 0, .int .i64 0, .int .i64 0, .slice none 0 0] 37)) := (Below.refl _ _).alloc (Nat.le_refl _) _
        have hownA := ownsOn hbA (unhide HO)
        have hfl : laneFlat (xsOf zs) ++ [.int .i64 k, .int .i64 0, .int .i64 0, .int .i64 0, .slice none 0 0] = laneFlat (xsOf (zs ++ [(k : Int)])) := by rw [xsOf_snoc, laneFlat_snoc]
        have HFL := hide hfl
        have HBA := hide hbA
        clear hbA hfl
        go_wp2_with fail
        refine (specNodeOf_any (k : Int) _).mono ?_
        rintro e w1 ⟨rfl, hw⟩
        obtain rfl := hw.symm
        go_wp2_with (at_builtin; refine wpList_append_lies _ (by rfl) _ _ _ (by rfl) w.heap.size 37 iL _ 5 56 slice_cpLane hiL hzL0 hzL1 hzL2 (by rfl) (by omega) (.slice va zs.length vc) zs.length (laneFlat (xsOf zs)) (by rfl) hownA ⟨wr.heap.size, 0, none⟩ 1 1 [.int .i64 k, .int .i64 0, .int .i64 0, .int .i64 0, .slice none 0 0] (by rfl) (by rfl) (World.news_of_block (cs := #[.int .i64 k, .int .i64 0, .int .i64 0, .int .i64 0, .slice none 0 0]) (t := 37) (fr := (0, 0)) (heap_alloc_new wr _)) (by simp [Value.oneCell']) (by omega) (by unfold maxLen; omega) (by omega) (by simp; omega) (wr.heap.size + 1) (by simp) ?_; intro gg cap w3 hown3 hgrow hat hlt3)
        have hb3 : Below w.heap.size w w3 := Below.grown (below_then (unhide HB) (unhide HBA)) hgrow (by simp; omega) (fun b hb => ((unhide HO).lt b hb).1)
        rw [unhide HFL] at hown3
        have HB3 := hide hb3
        have HO3 := hide hown3
        clear hb3 hown3 hgrow hat hlt3 hownA
        go_wp2_with fail
        go_roundw
        case rel =>
          have e1 : procsTo id (k + 1) = zs ++ [(k : Int)] := by rw [procsTo_in id k (unhide HN), unhide HZ]
          exact ⟨k + 1, some ⟨gg, 0, none⟩, cap, by omega, by rw [e1]; simp, by go_num, hide (by rw [e1, List.length_append]; exact unhide HO3), HB3⟩
        case measure => simp [intOf]; omega
      · have HN := hide hn
        have hn1 : (nodeOf (k : Int) == id) = false := by simp [hn]
        clear hn
        go_wp2_with fail
        refine (specNodeOf_any (k : Int) _).mono ?_
        rintro e w1 ⟨rfl, hw⟩
        obtain rfl := hw.symm
        go_wp2_with fail
        go_roundw
        case rel =>
          have e1 : procsTo id (k + 1) = zs := by rw [procsTo_out id k (unhide HN), unhide HZ]
          exact ⟨k + 1, va, vc, by omega, by rw [e1], by go_num, hide (by rw [e1]; exact unhide HO), HB⟩
        case measure => simp [intOf]; omega
    · have hke : k = 4 := by omega
      subst hke
      go_wp2_with fail
      go_ret
      exact ⟨_, rfl, by rw [← unhide HZ]; exact unhide HO, unhide HB⟩

set_option maxRecDepth 100000 in
set_option maxHeartbeats 4000000 in
theorem specNodeStart_no (id : Int) (w : World) (h : inR 0 2 id = false) :
    Calls Try.prog 12 #[.int .i64 id] w fun e w' => e = .returned (nodeAgg zeroN (.slice none 0 0) (.slice none 0 0) (.slice none 0 0) (.slice none 0 0) (.slice none 0 0)) ∧ Below w.heap.size w w' := by
  have RR := row_new w [.int .i64 0, .bool false, .int .i64 0, .int .i64 0, .slice none 0 0, .slice none 0 0, .slice none 0 0, .int .i64 0, .int .i64 0, .slice none 0 0, .slice none 0 0, .int .i64 0, .int .i64 0] 31
  have hb1 : Below w.heap.size w (w.alloc (.cells #[.int .i64 0, .bool false, .int .i64 0, .int .i64 0, .slice none 0 0, .slice none 0 0, .slice none 0 0, .int .i64 0, .int .i64 0, .slice none 0 0, .slice none 0 0, .int .i64 0, .int .i64 0] 31)) := (Below.refl _ _).alloc (Nat.le_refl _) _
  have HRR := hide RR
  have HB1 := hide hb1
  have x0 : (w.alloc (.cells #[.int .i64 0, .bool false, .int .i64 0, .int .i64 0, .slice none 0 0, .slice none 0 0, .slice none 0 0, .int .i64 0, .int .i64 0, .slice none 0 0, .slice none 0 0, .int .i64 0, .int .i64 0] 31)).cell? ⟨w.heap.size, 0, none⟩ = some (.int .i64 0) := RR.cell (i := 0) (by simp)
  have f0 : (w.alloc (.cells #[.int .i64 0, .bool false, .int .i64 0, .int .i64 0, .slice none 0 0, .slice none 0 0, .slice none 0 0, .int .i64 0, .int .i64 0, .slice none 0 0, .slice none 0 0, .int .i64 0, .int .i64 0] 31)).frozen? ⟨w.heap.size, 0, none⟩ = false := RR.frozen 0
  have x1 : (w.alloc (.cells #[.int .i64 0, .bool false, .int .i64 0, .int .i64 0, .slice none 0 0, .slice none 0 0, .slice none 0 0, .int .i64 0, .int .i64 0, .slice none 0 0, .slice none 0 0, .int .i64 0, .int .i64 0] 31)).cell? ⟨w.heap.size, 1, none⟩ = some (.bool false) := RR.cell (i := 1) (by simp)
  have f1 : (w.alloc (.cells #[.int .i64 0, .bool false, .int .i64 0, .int .i64 0, .slice none 0 0, .slice none 0 0, .slice none 0 0, .int .i64 0, .int .i64 0, .slice none 0 0, .slice none 0 0, .int .i64 0, .int .i64 0] 31)).frozen? ⟨w.heap.size, 1, none⟩ = false := RR.frozen 1
  have x2 : (w.alloc (.cells #[.int .i64 0, .bool false, .int .i64 0, .int .i64 0, .slice none 0 0, .slice none 0 0, .slice none 0 0, .int .i64 0, .int .i64 0, .slice none 0 0, .slice none 0 0, .int .i64 0, .int .i64 0] 31)).cell? ⟨w.heap.size, 2, none⟩ = some (.int .i64 0) := RR.cell (i := 2) (by simp)
  have f2 : (w.alloc (.cells #[.int .i64 0, .bool false, .int .i64 0, .int .i64 0, .slice none 0 0, .slice none 0 0, .slice none 0 0, .int .i64 0, .int .i64 0, .slice none 0 0, .slice none 0 0, .int .i64 0, .int .i64 0] 31)).frozen? ⟨w.heap.size, 2, none⟩ = false := RR.frozen 2
  have x3 : (w.alloc (.cells #[.int .i64 0, .bool false, .int .i64 0, .int .i64 0, .slice none 0 0, .slice none 0 0, .slice none 0 0, .int .i64 0, .int .i64 0, .slice none 0 0, .slice none 0 0, .int .i64 0, .int .i64 0] 31)).cell? ⟨w.heap.size, 3, none⟩ = some (.int .i64 0) := RR.cell (i := 3) (by simp)
  have f3 : (w.alloc (.cells #[.int .i64 0, .bool false, .int .i64 0, .int .i64 0, .slice none 0 0, .slice none 0 0, .slice none 0 0, .int .i64 0, .int .i64 0, .slice none 0 0, .slice none 0 0, .int .i64 0, .int .i64 0] 31)).frozen? ⟨w.heap.size, 3, none⟩ = false := RR.frozen 3
  have x4 : (w.alloc (.cells #[.int .i64 0, .bool false, .int .i64 0, .int .i64 0, .slice none 0 0, .slice none 0 0, .slice none 0 0, .int .i64 0, .int .i64 0, .slice none 0 0, .slice none 0 0, .int .i64 0, .int .i64 0] 31)).cell? ⟨w.heap.size, 4, none⟩ = some (.slice none 0 0) := RR.cell (i := 4) (by simp)
  have f4 : (w.alloc (.cells #[.int .i64 0, .bool false, .int .i64 0, .int .i64 0, .slice none 0 0, .slice none 0 0, .slice none 0 0, .int .i64 0, .int .i64 0, .slice none 0 0, .slice none 0 0, .int .i64 0, .int .i64 0] 31)).frozen? ⟨w.heap.size, 4, none⟩ = false := RR.frozen 4
  have x5 : (w.alloc (.cells #[.int .i64 0, .bool false, .int .i64 0, .int .i64 0, .slice none 0 0, .slice none 0 0, .slice none 0 0, .int .i64 0, .int .i64 0, .slice none 0 0, .slice none 0 0, .int .i64 0, .int .i64 0] 31)).cell? ⟨w.heap.size, 5, none⟩ = some (.slice none 0 0) := RR.cell (i := 5) (by simp)
  have f5 : (w.alloc (.cells #[.int .i64 0, .bool false, .int .i64 0, .int .i64 0, .slice none 0 0, .slice none 0 0, .slice none 0 0, .int .i64 0, .int .i64 0, .slice none 0 0, .slice none 0 0, .int .i64 0, .int .i64 0] 31)).frozen? ⟨w.heap.size, 5, none⟩ = false := RR.frozen 5
  have x6 : (w.alloc (.cells #[.int .i64 0, .bool false, .int .i64 0, .int .i64 0, .slice none 0 0, .slice none 0 0, .slice none 0 0, .int .i64 0, .int .i64 0, .slice none 0 0, .slice none 0 0, .int .i64 0, .int .i64 0] 31)).cell? ⟨w.heap.size, 6, none⟩ = some (.slice none 0 0) := RR.cell (i := 6) (by simp)
  have f6 : (w.alloc (.cells #[.int .i64 0, .bool false, .int .i64 0, .int .i64 0, .slice none 0 0, .slice none 0 0, .slice none 0 0, .int .i64 0, .int .i64 0, .slice none 0 0, .slice none 0 0, .int .i64 0, .int .i64 0] 31)).frozen? ⟨w.heap.size, 6, none⟩ = false := RR.frozen 6
  have x7 : (w.alloc (.cells #[.int .i64 0, .bool false, .int .i64 0, .int .i64 0, .slice none 0 0, .slice none 0 0, .slice none 0 0, .int .i64 0, .int .i64 0, .slice none 0 0, .slice none 0 0, .int .i64 0, .int .i64 0] 31)).cell? ⟨w.heap.size, 7, none⟩ = some (.int .i64 0) := RR.cell (i := 7) (by simp)
  have f7 : (w.alloc (.cells #[.int .i64 0, .bool false, .int .i64 0, .int .i64 0, .slice none 0 0, .slice none 0 0, .slice none 0 0, .int .i64 0, .int .i64 0, .slice none 0 0, .slice none 0 0, .int .i64 0, .int .i64 0] 31)).frozen? ⟨w.heap.size, 7, none⟩ = false := RR.frozen 7
  have x8 : (w.alloc (.cells #[.int .i64 0, .bool false, .int .i64 0, .int .i64 0, .slice none 0 0, .slice none 0 0, .slice none 0 0, .int .i64 0, .int .i64 0, .slice none 0 0, .slice none 0 0, .int .i64 0, .int .i64 0] 31)).cell? ⟨w.heap.size, 8, none⟩ = some (.int .i64 0) := RR.cell (i := 8) (by simp)
  have f8 : (w.alloc (.cells #[.int .i64 0, .bool false, .int .i64 0, .int .i64 0, .slice none 0 0, .slice none 0 0, .slice none 0 0, .int .i64 0, .int .i64 0, .slice none 0 0, .slice none 0 0, .int .i64 0, .int .i64 0] 31)).frozen? ⟨w.heap.size, 8, none⟩ = false := RR.frozen 8
  have x9 : (w.alloc (.cells #[.int .i64 0, .bool false, .int .i64 0, .int .i64 0, .slice none 0 0, .slice none 0 0, .slice none 0 0, .int .i64 0, .int .i64 0, .slice none 0 0, .slice none 0 0, .int .i64 0, .int .i64 0] 31)).cell? ⟨w.heap.size, 9, none⟩ = some (.slice none 0 0) := RR.cell (i := 9) (by simp)
  have f9 : (w.alloc (.cells #[.int .i64 0, .bool false, .int .i64 0, .int .i64 0, .slice none 0 0, .slice none 0 0, .slice none 0 0, .int .i64 0, .int .i64 0, .slice none 0 0, .slice none 0 0, .int .i64 0, .int .i64 0] 31)).frozen? ⟨w.heap.size, 9, none⟩ = false := RR.frozen 9
  have x10 : (w.alloc (.cells #[.int .i64 0, .bool false, .int .i64 0, .int .i64 0, .slice none 0 0, .slice none 0 0, .slice none 0 0, .int .i64 0, .int .i64 0, .slice none 0 0, .slice none 0 0, .int .i64 0, .int .i64 0] 31)).cell? ⟨w.heap.size, 10, none⟩ = some (.slice none 0 0) := RR.cell (i := 10) (by simp)
  have f10 : (w.alloc (.cells #[.int .i64 0, .bool false, .int .i64 0, .int .i64 0, .slice none 0 0, .slice none 0 0, .slice none 0 0, .int .i64 0, .int .i64 0, .slice none 0 0, .slice none 0 0, .int .i64 0, .int .i64 0] 31)).frozen? ⟨w.heap.size, 10, none⟩ = false := RR.frozen 10
  have x11 : (w.alloc (.cells #[.int .i64 0, .bool false, .int .i64 0, .int .i64 0, .slice none 0 0, .slice none 0 0, .slice none 0 0, .int .i64 0, .int .i64 0, .slice none 0 0, .slice none 0 0, .int .i64 0, .int .i64 0] 31)).cell? ⟨w.heap.size, 11, none⟩ = some (.int .i64 0) := RR.cell (i := 11) (by simp)
  have f11 : (w.alloc (.cells #[.int .i64 0, .bool false, .int .i64 0, .int .i64 0, .slice none 0 0, .slice none 0 0, .slice none 0 0, .int .i64 0, .int .i64 0, .slice none 0 0, .slice none 0 0, .int .i64 0, .int .i64 0] 31)).frozen? ⟨w.heap.size, 11, none⟩ = false := RR.frozen 11
  have x12 : (w.alloc (.cells #[.int .i64 0, .bool false, .int .i64 0, .int .i64 0, .slice none 0 0, .slice none 0 0, .slice none 0 0, .int .i64 0, .int .i64 0, .slice none 0 0, .slice none 0 0, .int .i64 0, .int .i64 0] 31)).cell? ⟨w.heap.size, 12, none⟩ = some (.int .i64 0) := RR.cell (i := 12) (by simp)
  have f12 : (w.alloc (.cells #[.int .i64 0, .bool false, .int .i64 0, .int .i64 0, .slice none 0 0, .slice none 0 0, .slice none 0 0, .int .i64 0, .int .i64 0, .slice none 0 0, .slice none 0 0, .int .i64 0, .int .i64 0] 31)).frozen? ⟨w.heap.size, 12, none⟩ = false := RR.frozen 12
  clear RR hb1
  go_enter Try.func12, Try.ntmps12
  go_wp2_with fail
  generalize (w.alloc (.cells #[.int .i64 0, .bool false, .int .i64 0, .int .i64 0, .slice none 0 0, .slice none 0 0, .slice none 0 0, .int .i64 0, .int .i64 0, .slice none 0 0, .slice none 0 0, .int .i64 0, .int .i64 0] 31)) = W1 at *
  refine (l6In_any id 0 2 _).mono ?_
  rintro e w1 ⟨rfl, hw⟩
  obtain rfl := hw.symm
  go_wp2_with fail
  show bodyPost _ _ _ _ _ (setVals W1 w.heap.size 0 [.int .i64 0, .bool false, .int .i64 0, .int .i64 0, .slice none 0 0, .slice none 0 0, .slice none 0 0, .int .i64 0, .int .i64 0, .slice none 0 0, .slice none 0 0, .int .i64 0, .int .i64 0])
  have hrow := setVals_row [.int .i64 0, .bool false, .int .i64 0, .int .i64 0, .slice none 0 0, .slice none 0 0, .slice none 0 0, .int .i64 0, .int .i64 0, .slice none 0 0, .slice none 0 0, .int .i64 0, .int .i64 0] 0 W1 _ (unhide HRR)
  have hbl := setVals_below (b := w.heap.size) [.int .i64 0, .bool false, .int .i64 0, .int .i64 0, .slice none 0 0, .slice none 0 0, .slice none 0 0, .int .i64 0, .int .i64 0, .slice none 0 0, .slice none 0 0, .int .i64 0, .int .i64 0] 0 W1 (unhide HB1) (Nat.le_refl _)
  clear x0 f0 x1 f1 x2 f2 x3 f3 x4 f4 x5 f5 x6 f6 x7 f7 x8 f8 x9 f9 x10 f10 x11 f11 x12 f12
  generalize setVals W1 w.heap.size 0 [.int .i64 0, .bool false, .int .i64 0, .int .i64 0, .slice none 0 0, .slice none 0 0, .slice none 0 0, .int .i64 0, .int .i64 0, .slice none 0 0, .slice none 0 0, .int .i64 0, .int .i64 0] = W9 at *
  have x0 : W9.cell? ⟨w.heap.size, 0, none⟩ = some (.int .i64 0) := hrow.cell (i := 0) (by simp)
  have x1 : W9.cell? ⟨w.heap.size, 1, none⟩ = some (.bool false) := hrow.cell (i := 1) (by simp)
  have x2 : W9.cell? ⟨w.heap.size, 2, none⟩ = some (.int .i64 0) := hrow.cell (i := 2) (by simp)
  have x3 : W9.cell? ⟨w.heap.size, 3, none⟩ = some (.int .i64 0) := hrow.cell (i := 3) (by simp)
  have x4 : W9.cell? ⟨w.heap.size, 4, none⟩ = some (.slice none 0 0) := hrow.cell (i := 4) (by simp)
  have x5 : W9.cell? ⟨w.heap.size, 5, none⟩ = some (.slice none 0 0) := hrow.cell (i := 5) (by simp)
  have x6 : W9.cell? ⟨w.heap.size, 6, none⟩ = some (.slice none 0 0) := hrow.cell (i := 6) (by simp)
  have x7 : W9.cell? ⟨w.heap.size, 7, none⟩ = some (.int .i64 0) := hrow.cell (i := 7) (by simp)
  have x8 : W9.cell? ⟨w.heap.size, 8, none⟩ = some (.int .i64 0) := hrow.cell (i := 8) (by simp)
  have x9 : W9.cell? ⟨w.heap.size, 9, none⟩ = some (.slice none 0 0) := hrow.cell (i := 9) (by simp)
  have x10 : W9.cell? ⟨w.heap.size, 10, none⟩ = some (.slice none 0 0) := hrow.cell (i := 10) (by simp)
  have x11 : W9.cell? ⟨w.heap.size, 11, none⟩ = some (.int .i64 0) := hrow.cell (i := 11) (by simp)
  have x12 : W9.cell? ⟨w.heap.size, 12, none⟩ = some (.int .i64 0) := hrow.cell (i := 12) (by simp)
  exact bodyPost_ret (v := nodeAgg zeroN (.slice none 0 0) (.slice none 0 0) (.slice none 0 0) (.slice none 0 0) (.slice none 0 0)) (by simp [results, Try.results12, go_sem, zeroN, x0, x1, x2, x3, x4, x5, x6, x7, x8, x9, x10, x11, x12]) rfl ⟨rfl, hbl⟩

set_option maxRecDepth 100000 in
set_option maxHeartbeats 4000000 in
theorem specNodeStart_in (id : Int) (w : World) (h : inR 0 2 id = true) :
    Calls Try.prog 12 #[.int .i64 id] w fun e w' => ∃ ul uk uo uv un, e = .returned (nodeAgg (startN id) ul uk uo uv un) ∧ NodeNew w.heap.size w' (startN id) ul uk uo uv un ∧ Below w.heap.size w w' := by
  obtain ⟨i7, hi7, hz70, hz71, hz72⟩ := infoT_parts info_EvK
  have RR := hide (row_new w [.int .i64 0, .bool false, .int .i64 0, .int .i64 0, .slice none 0 0, .slice none 0 0, .slice none 0 0, .int .i64 0, .int .i64 0, .slice none 0 0, .slice none 0 0, .int .i64 0, .int .i64 0] 31)
  have HB1 : Hid (Below w.heap.size w (w.alloc (.cells #[.int .i64 0, .bool false, .int .i64 0, .int .i64 0, .slice none 0 0, .slice none 0 0, .slice none 0 0, .int .i64 0, .int .i64 0, .slice none 0 0, .slice none 0 0, .int .i64 0, .int .i64 0] 31))) := hide ((Below.refl _ _).alloc (Nat.le_refl _) _)
  have HS1 : Hid ((w.alloc (.cells #[.int .i64 0, .bool false, .int .i64 0, .int .i64 0, .slice none 0 0, .slice none 0 0, .slice none 0 0, .int .i64 0, .int .i64 0, .slice none 0 0, .slice none 0 0, .int .i64 0, .int .i64 0] 31)).heap.size = w.heap.size + 1) := hide (by simp)
  go_enter Try.func12, Try.ntmps12
  go_wp2_with fail
  generalize (w.alloc (.cells #[.int .i64 0, .bool false, .int .i64 0, .int .i64 0, .slice none 0 0, .slice none 0 0, .slice none 0 0, .int .i64 0, .int .i64 0, .slice none 0 0, .slice none 0 0, .int .i64 0, .int .i64 0] 31)) = W1 at *
  refine (l6In_any id 0 2 _).mono ?_
  rintro e w1 ⟨rfl, hw⟩
  obtain rfl := hw.symm
  go_wp2_with fail
  refine (l22Lanes_any id W1).mono ?_
  rintro e W2 ⟨vl, rfl, hol, hb2⟩
  have hpl := procsTo_len id 4
  obtain ⟨la, lc, el⟩ : ∃ a c, vl = .slice a (procsTo id 4).length c := by
    obtain ⟨_, ⟨h1, h2⟩ | ⟨g, cap, _, h1, _⟩⟩ := hol
    · exact ⟨none, 0, by rw [h1, h2]⟩
    · exact ⟨_, _, h1⟩
  subst el
  generalize hzs : procsTo id 4 = zs at *
  have hs1 := unhide HS1
  have hs2 := hb2.size
  have hbq : Below W2.heap.size W2 (W2.alloc (.cells #[.int .i64 id, .bool true, .int .i64 1, .int .i64 0, .slice la zs.length lc, .slice none 0 0, .slice none 0 0, .int .i64 0, .int .i64 0, .slice none 0 0, .slice none 0 0, .int .i64 0, .int .i64 0] 31)) := (Below.refl _ _).alloc (Nat.le_refl _) _
  have RQ := hide (row_new W2 [.int .i64 id, .bool true, .int .i64 1, .int .i64 0, .slice la zs.length lc, .slice none 0 0, .slice none 0 0, .int .i64 0, .int .i64 0, .slice none 0 0, .slice none 0 0, .int .i64 0, .int .i64 0] 31)
  have HQS : Hid ((W2.alloc (.cells #[.int .i64 id, .bool true, .int .i64 1, .int .i64 0, .slice la zs.length lc, .slice none 0 0, .slice none 0 0, .int .i64 0, .int .i64 0, .slice none 0 0, .slice none 0 0, .int .i64 0, .int .i64 0] 31)).heap.size = W2.heap.size + 1) := hide (by simp)
  have HOL := hide (ownsOn hbq hol)
  have HOLT := hide hol.lt
  have HBQ := hide (below_then (below_then (unhide HB1) hb2) hbq)
  have HRR := hide ((unhide RR).of_block ((below_then hb2 hbq).block w.heap.size (by omega)))
  have HZS := hide hzs
  clear RR HB1 HS1 hol hb2 hbq hzs
  go_upto_region 4 with fail
  change Hid (World.rowIs (W2.alloc (.cells #[.int .i64 id, .bool true, .int .i64 1, .int .i64 0, .slice la zs.length lc, .slice none 0 0, .slice none 0 0, .int .i64 0, .int .i64 0, .slice none 0 0, .slice none 0 0, .int .i64 0, .int .i64 0] 31)) _ _ _ _) at RQ
  generalize (W2.alloc (.cells #[.int .i64 id, .bool true, .int .i64 1, .int .i64 0, .slice la zs.length lc, .slice none 0 0, .slice none 0 0, .int .i64 0, .int .i64 0, .slice none 0 0, .slice none 0 0, .int .i64 0, .int .i64 0] 31)) = W3 at *
  have hqs := unhide HQS
  generalize W2.heap.size = q at *
  have hrow0 : W3.rowIs q 31 13 (setF (fun i => [.int .i64 id, .bool true, .int .i64 1, .int .i64 0, .slice la zs.length lc, .slice none 0 0, .slice none 0 0, .int .i64 0, .int .i64 0, .slice none 0 0, .slice none 0 0, .int .i64 0, .int .i64 0].getD i undef) 5 (.slice none 0 0)) := (unhide RQ).congr (fun i hi => by
    by_cases e : i = 5
    · subst e; rfl
    · simp [setF, e])
  obtain ⟨f0, hf0⟩ : ∃ f0 : Nat → Value, f0 = fun i => [.int .i64 id, .bool true, .int .i64 1, .int .i64 0, .slice la zs.length lc, .slice none 0 0, .slice none 0 0, .int .i64 0, .int .i64 0, .slice none 0 0, .slice none 0 0, .int .i64 0, .int .i64 0].getD i undef := ⟨_, rfl⟩
  rw [← hf0] at hrow0
  have HF0 := hide hf0
  have HRK : Hid (RowKeep W3.heap.size w.heap.size q 31 13 (setF f0 5 (.slice none 0 0)) w W3 W3) := hide ⟨hrow0, fun _ _ _ => rfl, Nat.le_refl _, unhide HBQ⟩
  have hq3 : q < W3.heap.size := by omega
  have hwq : w.heap.size < q := by omega
  clear hrow0 hf0 RQ HBQ
  go_wp2_with fail
  go_loopw [4] (fun i wr => ∃ (k : Nat) (ka : Option Addr) (kc : Nat), k ≤ zs.length ∧ i = .int .i64 k ∧ Hid (RowKeep W3.heap.size w.heap.size q 31 13 (setF f0 5 (.slice ka k kc)) w W3 wr) ∧ Hid (RowsFr W3.heap.size 65 7 wr (.slice ka k kc) (((zs.take k).map firstEv).map evRow))) (fun i _ => zs.length - (intOf i).toNat)
  case atStart => exact ⟨0, none, 0, Nat.zero_le _, rfl, HRK, hide (Or.inl ⟨rfl, rfl⟩)⟩
  case round =>
    obtain ⟨k, ka, kc, hk, rfl, HV, HOW⟩ := hrel
    have hv := unhide HV
    have hvs := hv.size
    have cL : wr.cell? ⟨q, 4, none⟩ = some (.slice la zs.length lc) := by
      have e := hv.row.cell (i := 4) (by omega)
      simpa [setF, unhide HF0] using e
    by_cases hlt : k < zs.length
    · have hkI : (k : Int) < (zs.length : Int) := by omega
      obtain ⟨z, hze⟩ : ∃ z, z = zs[k] := ⟨_, rfl⟩
      obtain ⟨b, hla, hbz, c1⟩ : ∃ b, la = some ⟨b, 0, none⟩ ∧ b < W3.heap.size ∧ wr.cell? ⟨b, k * 5, none⟩ = some (.int .i64 z) := by
        have hll := lanesOwn_of_owns (N := W1.heap.size) (xs := xsOf zs) (by rw [xsOf_len]; exact unhide HOL) (Nat.le_refl _)
        rcases hll with ⟨h1, h2⟩ | ⟨g, cap, f, _, _, _, h1, h2, h3, h4, h5, h6, h7⟩
        · have : zs = [] := by
            have := congrArg List.length h2
            rw [nilLanes_len, xsOf_len] at this
            exact List.length_eq_zero_iff.1 (by simpa using this)
          rw [this] at hlt
          exact absurd hlt (Nat.not_lt_zero _)
        · simp only [Value.slice.injEq] at h1
          have hkn : k < (nilLanes (xsOf zs)).length := by rw [nilLanes_len, xsOf_len]; exact hlt
          have h9 := (unhide HOLT) g (by rw [h1.1]; rfl)
          refine ⟨g, h1.1, by omega, ?_⟩
          have h8 := h6.cell (i := k * 5 + 0) (mul_place (by omega) (by omega))
          rw [h7.cells k hkn 0 (by omega)] at h8
          have e5 : (nilLanes (xsOf zs))[k] = ⟨zs[k], ⟨0, 0, 0⟩, []⟩ := by simp [nilLanes, xsOf]
          rw [e5] at h8
          rw [hze]
          exact (World.cell?_of_block (a := ⟨g, k * 5, none⟩) (hv.keep g (by omega) (by omega))).trans h8
      subst hla
      have hz03 : 0 ≤ z ∧ z ≤ 3 := procsTo_mem id z (by rw [unhide HZS, hze]; exact List.getElem_mem hlt)
      have hz0 := hz03.1
      have hz3 := hz03.2
      have HZE := hide hze
      have c5 : wr.cell? ⟨q, 5, none⟩ = some (.slice ka k kc) := by
        have e := hv.row.cell (i := 5) (by omega)
        simpa [setF] using e
      have f5 : wr.frozen? ⟨q, 5, none⟩ = false := hv.row.frozen 5
      have hkl : ((zs.take k).map firstEv).length = k := by rw [List.length_map, List.length_take]; omega
      have HBLK := hide (unhide HOW).blk
      have hown : wr.ownsRow W3.heap.size 65 7 (.slice ka k kc) k (flatCells (((zs.take k).map firstEv).map evRow)) := by
        have e := (unhide HOW).owns (by omega) (evs_len _)
        rwa [List.length_map, hkl] at e
      have HOWN := hide hown
      have hqw5 : q < wr.heap.size := by omega
      clear hv hown hz03 hze
      go_wp2_with fail
      refine wp_region_last (L := 12) (S := fun w' : World => w'.cell? ⟨q, 5, none⟩ = some (.slice ka k kc) ∧ w'.cell? ⟨q, 4, none⟩ = some (.slice (some ⟨b, 0, none⟩) zs.length lc) ∧ w'.cell? ⟨b, k * 5, none⟩ = some (.int .i64 z)) (by kernel_rfl) ?_
      have hHeld : (fun w' : World => w'.cell? ⟨q, 5, none⟩ = some (.slice ka k kc) ∧ w'.cell? ⟨q, 4, none⟩ = some (.slice (some ⟨b, 0, none⟩) zs.length lc) ∧ w'.cell? ⟨b, k * 5, none⟩ = some (.int .i64 z)) wr.drew := ⟨c5, cL, c1⟩
      refine wpAnyL_take (i := 0) (v := ?_) (by kernel_rfl) rfl (by kernel_rfl) (by kernel_rfl) (by kernel_rfl) (fun _ _ _ h => h) hHeld (Or.inl ⟨by kernel_rfl, ?_⟩) ?_
      rotate_left
      · (intro w hSw; (try dsimp only at hSw); obtain ⟨s0, s1, s2⟩ := hSw; go_simp; try with_reducible rfl)
      refine wpAnyL_take (i := 1) (v := ?_) (by kernel_rfl) rfl (by kernel_rfl) (by kernel_rfl) (by kernel_rfl) (fun _ _ _ h => h) hHeld (Or.inl ⟨by kernel_rfl, ?_⟩) ?_
      rotate_left
      · (intro w hSw; (try dsimp only at hSw); obtain ⟨s0, s1, s2⟩ := hSw; go_simp; try with_reducible rfl)
      refine wpAnyL_take (i := 2) (v := ?_) (by kernel_rfl) rfl (by kernel_rfl) (by kernel_rfl) (by kernel_rfl) (fun _ _ _ h => h) hHeld (Or.inl ⟨by kernel_rfl, ?_⟩) ?_
      rotate_left
      · (intro w hSw; (try dsimp only at hSw); obtain ⟨s0, s1, s2⟩ := hSw; go_simp; try with_reducible rfl)
      refine wpAnyL_take (i := 3) (v := ?_) (by kernel_rfl) rfl (by kernel_rfl) (by kernel_rfl) (by kernel_rfl) (fun _ _ _ h => h) hHeld (Or.inl ⟨by kernel_rfl, ?_⟩) ?_
      rotate_left
      · (intro w hSw; (try dsimp only at hSw); obtain ⟨s0, s1, s2⟩ := hSw; go_simp; try with_reducible rfl)
      refine wpAnyL_take (i := 4) (v := ?_) (by kernel_rfl) rfl (by kernel_rfl) (by kernel_rfl) (by kernel_rfl) (fun _ _ _ h => h) hHeld (Or.inl ⟨by kernel_rfl, ?_⟩) ?_
      rotate_left
      · (intro w hSw; (try dsimp only at hSw); obtain ⟨s0, s1, s2⟩ := hSw; go_simp; try with_reducible rfl)
      refine wpAnyL_take (i := 5) (v := ?_) (by kernel_rfl) rfl (by kernel_rfl) (by kernel_rfl) (by kernel_rfl) (fun _ _ _ h => h) hHeld (Or.inl ⟨by kernel_rfl, ?_⟩) ?_
      rotate_left
      · (intro w hSw; (try dsimp only at hSw); obtain ⟨s0, s1, s2⟩ := hSw; go_simp; try with_reducible rfl)
      refine wpAnyL_take (i := 6) (v := ?_) (by kernel_rfl) rfl (by kernel_rfl) (by kernel_rfl) (by kernel_rfl) (fun _ _ _ h => h) hHeld (Or.inl ⟨by kernel_rfl, ?_⟩) ?_
      rotate_left
      · (intro w hSw; (try dsimp only at hSw); obtain ⟨s0, s1, s2⟩ := hSw; go_simp; try with_reducible rfl)
      refine wpAnyL_take (i := 7) (v := ?_) (by kernel_rfl) rfl (by kernel_rfl) (by kernel_rfl) (by kernel_rfl) (fun _ _ _ h => h) hHeld (Or.inl ⟨by kernel_rfl, ?_⟩) ?_
      rotate_left
      · (intro w hSw; (try dsimp only at hSw); obtain ⟨s0, s1, s2⟩ := hSw; go_simp; try with_reducible rfl)
      refine wpAnyL_one (i := 8) (by kernel_rfl) rfl (fun K hK => ?_)
      go_simp
      refine (specAppFirst_st z hz0 hz3 _).mono ?_
      rintro e w6 ⟨rfl, hb6⟩
      go_wp2_with fail
      have hb56 : Below wr.heap.size wr w6 := below_then (Below.refl _ _).drew hb6
      refine held_on hK ?_ (fun hHeld => ?_)
      · exact ⟨cell_on hb56 c5, cell_on hb56 cL, cell_on hb56 c1⟩
      clear hK K
      refine wpAnyL_one (i := 9) (by kernel_rfl) rfl (fun K hK => ?_)
      go_simp
      have hbA : Below wr.heap.size wr (w6.alloc (.cells (firstVals z) 65)) := below_then hb56 ((Below.refl _ _).alloc (Nat.le_refl _) _)
      refine held_on hK ?_ (fun hHeld => ?_)
      · exact ⟨cell_on hbA c5, cell_on hbA cL, cell_on hbA c1⟩
      clear hK K
      have hownA := ownsOn hbA (unhide HOWN)
      have hs6 : wr.heap.size ≤ w6.heap.size := hb56.size
      refine wpAnyL_one (i := 10) (by kernel_rfl) rfl (fun K hK => ?_)
      refine step_append_lies _ (by rfl) _ _ _ (by rfl) W3.heap.size 65 i7 _ 7 56 slice_EvK hi7 hz70 hz71 hz72 (by rfl) (by omega) (.slice ka k kc) k (flatCells (((zs.take k).map firstEv).map evRow)) (by rfl) hownA ⟨w6.heap.size, 0, none⟩ 1 1 [.int .i64 0, .int .i64 z, .int .i64 (-1), .int .i64 0, .int .i64 z, .int .i64 0, .int .i64 z] (by rfl) (by rfl) (World.news_of_block (cs := firstVals z) (t := 65) (fr := (0, 0)) (heap_alloc_new w6 _)) (by simp [Value.oneCell']) (by omega) (by unfold maxLen; omega) (by omega) (by simp; omega) (w6.heap.size + 1) (by simp) ?_
      intro g2 cap2 w7 hown7 hgrow7 hat7 hlt7
      have hs7 := ((unhide HV).grown hq3 (by omega) hbA hgrow7 (fun g e => (unhide HBLK g e).1)).set (j := 5) (u := .slice (some ⟨g2, 0, none⟩) (k + 1) cap2) (by omega)
      rw [setF_same] at hs7
      have hr7 : RowsFr W3.heap.size 65 7 w7 (.slice (some ⟨g2, 0, none⟩) (k + 1) cap2) (((zs.take k).map firstEv).map evRow ++ [evRow (firstEv z)]) := by
        refine rowsFr_snoc (n := 7) (fun r hr => ?_) (by rw [List.length_map, hkl]; exact hown7)
        rcases List.mem_append.1 hr with h3 | h3
        · obtain ⟨y, _, rfl⟩ := List.mem_map.1 h3; rfl
        · rw [List.mem_singleton.1 h3]; rfl
      have etk : ((zs.take k).map firstEv).map evRow ++ [evRow (firstEv z)] = ((zs.take (k + 1)).map firstEv).map evRow := by rw [take_more zs k hlt, List.map_append, List.map_append, ← unhide HZE]; rfl
      rw [etk] at hr7
      have hr8 : RowsFr W3.heap.size 65 7 (w7.setCell ⟨q, 5, none⟩ (.slice (some ⟨g2, 0, none⟩) (k + 1) cap2)) (.slice (some ⟨g2, 0, none⟩) (k + 1) cap2) (((zs.take (k + 1)).map firstEv).map evRow) := hr7.block (fun g hg _ => Below.heap_setCell w7 ⟨q, 5, none⟩ _ g (by
        have := (hr7.blk g hg).1
        show g ≠ q
        omega))
      have kc := hgrow7.cell (cell_on hbA c5) (fun e => by have := (unhide HBLK q e.symm).1; omega)
      have kL := hgrow7.cell (cell_on hbA cL) (fun e => by have := (unhide HBLK q e.symm).1; omega)
      have k1 := hgrow7.cell (cell_on hbA c1) (fun e => by have := (unhide HBLK b e.symm).1; omega)
      have kf : w7.frozen? ⟨q, 5, none⟩ = false := by (rw [hgrow7.frozen_far ⟨q, 5, none⟩ (show q < _ by simp; omega) (fun e => by have := (unhide HBLK q e.symm).1; omega), hbA.frozen (p := ⟨q, 5, none⟩) hqw5]; exact f5)
      have HV7 := hide hs7
      have HR7 := hide hr8
      clear hs7 hr7 hr8 etk hown7 hat7 hlt7 hgrow7
      refine held_on hK ?_ (fun hHeld => ?_)
      · exact ⟨kc, kL, k1⟩
      clear hK K
      refine wpAnyL_one (i := 11) (by kernel_rfl) rfl (fun K hK => ?_)
      go_simp
      refine held_on hK ?_ (fun hHeld => ?_)
      · exact hHeld
      clear hK K
      refine wpAnyL_end (by kernel_rfl) rfl (fun K hK => ?_)
      go_simp
      refine hK.out _ _ ?_
      clear hK K
      refine wpAnyL_done (by kernel_rfl) ?_ _
      go_wp2_with fail
      go_roundw
      case rel => exact ⟨k + 1, _, _, by omega, by go_num, HV7, HR7⟩
      case measure => simp [intOf]; omega
    · obtain rfl : k = zs.length := by omega
      obtain ⟨n0, hn0⟩ : ∃ n0 : NodeV, n0 = ⟨id, true, 1, 0, nilLanes (xsOf zs), zs.map firstEv, [], 0, 0, [], [], 0, 0⟩ := ⟨_, rfl⟩
      have hL : LanesAt wr (.slice la zs.length lc) (nilLanes (xsOf zs)) := (lanesOwn_of_owns (N := W1.heap.size) (xs := xsOf zs) (by rw [xsOf_len]; exact ownsKeep (unhide HOL) (fun g e hg => hv.keep g hg (by have := (unhide HOLT) g e; omega))) (Nat.le_refl _)).at
      have hE : RowsAt 7 wr (.slice ka zs.length kc) ((zs.map firstEv).map evRow) := by
        have e := (unhide HOW).at
        rwa [List.take_length] at e
      have hNA : NodeAt wr n0 (.slice la zs.length lc) (.slice ka zs.length kc) (.slice none 0 0) (.slice none 0 0) (.slice none 0 0) := by
        rw [hn0]
        exact ⟨hL, hE, ⟨none, 0, rfl, Nat.le_refl _, Nat.zero_le _, Or.inl rfl⟩, ⟨none, 0, rfl, Nat.le_refl _, Nat.zero_le _, Or.inl rfl⟩, ⟨none, 0, rfl, Nat.le_refl _, Nat.zero_le _, Or.inl rfl⟩⟩
      obtain ⟨N, hNe⟩ : ∃ N, N = startN id := ⟨_, rfl⟩
      have hNb : N = { blankN n0 with ver := 1 } := by
        rw [hNe, hn0, startN, unhide HZS, zip_zeros]
        simp [blankN, nilLanes, xsOf, List.map_map, Function.comp_def]
      have y0 : wr.cell? ⟨q, 0, none⟩ = some (.int .i64 id) := by
        have e := hv.row.cell (i := 0) (by omega)
        simpa [setF, unhide HF0] using e
      have y1 : wr.cell? ⟨q, 1, none⟩ = some (.bool true) := by
        have e := hv.row.cell (i := 1) (by omega)
        simpa [setF, unhide HF0] using e
      have y2 : wr.cell? ⟨q, 2, none⟩ = some (.int .i64 1) := by
        have e := hv.row.cell (i := 2) (by omega)
        simpa [setF, unhide HF0] using e
      have y3 : wr.cell? ⟨q, 3, none⟩ = some (.int .i64 0) := by
        have e := hv.row.cell (i := 3) (by omega)
        simpa [setF, unhide HF0] using e
      have y4 := cL
      have y5 : wr.cell? ⟨q, 5, none⟩ = some (.slice ka zs.length kc) := by
        have e := hv.row.cell (i := 5) (by omega)
        simpa [setF, unhide HF0] using e
      have y6 : wr.cell? ⟨q, 6, none⟩ = some (.slice none 0 0) := by
        have e := hv.row.cell (i := 6) (by omega)
        simpa [setF, unhide HF0] using e
      have y7 : wr.cell? ⟨q, 7, none⟩ = some (.int .i64 0) := by
        have e := hv.row.cell (i := 7) (by omega)
        simpa [setF, unhide HF0] using e
      have y8 : wr.cell? ⟨q, 8, none⟩ = some (.int .i64 0) := by
        have e := hv.row.cell (i := 8) (by omega)
        simpa [setF, unhide HF0] using e
      have y9 : wr.cell? ⟨q, 9, none⟩ = some (.slice none 0 0) := by
        have e := hv.row.cell (i := 9) (by omega)
        simpa [setF, unhide HF0] using e
      have y10 : wr.cell? ⟨q, 10, none⟩ = some (.slice none 0 0) := by
        have e := hv.row.cell (i := 10) (by omega)
        simpa [setF, unhide HF0] using e
      have y11 : wr.cell? ⟨q, 11, none⟩ = some (.int .i64 0) := by
        have e := hv.row.cell (i := 11) (by omega)
        simpa [setF, unhide HF0] using e
      have y12 : wr.cell? ⟨q, 12, none⟩ = some (.int .i64 0) := by
        have e := hv.row.cell (i := 12) (by omega)
        simpa [setF, unhide HF0] using e
      have HNA := hide hNA
      have HNB := hide hNb
      have HNE := hide hNe
      have HN0 := hide hn0
      have HRW := hide hv.row
      have HBW := hide hv.bel
      have HRX := hide ((unhide HRR).of_block (hv.keep w.heap.size (by omega) (by omega)))
      have hlen4 : zs.length ≤ 4 := hpl
      clear hL hE hNA hNb hNe hn0 hv cL
      go_wp2_with fail
      clear y0 y1 y2 y3 y4 y5 y6 y7 y8 y9 y10 y11 y12
      have hsb := specBlank_any n0 _ _ _ _ _ wr (unhide HNA) (by rw [unhide HN0]; simp [nilLanes, xsOf]; omega) (by rw [unhide HN0]; simp; omega) (by rw [unhide HN0]; simp)
      have hag : nodeAgg n0 (.slice la zs.length lc) (.slice ka zs.length kc) (.slice none 0 0) (.slice none 0 0) (.slice none 0 0) = .agg #[.int .i64 id, .bool true, .int .i64 1, .int .i64 0, .slice la zs.length lc, .slice ka zs.length kc, .slice none 0 0, .int .i64 0, .int .i64 0, .slice none 0 0, .slice none 0 0, .int .i64 0, .int .i64 0] := by rw [unhide HN0]
      rw [hag] at hsb
      refine hsb.mono ?_
      rintro e w8 ⟨ul, uk, uo, uv, un, rfl, hna, hb8⟩
      clear hsb hag
      have hna2 : NodeNew wr.heap.size w8 N ul uk uo uv un := fun w9 hw9 => by
        have h9 := hna w9 hw9
        rw [unhide HNB]
        exact ⟨h9.l, h9.k, h9.o, h9.v, h9.n⟩
      obtain ⟨⟨al, acl, e1⟩, ⟨ak, ack, e2⟩, ⟨ao, aco, e3⟩, ⟨av, acv, e4⟩, ⟨an, acn, e5⟩⟩ := hna2.at.sliced
      subst e1 e2 e3 e4 e5
      have hag : nodeAgg (blankN n0) (.slice al N.lanes.length acl) (.slice ak N.kept.length ack) (.slice ao N.outs.length aco) (.slice av N.views.length acv) (.slice an N.known.length acn) = .agg #[.int .i64 id, .bool true, .int .i64 1, .int .i64 0, .slice al N.lanes.length acl, .slice ak N.kept.length ack, .slice ao N.outs.length aco, .int .i64 0, .int .i64 0, .slice av N.views.length acv, .slice an N.known.length acn, .int .i64 0, .int .i64 41] := by rw [unhide HN0]; rfl
      rw [hag]
      have HNA8 := hide hna2
      have hr8 := (unhide HRW).of_block (hb8.block q (unhide HRW).lt)
      have HRQ8 := hide hr8
      have HRX8 := hide ((unhide HRX).of_block (hb8.block w.heap.size (unhide HRX).lt))
      have HB8 := hide (below_then (unhide HBW) hb8)
      have HSW : Hid (wr.heap.size ≤ w8.heap.size) := hide hb8.size
      have y0 : w8.cell? ⟨q, 0, none⟩ = some (.int .i64 id) := by
        have e := hr8.cell (i := 0) (by omega)
        simpa [setF, unhide HF0] using e
      have z0 : w8.frozen? ⟨q, 0, none⟩ = false := hr8.frozen 0
      have y1 : w8.cell? ⟨q, 1, none⟩ = some (.bool true) := by
        have e := hr8.cell (i := 1) (by omega)
        simpa [setF, unhide HF0] using e
      have z1 : w8.frozen? ⟨q, 1, none⟩ = false := hr8.frozen 1
      have y2 : w8.cell? ⟨q, 2, none⟩ = some (.int .i64 1) := by
        have e := hr8.cell (i := 2) (by omega)
        simpa [setF, unhide HF0] using e
      have z2 : w8.frozen? ⟨q, 2, none⟩ = false := hr8.frozen 2
      have y3 : w8.cell? ⟨q, 3, none⟩ = some (.int .i64 0) := by
        have e := hr8.cell (i := 3) (by omega)
        simpa [setF, unhide HF0] using e
      have z3 : w8.frozen? ⟨q, 3, none⟩ = false := hr8.frozen 3
      have y4 : w8.cell? ⟨q, 4, none⟩ = some (.slice la zs.length lc) := by
        have e := hr8.cell (i := 4) (by omega)
        simpa [setF, unhide HF0] using e
      have z4 : w8.frozen? ⟨q, 4, none⟩ = false := hr8.frozen 4
      have y5 : w8.cell? ⟨q, 5, none⟩ = some (.slice ka zs.length kc) := by
        have e := hr8.cell (i := 5) (by omega)
        simpa [setF, unhide HF0] using e
      have z5 : w8.frozen? ⟨q, 5, none⟩ = false := hr8.frozen 5
      have y6 : w8.cell? ⟨q, 6, none⟩ = some (.slice none 0 0) := by
        have e := hr8.cell (i := 6) (by omega)
        simpa [setF, unhide HF0] using e
      have z6 : w8.frozen? ⟨q, 6, none⟩ = false := hr8.frozen 6
      have y7 : w8.cell? ⟨q, 7, none⟩ = some (.int .i64 0) := by
        have e := hr8.cell (i := 7) (by omega)
        simpa [setF, unhide HF0] using e
      have z7 : w8.frozen? ⟨q, 7, none⟩ = false := hr8.frozen 7
      have y8 : w8.cell? ⟨q, 8, none⟩ = some (.int .i64 0) := by
        have e := hr8.cell (i := 8) (by omega)
        simpa [setF, unhide HF0] using e
      have z8 : w8.frozen? ⟨q, 8, none⟩ = false := hr8.frozen 8
      have y9 : w8.cell? ⟨q, 9, none⟩ = some (.slice none 0 0) := by
        have e := hr8.cell (i := 9) (by omega)
        simpa [setF, unhide HF0] using e
      have z9 : w8.frozen? ⟨q, 9, none⟩ = false := hr8.frozen 9
      have y10 : w8.cell? ⟨q, 10, none⟩ = some (.slice none 0 0) := by
        have e := hr8.cell (i := 10) (by omega)
        simpa [setF, unhide HF0] using e
      have z10 : w8.frozen? ⟨q, 10, none⟩ = false := hr8.frozen 10
      have y11 : w8.cell? ⟨q, 11, none⟩ = some (.int .i64 0) := by
        have e := hr8.cell (i := 11) (by omega)
        simpa [setF, unhide HF0] using e
      have z11 : w8.frozen? ⟨q, 11, none⟩ = false := hr8.frozen 11
      have y12 : w8.cell? ⟨q, 12, none⟩ = some (.int .i64 0) := by
        have e := hr8.cell (i := 12) (by omega)
        simpa [setF, unhide HF0] using e
      have z12 : w8.frozen? ⟨q, 12, none⟩ = false := hr8.frozen 12
      clear hna hna2 hag hr8 hb8
      go_upto_region 9 with fail
      change Code.wp _ _ _ _ (setVals w8 q 0 [.int .i64 id, .bool true, .int .i64 1, .int .i64 0, .slice al N.lanes.length acl, .slice ak N.kept.length ack, .slice ao N.outs.length aco, .int .i64 0, .int .i64 0, .slice av N.views.length acv, .slice an N.known.length acn, .int .i64 0, .int .i64 41])
      clear y0 z0 y1 z1 y2 z2 y3 z3 y4 z4 y5 z5 y6 z6 y7 z7 y8 z8 y9 z9 y10 z10 y11 z11 y12 z12
      have hrow9 := setVals_row [.int .i64 id, .bool true, .int .i64 1, .int .i64 0, .slice al N.lanes.length acl, .slice ak N.kept.length ack, .slice ao N.outs.length aco, .int .i64 0, .int .i64 0, .slice av N.views.length acv, .slice an N.known.length acn, .int .i64 0, .int .i64 41] 0 w8 _ (unhide HRQ8)
      have hoth9 := fun b (hb : b ≠ q) => setVals_other (b := q) [.int .i64 id, .bool true, .int .i64 1, .int .i64 0, .slice al N.lanes.length acl, .slice ak N.kept.length ack, .slice ao N.outs.length aco, .int .i64 0, .int .i64 0, .slice av N.views.length acv, .slice an N.known.length acn, .int .i64 0, .int .i64 41] 0 w8 b hb
      have hbl9 := setVals_below (b := q) (B := w.heap.size) (a := w) [.int .i64 id, .bool true, .int .i64 1, .int .i64 0, .slice al N.lanes.length acl, .slice ak N.kept.length ack, .slice ao N.outs.length aco, .int .i64 0, .int .i64 0, .slice av N.views.length acv, .slice an N.known.length acn, .int .i64 0, .int .i64 41] 0 w8 (unhide HB8) (by omega)
      have hsz9 := setVals_size (b := q) [.int .i64 id, .bool true, .int .i64 1, .int .i64 0, .slice al N.lanes.length acl, .slice ak N.kept.length ack, .slice ao N.outs.length aco, .int .i64 0, .int .i64 0, .slice av N.views.length acv, .slice an N.known.length acn, .int .i64 0, .int .i64 41] 0 w8
      generalize setVals w8 q 0 [.int .i64 id, .bool true, .int .i64 1, .int .i64 0, .slice al N.lanes.length acl, .slice ak N.kept.length ack, .slice ao N.outs.length aco, .int .i64 0, .int .i64 0, .slice av N.views.length acv, .slice an N.known.length acn, .int .i64 0, .int .i64 41] = W9 at *
      have y0 : W9.cell? ⟨q, 0, none⟩ = some (.int .i64 id) := hrow9.cell (i := 0) (by simp)
      have y1 : W9.cell? ⟨q, 1, none⟩ = some (.bool true) := hrow9.cell (i := 1) (by simp)
      have y2 : W9.cell? ⟨q, 2, none⟩ = some (.int .i64 1) := hrow9.cell (i := 2) (by simp)
      have y3 : W9.cell? ⟨q, 3, none⟩ = some (.int .i64 0) := hrow9.cell (i := 3) (by simp)
      have y4 : W9.cell? ⟨q, 4, none⟩ = some (.slice al N.lanes.length acl) := hrow9.cell (i := 4) (by simp)
      have y5 : W9.cell? ⟨q, 5, none⟩ = some (.slice ak N.kept.length ack) := hrow9.cell (i := 5) (by simp)
      have y6 : W9.cell? ⟨q, 6, none⟩ = some (.slice ao N.outs.length aco) := hrow9.cell (i := 6) (by simp)
      have y7 : W9.cell? ⟨q, 7, none⟩ = some (.int .i64 0) := hrow9.cell (i := 7) (by simp)
      have y8 : W9.cell? ⟨q, 8, none⟩ = some (.int .i64 0) := hrow9.cell (i := 8) (by simp)
      have y9 : W9.cell? ⟨q, 9, none⟩ = some (.slice av N.views.length acv) := hrow9.cell (i := 9) (by simp)
      have y10 : W9.cell? ⟨q, 10, none⟩ = some (.slice an N.known.length acn) := hrow9.cell (i := 10) (by simp)
      have y11 : W9.cell? ⟨q, 11, none⟩ = some (.int .i64 0) := hrow9.cell (i := 11) (by simp)
      have y12 : W9.cell? ⟨q, 12, none⟩ = some (.int .i64 41) := hrow9.cell (i := 12) (by simp)
      have z8 : W9.frozen? ⟨q, 8, none⟩ = false := hrow9.frozen 8
      have HY : Hid ((W9.setCell ⟨q, 8, none⟩ (.int .i64 1)).cell? ⟨q, 0, none⟩ = some (.int .i64 id) ∧ (W9.setCell ⟨q, 8, none⟩ (.int .i64 1)).cell? ⟨q, 1, none⟩ = some (.bool true) ∧ (W9.setCell ⟨q, 8, none⟩ (.int .i64 1)).cell? ⟨q, 2, none⟩ = some (.int .i64 1) ∧ (W9.setCell ⟨q, 8, none⟩ (.int .i64 1)).cell? ⟨q, 3, none⟩ = some (.int .i64 0) ∧ (W9.setCell ⟨q, 8, none⟩ (.int .i64 1)).cell? ⟨q, 4, none⟩ = some (.slice al N.lanes.length acl) ∧ (W9.setCell ⟨q, 8, none⟩ (.int .i64 1)).cell? ⟨q, 5, none⟩ = some (.slice ak N.kept.length ack) ∧ (W9.setCell ⟨q, 8, none⟩ (.int .i64 1)).cell? ⟨q, 6, none⟩ = some (.slice ao N.outs.length aco) ∧ (W9.setCell ⟨q, 8, none⟩ (.int .i64 1)).cell? ⟨q, 7, none⟩ = some (.int .i64 0) ∧ (W9.setCell ⟨q, 8, none⟩ (.int .i64 1)).cell? ⟨q, 8, none⟩ = some (.int .i64 1) ∧ (W9.setCell ⟨q, 8, none⟩ (.int .i64 1)).cell? ⟨q, 9, none⟩ = some (.slice av N.views.length acv) ∧ (W9.setCell ⟨q, 8, none⟩ (.int .i64 1)).cell? ⟨q, 10, none⟩ = some (.slice an N.known.length acn) ∧ (W9.setCell ⟨q, 8, none⟩ (.int .i64 1)).cell? ⟨q, 11, none⟩ = some (.int .i64 0) ∧ (W9.setCell ⟨q, 8, none⟩ (.int .i64 1)).cell? ⟨q, 12, none⟩ = some (.int .i64 41)) := hide (by refine ⟨?_, ?_, ?_, ?_, ?_, ?_, ?_, ?_, ?_, ?_, ?_, ?_, ?_⟩ <;> simp [go_sem, y0, y1, y2, y3, y4, y5, y6, y7, y8, y9, y10, y11, y12])
      have hothA : ∀ b, b ≠ q → (W9.setCell ⟨q, 8, none⟩ (.int .i64 1)).heap[b]? = w8.heap[b]? := fun b hb => (Below.heap_setCell W9 ⟨q, 8, none⟩ _ b hb).trans (hoth9 b hb)
      have hblA : Below w.heap.size w (W9.setCell ⟨q, 8, none⟩ (.int .i64 1)) := hbl9.setCell (show w.heap.size ≤ q by omega) _
      have HOA := hide hothA
      have HSA : Hid ((W9.setCell ⟨q, 8, none⟩ (.int .i64 1)).heap.size = w8.heap.size) := hide (by simpa using hsz9)
      have HBA := hide hblA
      have HRXA := hide ((unhide HRX8).of_block (hothA w.heap.size (by omega)))
      clear hrow9 hoth9 hbl9 hothA hblA
      go_upto_region 10 with fail
      clear y0 y1 y2 y3 y4 y5 y6 y7 y8 y9 y10 y11 y12 z8
      generalize W9.setCell ⟨q, 8, none⟩ (.int .i64 1) = WA at *
      obtain ⟨y0, y1, y2, y3, y4, y5, y6, y7, y8, y9, y10, y11, y12⟩ := unhide HY
      have x0 : WA.cell? ⟨w.heap.size, 0, none⟩ = some (.int .i64 0) := (unhide HRXA).cell (i := 0) (by simp)
      have z0 : WA.frozen? ⟨w.heap.size, 0, none⟩ = false := (unhide HRXA).frozen 0
      have x1 : WA.cell? ⟨w.heap.size, 1, none⟩ = some (.bool false) := (unhide HRXA).cell (i := 1) (by simp)
      have z1 : WA.frozen? ⟨w.heap.size, 1, none⟩ = false := (unhide HRXA).frozen 1
      have x2 : WA.cell? ⟨w.heap.size, 2, none⟩ = some (.int .i64 0) := (unhide HRXA).cell (i := 2) (by simp)
      have z2 : WA.frozen? ⟨w.heap.size, 2, none⟩ = false := (unhide HRXA).frozen 2
      have x3 : WA.cell? ⟨w.heap.size, 3, none⟩ = some (.int .i64 0) := (unhide HRXA).cell (i := 3) (by simp)
      have z3 : WA.frozen? ⟨w.heap.size, 3, none⟩ = false := (unhide HRXA).frozen 3
      have x4 : WA.cell? ⟨w.heap.size, 4, none⟩ = some (.slice none 0 0) := (unhide HRXA).cell (i := 4) (by simp)
      have z4 : WA.frozen? ⟨w.heap.size, 4, none⟩ = false := (unhide HRXA).frozen 4
      have x5 : WA.cell? ⟨w.heap.size, 5, none⟩ = some (.slice none 0 0) := (unhide HRXA).cell (i := 5) (by simp)
      have z5 : WA.frozen? ⟨w.heap.size, 5, none⟩ = false := (unhide HRXA).frozen 5
      have x6 : WA.cell? ⟨w.heap.size, 6, none⟩ = some (.slice none 0 0) := (unhide HRXA).cell (i := 6) (by simp)
      have z6 : WA.frozen? ⟨w.heap.size, 6, none⟩ = false := (unhide HRXA).frozen 6
      have x7 : WA.cell? ⟨w.heap.size, 7, none⟩ = some (.int .i64 0) := (unhide HRXA).cell (i := 7) (by simp)
      have z7 : WA.frozen? ⟨w.heap.size, 7, none⟩ = false := (unhide HRXA).frozen 7
      have x8 : WA.cell? ⟨w.heap.size, 8, none⟩ = some (.int .i64 0) := (unhide HRXA).cell (i := 8) (by simp)
      have z8 : WA.frozen? ⟨w.heap.size, 8, none⟩ = false := (unhide HRXA).frozen 8
      have x9 : WA.cell? ⟨w.heap.size, 9, none⟩ = some (.slice none 0 0) := (unhide HRXA).cell (i := 9) (by simp)
      have z9 : WA.frozen? ⟨w.heap.size, 9, none⟩ = false := (unhide HRXA).frozen 9
      have x10 : WA.cell? ⟨w.heap.size, 10, none⟩ = some (.slice none 0 0) := (unhide HRXA).cell (i := 10) (by simp)
      have z10 : WA.frozen? ⟨w.heap.size, 10, none⟩ = false := (unhide HRXA).frozen 10
      have x11 : WA.cell? ⟨w.heap.size, 11, none⟩ = some (.int .i64 0) := (unhide HRXA).cell (i := 11) (by simp)
      have z11 : WA.frozen? ⟨w.heap.size, 11, none⟩ = false := (unhide HRXA).frozen 11
      have x12 : WA.cell? ⟨w.heap.size, 12, none⟩ = some (.int .i64 0) := (unhide HRXA).cell (i := 12) (by simp)
      have z12 : WA.frozen? ⟨w.heap.size, 12, none⟩ = false := (unhide HRXA).frozen 12
      go_wp2_with fail
      clear x0 y0 z0 x1 y1 z1 x2 y2 z2 x3 y3 z3 x4 y4 z4 x5 y5 z5 x6 y6 z6 x7 y7 z7 x8 y8 z8 x9 y9 z9 x10 y10 z10 x11 y11 z11 x12 y12 z12
      show bodyPost _ _ _ _ _ (setVals WA w.heap.size 0 [.int .i64 id, .bool true, .int .i64 1, .int .i64 0, .slice al N.lanes.length acl, .slice ak N.kept.length ack, .slice ao N.outs.length aco, .int .i64 0, .int .i64 1, .slice av N.views.length acv, .slice an N.known.length acn, .int .i64 0, .int .i64 41])
      have hrow := setVals_row [.int .i64 id, .bool true, .int .i64 1, .int .i64 0, .slice al N.lanes.length acl, .slice ak N.kept.length ack, .slice ao N.outs.length aco, .int .i64 0, .int .i64 1, .slice av N.views.length acv, .slice an N.known.length acn, .int .i64 0, .int .i64 41] 0 WA _ (unhide HRXA)
      have hoth := fun b (hb : b ≠ w.heap.size) => setVals_other (b := w.heap.size) [.int .i64 id, .bool true, .int .i64 1, .int .i64 0, .slice al N.lanes.length acl, .slice ak N.kept.length ack, .slice ao N.outs.length aco, .int .i64 0, .int .i64 1, .slice av N.views.length acv, .slice an N.known.length acn, .int .i64 0, .int .i64 41] 0 WA b hb
      have hbl := setVals_below (b := w.heap.size) (B := w.heap.size) (a := w) [.int .i64 id, .bool true, .int .i64 1, .int .i64 0, .slice al N.lanes.length acl, .slice ak N.kept.length ack, .slice ao N.outs.length aco, .int .i64 0, .int .i64 1, .slice av N.views.length acv, .slice an N.known.length acn, .int .i64 0, .int .i64 41] 0 WA (unhide HBA) (Nat.le_refl _)
      have hszE := setVals_size (b := w.heap.size) [.int .i64 id, .bool true, .int .i64 1, .int .i64 0, .slice al N.lanes.length acl, .slice ak N.kept.length ack, .slice ao N.outs.length aco, .int .i64 0, .int .i64 1, .slice av N.views.length acv, .slice an N.known.length acn, .int .i64 0, .int .i64 41] 0 WA
      have hszA2 := unhide HSA
      have hszW := unhide HSW
      generalize setVals WA w.heap.size 0 [.int .i64 id, .bool true, .int .i64 1, .int .i64 0, .slice al N.lanes.length acl, .slice ak N.kept.length ack, .slice ao N.outs.length aco, .int .i64 0, .int .i64 1, .slice av N.views.length acv, .slice an N.known.length acn, .int .i64 0, .int .i64 41] = WE at *
      have x0 : WE.cell? ⟨w.heap.size, 0, none⟩ = some (.int .i64 id) := hrow.cell (i := 0) (by simp)
      have x1 : WE.cell? ⟨w.heap.size, 1, none⟩ = some (.bool true) := hrow.cell (i := 1) (by simp)
      have x2 : WE.cell? ⟨w.heap.size, 2, none⟩ = some (.int .i64 1) := hrow.cell (i := 2) (by simp)
      have x3 : WE.cell? ⟨w.heap.size, 3, none⟩ = some (.int .i64 0) := hrow.cell (i := 3) (by simp)
      have x4 : WE.cell? ⟨w.heap.size, 4, none⟩ = some (.slice al N.lanes.length acl) := hrow.cell (i := 4) (by simp)
      have x5 : WE.cell? ⟨w.heap.size, 5, none⟩ = some (.slice ak N.kept.length ack) := hrow.cell (i := 5) (by simp)
      have x6 : WE.cell? ⟨w.heap.size, 6, none⟩ = some (.slice ao N.outs.length aco) := hrow.cell (i := 6) (by simp)
      have x7 : WE.cell? ⟨w.heap.size, 7, none⟩ = some (.int .i64 0) := hrow.cell (i := 7) (by simp)
      have x8 : WE.cell? ⟨w.heap.size, 8, none⟩ = some (.int .i64 1) := hrow.cell (i := 8) (by simp)
      have x9 : WE.cell? ⟨w.heap.size, 9, none⟩ = some (.slice av N.views.length acv) := hrow.cell (i := 9) (by simp)
      have x10 : WE.cell? ⟨w.heap.size, 10, none⟩ = some (.slice an N.known.length acn) := hrow.cell (i := 10) (by simp)
      have x11 : WE.cell? ⟨w.heap.size, 11, none⟩ = some (.int .i64 0) := hrow.cell (i := 11) (by simp)
      have x12 : WE.cell? ⟨w.heap.size, 12, none⟩ = some (.int .i64 41) := hrow.cell (i := 12) (by simp)
      have hWE : NodeNew w.heap.size WE N (.slice al N.lanes.length acl) (.slice ak N.kept.length ack) (.slice ao N.outs.length aco) (.slice av N.views.length acv) (.slice an N.known.length acn) := fun w9 hw9 => (unhide HNA8) w9 (fun b h1 h2 => by
        have hs8 := hszE
        exact (hw9 b (by omega) (by omega)).trans ((hoth b (by omega)).trans ((unhide HOA) b (by omega))))
      have hfin : nodeAgg N (.slice al N.lanes.length acl) (.slice ak N.kept.length ack) (.slice ao N.outs.length aco) (.slice av N.views.length acv) (.slice an N.known.length acn) = .agg #[.int .i64 id, .bool true, .int .i64 1, .int .i64 0, .slice al N.lanes.length acl, .slice ak N.kept.length ack, .slice ao N.outs.length aco, .int .i64 0, .int .i64 1, .slice av N.views.length acv, .slice an N.known.length acn, .int .i64 0, .int .i64 41] := by rw [unhide HNB, unhide HN0]; rfl
      refine bodyPost_ret (v := nodeAgg N (.slice al N.lanes.length acl) (.slice ak N.kept.length ack) (.slice ao N.outs.length aco) (.slice av N.views.length acv) (.slice an N.known.length acn)) (by rw [hfin]; simp [results, Try.results12, go_sem, x0, x1, x2, x3, x4, x5, x6, x7, x8, x9, x10, x11, x12]) rfl ?_
      show ∃ ul uk uo uv un, Ending.returned (nodeAgg N (.slice al N.lanes.length acl) (.slice ak N.kept.length ack) (.slice ao N.outs.length aco) (.slice av N.views.length acv) (.slice an N.known.length acn)) = .returned (nodeAgg (startN id) ul uk uo uv un) ∧ NodeNew w.heap.size WE (startN id) ul uk uo uv un ∧ Below w.heap.size w WE
      rw [← unhide HNE]
      exact ⟨_, _, _, _, _, rfl, hWE, hbl⟩
end Go.Proofs.Ytimkamgghkjhhaa
