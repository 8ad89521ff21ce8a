/- OutLess of impl. -/
import Derived.Test.YtamkoimadenmeaaLess2o
import Derived.Deep.AppendLies
import Derived.Deep.OwnRows
import Derived.Deep.CutRange
namespace Go.Proofs.Ytamkoimadenmeaa
open Go.RowKit
set_option linter.unusedVariables false
attribute [local go_sem ↓] Go.wp_at_zero Go.wp_at_succ

theorem rowOfOut_any (a0 a1 a2 a3 a4 : Int) (w : World) :
    Calls Try.prog 15 #[.agg #[.int .i64 a0, .int .i64 a1, .int .i64 a2, .int .i64 a3, .int .i64 a4]] w fun e w' => e = .returned (.agg #[.int .i64 a0, .int .i64 a1, .int .i64 a2, .int .i64 a3, .int .i64 a4]) ∧ w' = (w.alloc (.cells #[.int .i64 a0, .int .i64 a1, .int .i64 a2, .int .i64 a3, .int .i64 a4] 24)).alloc (.cells #[.int .i64 a0, .int .i64 a1, .int .i64 a2, .int .i64 a3, .int .i64 a4] 38) := by
  go_enter Try.func15, Try.ntmps15
  go_wp2
  exact bodyPost_ret (v := .agg #[.int .i64 a0, .int .i64 a1, .int .i64 a2, .int .i64 a3, .int .i64 a4]) (by simp [results, Try.results15, go_sem]) rfl ⟨rfl, rfl⟩

set_option maxRecDepth 100000 in
set_option maxHeartbeats 40000000 in
theorem implOutLess_any (a b : OutV) (w : World) :
    Calls Try.prog 6 #[outAgg a, outAgg b] w fun e w' => e = .returned (.bool (outLess a b)) ∧ Below w.heap.size w w' := by
  obtain ⟨a0, a1, a2, a3, a4⟩ := a
  obtain ⟨b0, b1, b2, b3, b4⟩ := b
  go_enter Try.func6, Try.ntmps6
  go_upto_region 1 with fail
  go_cut [5, 6] from 7 to 14 (fun p q wx => ∃ g1 g2, p = .pointer (some ⟨g1, 0, none⟩) ∧ q = .pointer (some ⟨g2, 0, none⟩) ∧ wx.heap[g1]? = some (.cells #[.int .i64 a0, .int .i64 a1, .int .i64 a2, .int .i64 a3, .int .i64 a4] 38) ∧ wx.heap[g2]? = some (.cells #[.int .i64 b0, .int .i64 b1, .int .i64 b2, .int .i64 b3, .int .i64 b4] 38) ∧ Below w.heap.size w wx)
  case first =>
    go_region_with (go_at_call 15; refine (rowOfOut_any _ _ _ _ _ _).mono ?_; rintro e w' ⟨rfl, rfl⟩)
    all_goals
      go_wp2_with fail
      go_meet
      case rel => exact ⟨_, _, rfl, rfl, by (simp only [blk_drew, blk_at]; simp), by (simp only [blk_drew, blk_at]; simp), by repeat' (first | exact Below.refl _ _ | apply Below.drew | apply Below.alloc | exact Nat.le_refl _ | (simp; done) | (simp; omega))⟩
  case rest =>
    obtain ⟨g1, g2, rfl, rfl, k1, k2, hb⟩ := hcut
    have HI1 := hide ((ints_outv k1).on (Below.refl _ _).drew)
    have HI2 := hide ((ints_outv k2).on (Below.refl _ _).drew)
    clear k1 k2
    go_wp2_with fail
    have hs1 : ((5 : Nat) : Int) = 5 := rfl
    go_region_with (go_at_call 16; refine (Compare_any g1 g2 _ _ 5 rfl rfl (by omega) _ (unhide HI1) (unhide HI2)).mono ?_; rintro e w' ⟨rfl, hw⟩; obtain rfl := hw.symm)
    go_wp2_with fail
    go_ret
    exact ⟨ret_bool (cmpL_decide _ _), hb.drew⟩

end Go.Proofs.Ytamkoimadenmeaa
