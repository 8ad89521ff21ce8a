/- EventLess of impl. -/
import Derived.Test.YtiljjhipiinafaaGreatLess2
import Derived.Deep.AppendLies
import Derived.Deep.OwnRows
import Derived.Deep.CutRange
namespace Go.Proofs.YtiljjhipiinafaaGreat
open Go.RowKit
set_option linter.unusedVariables false
attribute [local go_sem ↓] Go.wp_at_zero Go.wp_at_succ

theorem rowOfEvent_any (a0 a1 a2 a3 a4 a5 a6 : Int) (w : World) :
    Calls Tryz.prog 68 #[.agg #[.int .i64 a0, .int .i64 a1, .int .i64 a2, .int .i64 a3, .int .i64 a4, .int .i64 a5, .int .i64 a6]] w fun e w' => e = .returned (.agg #[.int .i64 a0, .int .i64 a1, .int .i64 a2, .int .i64 a3, .int .i64 a4, .int .i64 a5, .int .i64 a6]) ∧ w' = (w.alloc (.cells #[.int .i64 a0, .int .i64 a1, .int .i64 a2, .int .i64 a3, .int .i64 a4, .int .i64 a5, .int .i64 a6] 56)).alloc (.cells #[.int .i64 a0, .int .i64 a1, .int .i64 a2, .int .i64 a3, .int .i64 a4, .int .i64 a5, .int .i64 a6] 93) := by
  go_enter Tryz.func68, Tryz.ntmps68
  go_wp2
  exact bodyPost_ret (v := .agg #[.int .i64 a0, .int .i64 a1, .int .i64 a2, .int .i64 a3, .int .i64 a4, .int .i64 a5, .int .i64 a6]) (by simp [results, Tryz.results68, go_sem]) rfl ⟨rfl, rfl⟩

set_option maxRecDepth 100000 in
set_option maxHeartbeats 40000000 in
theorem implEventLess_any (a b : EvV) (w : World) :
    Calls Tryz.prog 63 #[evAgg a, evAgg b] w fun e w' => e = .returned (.bool (evLess a b)) ∧ Below w.heap.size w w' := by
  obtain ⟨a0, a1, a2, a3, a4, a5, a6⟩ := a
  obtain ⟨b0, b1, b2, b3, b4, b5, b6⟩ := b
  go_enter Tryz.func63, Tryz.ntmps63
  go_upto_region 1 with fail
  go_cut [5, 6] from 7 to 14 (fun p q wx => ∃ g1 g2, p = .pointer (some ⟨g1, 0, none⟩) ∧ q = .pointer (some ⟨g2, 0, none⟩) ∧ wx.heap[g1]? = some (.cells #[.int .i64 a0, .int .i64 a1, .int .i64 a2, .int .i64 a3, .int .i64 a4, .int .i64 a5, .int .i64 a6] 93) ∧ wx.heap[g2]? = some (.cells #[.int .i64 b0, .int .i64 b1, .int .i64 b2, .int .i64 b3, .int .i64 b4, .int .i64 b5, .int .i64 b6] 93) ∧ Below w.heap.size w wx)
  case first =>
    go_region_with (go_at_call 68; refine (rowOfEvent_any _ _ _ _ _ _ _ _).mono ?_; rintro e w' ⟨rfl, rfl⟩)
    all_goals
      go_wp2_with fail
      go_meet
      case rel => exact ⟨_, _, rfl, rfl, by (simp only [blk_drew, blk_at]; simp), by (simp only [blk_drew, blk_at]; simp), by repeat' (first | exact Below.refl _ _ | apply Below.drew | apply Below.alloc | exact Nat.le_refl _ | (simp; done) | (simp; omega))⟩
  case rest =>
    obtain ⟨g1, g2, rfl, rfl, k1, k2, hb⟩ := hcut
    have HI1 := hide ((ints_evv k1).on (Below.refl _ _).drew)
    have HI2 := hide ((ints_evv k2).on (Below.refl _ _).drew)
    clear k1 k2
    go_wp2_with fail
    have hs1 : ((7 : Nat) : Int) = 7 := rfl
    go_region_with (go_at_call 86; refine (Compare_any g1 g2 _ _ 7 rfl rfl (by omega) _ (unhide HI1) (unhide HI2)).mono ?_; rintro e w' ⟨rfl, hw⟩; obtain rfl := hw.symm)
    go_wp2_with fail
    go_ret
    exact ⟨ret_bool (cmpL_decide _ _), hb.drew⟩

end Go.Proofs.YtiljjhipiinafaaGreat
