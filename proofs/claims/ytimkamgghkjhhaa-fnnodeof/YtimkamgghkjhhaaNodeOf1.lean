/- The node of a process, on both sides. -/
import Derived.Test.YtimkamgghkjhhaaBase
import Derived.Test.YtimkamgghkjhhaaProg
namespace Go.Proofs.Ytimkamgghkjhhaa
open Go.RowKit
set_option linter.unusedVariables false

/-- The node of a process, -1 of none. -/
def nodeOf (a : Int) : Int := if 0 ≤ a ∧ a ≤ 3 then a % 3 else -1

theorem nodeOf_out (a : Int) (h : a < 0 ∨ 3 < a) : nodeOf a = -1 := by
  rw [nodeOf, if_neg (by omega)]

set_option maxHeartbeats 400000 in
theorem implNodeOf_any (a : Int) (w : World) : Calls Try.prog 8 #[.int .i64 a] w fun e w' => e = .returned (.int .i64 (nodeOf a)) ∧ w' = w := by
  rcases Int.lt_or_le a 0 with h1 | h1
  · have h3 : ¬ 0 ≤ a := by omega
    rw [nodeOf_out a (by omega)]
    clear h1
    go_enter Try.func8, Try.ntmps8
    go_wp2
    go_ret
    exact ⟨rfl, rfl⟩
  rcases Int.lt_or_le 3 a with h2 | h2
  · have h3 : ¬ a ≤ 3 := by omega
    rw [nodeOf_out a (by omega)]
    clear h2
    go_enter Try.func8, Try.ntmps8
    go_wp2
    go_ret
    exact ⟨rfl, rfl⟩
  have h4 : a = 0 ∨ a = 1 ∨ a = 2 ∨ a = 3 := by omega
  clear h1 h2
  rcases h4 with rfl | rfl | rfl | rfl <;> (go_enter Try.func8, Try.ntmps8; go_wp2; go_ret; exact ⟨rfl, rfl⟩)

set_option maxHeartbeats 400000 in
theorem specNodeOf_any (a : Int) (w : World) : Calls Try.prog 9 #[.int .i64 a] w fun e w' => e = .returned (.int .i64 (nodeOf a)) ∧ w' = w := by
  rcases Int.lt_or_le a 0 with h1 | h1
  · have h3 : ¬ 0 ≤ a := by omega
    rw [nodeOf_out a (by omega)]
    clear h1
    go_enter Try.func9, Try.ntmps9
    go_wp2
    go_ret
    exact ⟨rfl, rfl⟩
  rcases Int.lt_or_le 3 a with h2 | h2
  · have h3 : ¬ a ≤ 3 := by omega
    rw [nodeOf_out a (by omega)]
    clear h2
    go_enter Try.func9, Try.ntmps9
    go_wp2
    go_ret
    exact ⟨rfl, rfl⟩
  have h4 : a = 0 ∨ a = 1 ∨ a = 2 ∨ a = 3 := by omega
  clear h1 h2
  rcases h4 with rfl | rfl | rfl | rfl <;> (go_enter Try.func9, Try.ntmps9; go_wp2; go_ret; exact ⟨rfl, rfl⟩)

end Go.Proofs.Ytimkamgghkjhhaa
