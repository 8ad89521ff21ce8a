/- The walk of laws.FnExactNodeOf: it answers true. -/
import Derived.Test.YtibdpcdiffnkfaaNodeOf1
namespace Go.Proofs.Ytibdpcdiffnkfaa
open Go.RowKit
set_option linter.unusedVariables false

set_option maxRecDepth 100000 in
theorem lawNodeOf_walk (a : Int) (w : World) :
    Calls Try.prog 6 #[.int .i64 a] w fun e w' => e = .returned (.bool true) ∧ Below w.heap.size w w' := by
  have hqm : ∀ z : Int, (z != z) = false := by intro z; simp
  go_enter Try.func6, Try.ntmps6
  go_wp2_with fail
  refine (specNodeOf_any a _).mono ?_
  rintro e w1 ⟨rfl, hw⟩
  obtain rfl := hw.symm
  go_wp2_with fail
  refine (implNodeOf_any a _).mono ?_
  rintro e w1 ⟨rfl, hw⟩
  obtain rfl := hw.symm
  go_wp2_with fail
  go_ret
  exact ⟨rfl, by repeat (first | exact Below.refl _ _ | apply Below.drew)⟩
end Go.Proofs.Ytibdpcdiffnkfaa
