/- Marks of what was done: laws.markPastS, laws.heldPastS, laws.markLane, laws.heldLane. -/
import Derived.Test.YtimkamgghkjhhaaOwn2
import Derived.Test.YtimkamgghkjhhaaBox
namespace Go.Proofs.Ytimkamgghkjhhaa
open Go.RowKit
set_option linter.unusedVariables false
set_option linter.unusedSimpArgs false

theorem markP_cells (m : Int) (p : PastV) (a b : Value) : ([.int .i64 m, .int .i64 (m + 1), .int .i64 (m + 1 + 1), .int .i64 (m + 1 + 1 + 1), .int .i64 (m + 1 + 1 + 1 + 1), .int .i64 (m + 1 + 1 + 1 + 1 + 1), .int .i64 (m + 1 + 1 + 1 + 1 + 1 + 1), .int .i64 (m + 1 + 1 + 1 + 1 + 1 + 1 + 1), .int .i64 (m + 1 + 1 + 1 + 1 + 1 + 1 + 1 + 1), .int .i64 (m + 1 + 1 + 1 + 1 + 1 + 1 + 1 + 1 + 1)] : List Value) ++ [a, b] = pastCells (markP m p) a b := by
  simp only [markP, evFrom, pastCells, List.cons_append, List.nil_append, List.cons.injEq, Value.int.injEq, and_true, true_and]
  omega

end Go.Proofs.Ytimkamgghkjhhaa
