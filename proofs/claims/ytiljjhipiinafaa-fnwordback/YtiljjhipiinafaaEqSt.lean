/- '==' of two states. -/
import Derived.Test.YtiljjhipiinafaaProg
import Derived.Test.YtiljjhipiinafaaEv
import Derived.Test.YtiljjhipiinafaaBase
import Derived.Laws.StructEq
namespace Go.Proofs.Ytiljjhipiinafaa.S
open Go.RowKit
set_option linter.unusedVariables false
set_option linter.unusedSimpArgs false

theorem partF_int (xs : Array Value) (i : Nat) (n : Int) (w : World) (h : xs[i]? = some (.int .i64 n)) : (part 3 xs i).run Try.prog w = .ok (.int .i64 n) w := by
  simp [part, h, go_sem, run_underlying Try.underlying3]

theorem eqFields_step (xs ys : Array Value) (f : Field) (fs : List Field) (hn : f.name ≠ "_") (ht : f.type = 3) (a b : Int) (hx : xs[f.offset]? = some (.int .i64 a)) (hy : ys[f.offset]? = some (.int .i64 b)) (w : World) :
    (Op.eqFields 9999 xs ys (f :: fs)).run Try.prog w = if a = b then (Op.eqFields 9999 xs ys fs).run Try.prog w else .ok false w := by
  simp only [Op.eqFields, Sem.run_bind, ht, partF_int xs f.offset a w hx, partF_int ys f.offset b w hy, Result.andThen_ok, run_equalIn_int w 9998 3 .i64 .i64 a b Try.underlying3, if_pos hn, Sem.run_ite]
  by_cases h : a = b
  · simp [h, hn]
  · simp [h, hn]

end Go.Proofs.Ytiljjhipiinafaa.S
