/- Lists of what was done: the exact laws' eq and sz; lanes. -/
import Derived.Test.YtiljjhipiinafaaGreatPast1
namespace Go.Proofs.YtiljjhipiinafaaGreat
open Go.RowKit
set_option linter.unusedVariables false
set_option linter.unusedSimpArgs false

abbrev laneCells (proc : Int) (s : StV) (vd : Value) : List Value := [.int .i64 proc, .int .i64 s.x, .int .i64 s.y, .int .i64 s.c, vd]
abbrev laneAgg (proc : Int) (s : StV) (vd : Value) : Value := .agg #[.int .i64 proc, .int .i64 s.x, .int .i64 s.y, .int .i64 s.c, vd]

end Go.Proofs.YtiljjhipiinafaaGreat
