/- Lists of numbers: the exact laws' mark and held of them. -/
import Derived.Test.YtiljjhipiinafaaGreatViews1
namespace Go.Proofs.YtiljjhipiinafaaGreat
open Go.RowKit
set_option linter.unusedVariables false
set_option linter.unusedSimpArgs false

end Go.Proofs.YtiljjhipiinafaaGreat
