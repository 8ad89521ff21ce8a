/- Contracts of the exact laws' functions over lists of Out: eq, sz, to, mark, held. -/
import Derived.Test.YtiljjhipiinafaaGreatFlatEvent
namespace Go.Proofs.YtiljjhipiinafaaGreat
open Go.RowKit
set_option linter.unusedVariables false

end Go.Proofs.YtiljjhipiinafaaGreat
