/- Contracts of the exact laws' functions over lists of State: eq, sz, to, mark, held. -/
import Derived.Test.YtiljjhipiinafaaGreatFlatMake
namespace Go.Proofs.YtiljjhipiinafaaGreat
open Go.RowKit
set_option linter.unusedVariables false

end Go.Proofs.YtiljjhipiinafaaGreat
