/- Contracts of the exact laws' functions over lists of State: eq, sz, to, mark, held. -/
import Derived.Test.YtiljjhipiinafaaFlatMake
namespace Go.Proofs.Ytiljjhipiinafaa
open Go.RowKit
set_option linter.unusedVariables false

end Go.Proofs.Ytiljjhipiinafaa
