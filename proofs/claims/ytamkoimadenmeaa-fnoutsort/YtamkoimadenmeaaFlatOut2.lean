/- Contracts of the exact laws' functions over lists of Out: eq, sz, to, mark, held. -/
import Derived.Test.YtamkoimadenmeaaFlatMake
namespace Go.Proofs.Ytamkoimadenmeaa
open Go.RowKit
set_option linter.unusedVariables false

end Go.Proofs.Ytamkoimadenmeaa
