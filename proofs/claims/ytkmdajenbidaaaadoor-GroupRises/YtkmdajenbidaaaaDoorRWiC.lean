/- Layer 19, the document's: Same of frames. -/
import Derived.Test.YtkmdajenbidaaaaDoorRWiB
import Derived.Test.YtkmdajenbidaaaaDoorBA
import Derived.BigQuiet
namespace Go.Proofs.YtkmdajenbidaaaaDoor
open Go.RowKit
set_option maxRecDepth 100000
set_option linter.unusedSimpArgs false
set_option linter.unusedVariables false
set_option maxRecDepth 100000

end Go.Proofs.YtkmdajenbidaaaaDoor
