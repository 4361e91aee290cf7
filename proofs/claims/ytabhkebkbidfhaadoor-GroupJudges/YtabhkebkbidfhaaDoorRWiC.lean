/- Layer 19, the document's: Same of frames. -/
import Derived.Test.YtabhkebkbidfhaaDoorRWiB
import Derived.Test.YtabhkebkbidfhaaDoorBA
import Derived.BigQuiet
namespace Go.Proofs.YtabhkebkbidfhaaDoor
open Go.RowKit
set_option maxRecDepth 100000
set_option linter.unusedSimpArgs false
set_option linter.unusedVariables false
set_option maxRecDepth 100000

end Go.Proofs.YtabhkebkbidfhaaDoor
