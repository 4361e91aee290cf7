/- Layer 18, the document's: Lay, done. -/
import Derived.Test.YtaakmcihpdbilaaDoorRStH
namespace Go.Proofs.YtaakmcihpdbilaaDoor
open Go.RowKit
set_option maxRecDepth 100000
set_option linter.unusedSimpArgs false
set_option maxRecDepth 100000



end Go.Proofs.YtaakmcihpdbilaaDoor
