/- Layer 20, the document's: May, Check. -/
import Derived.Test.YtkmdajenbidaaaaDoorRGpA
namespace Go.Proofs.YtkmdajenbidaaaaDoor
open Go.RowKit
set_option maxRecDepth 100000
set_option linter.unusedSimpArgs false
set_option linter.unusedVariables false
set_option maxRecDepth 100000


theorem Below.trans2 {w0 w w' : World} (h : Below w0.heap.size w0 w) (k : Below w.heap.size w w') : Below w0.heap.size w0 w' := below_step h (Nat.le_refl _) k

end Go.Proofs.YtkmdajenbidaaaaDoor
