/- Layer 19, the document's: names: what of a frame its kind names. -/
import Derived.Test.YtkmdajenbidaaaaDoorRWiA
namespace Go.Proofs.YtkmdajenbidaaaaDoor
open Go.RowKit
set_option maxRecDepth 100000
set_option linter.unusedSimpArgs false
set_option linter.unusedVariables false
set_option maxRecDepth 100000

/-- What a kind names: Seq, Epoch, Max, Blob, Items, Err. -/
def nmL (k : Int) : List Bool := if k = 1 then [false, true, false, true, false, false] else if k = 2 then [true, false, false, false, false, false] else if k = 3 then [true, false, true, false, false, false] else if k = 4 then [false, false, false, false, true, false] else if k = 5 then [true, true, false, true, false, false] else if k = 6 then [true, false, false, false, false, false] else if k = 7 then [false, false, false, false, false, false] else if k = 8 then [true, true, false, true, false, false] else if k = 9 then [false, false, false, false, false, true] else [false, false, false, false, false, false]
def nmA (k : Int) : Array Value := ((nmL k).map Value.bool).toArray

end Go.Proofs.YtkmdajenbidaaaaDoor
