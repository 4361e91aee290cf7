import Derived.Test.YtagmfgaojmholaaDoorHex
import Derived.Test.YtagmfgaojmholaaDoorSame
namespace Go.Proofs.YtagmfgaojmholaaDoor
open Go.RowKit

theorem below_step {B : Nat} {w w1 w2 : World} (h : Below B w w1) (hB : B ≤ w.heap.size) (h2 : Below w1.heap.size w1 w2) : Below B w w2 :=
  h.trans (h2.mono (Nat.le_trans hB h.size))

end Go.Proofs.YtagmfgaojmholaaDoor
