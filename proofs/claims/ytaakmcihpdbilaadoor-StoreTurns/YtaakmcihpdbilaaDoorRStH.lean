/- Layer 18, the document's: Lay. -/
import Derived.Test.YtaakmcihpdbilaaDoorRStG
namespace Go.Proofs.YtaakmcihpdbilaaDoor
open Go.RowKit
set_option maxRecDepth 100000
set_option linter.unusedSimpArgs false
set_option maxRecDepth 100000

/-- What Lay leaves and answers. -/
def layS (D : DevT) (X : StoT) (t : ByteArray) : DevT × StoT × Int :=
  if 32768 < t.size ∨ 1099511627775 ≤ X.2.2.1 ∨ ¬ ((t.size + 2 + 63) / 64 + 1 ≤ D.1.length / 2) then (D, X, 2)
  else
    let R := writesP D (X.2.2.1 + 1).toNat 0 (txB t)
    if R.2 = 0 then (R.1, (t, [], X.2.2.1 + 1, txB t), 0) else (R.1, X, R.2)



end Go.Proofs.YtaakmcihpdbilaaDoor
