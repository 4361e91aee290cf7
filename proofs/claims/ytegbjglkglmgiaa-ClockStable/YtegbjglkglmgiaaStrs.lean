/- Rows of texts: plain facts. -/
import Derived.Test.YtegbjglkglmgiaaG
namespace Go.Proofs.Ytegbjglkglmgiaa
open Go.RowKit
set_option linter.unusedSimpArgs false

end Go.Proofs.Ytegbjglkglmgiaa
