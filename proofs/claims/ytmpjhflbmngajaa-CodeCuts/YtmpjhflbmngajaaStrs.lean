/- Rows of texts: plain facts. -/
import Derived.Test.YtmpjhflbmngajaaG
namespace Go.Proofs.Ytmpjhflbmngajaa
open Go.RowKit
set_option linter.unusedSimpArgs false

end Go.Proofs.Ytmpjhflbmngajaa
