import Derived.Test.YtmlpbbancoedgaaR8
import Derived.Test.YtmlpbbancoedgaaBA
namespace Go.Proofs.Ytmlpbbancoedgaa
end Go.Proofs.Ytmlpbbancoedgaa
