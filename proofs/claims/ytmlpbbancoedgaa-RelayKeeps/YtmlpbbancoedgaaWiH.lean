import Derived.Test.YtmlpbbancoedgaaWiD
import Derived.Test.YtmlpbbancoedgaaWiU
import Derived.Test.YtmlpbbancoedgaaStoreAt
namespace Go.Proofs.Ytmlpbbancoedgaa
end Go.Proofs.Ytmlpbbancoedgaa
