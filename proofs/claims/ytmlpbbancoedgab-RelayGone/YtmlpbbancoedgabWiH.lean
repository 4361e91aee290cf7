import Derived.Test.YtmlpbbancoedgabWiD
import Derived.Test.YtmlpbbancoedgabWiU
import Derived.Test.YtmlpbbancoedgabStoreAt
namespace Go.Proofs.Ytmlpbbancoedgab
end Go.Proofs.Ytmlpbbancoedgab
