import Derived.Test.YtmlpbbancoedgabR8
import Derived.Test.YtmlpbbancoedgabBA
namespace Go.Proofs.Ytmlpbbancoedgab
end Go.Proofs.Ytmlpbbancoedgab
