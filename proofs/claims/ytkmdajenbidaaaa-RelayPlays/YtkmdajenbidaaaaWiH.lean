import Derived.Test.YtkmdajenbidaaaaWiD
import Derived.Test.YtkmdajenbidaaaaWiU
import Derived.Test.YtkmdajenbidaaaaStoreAt
namespace Go.Proofs.Ytkmdajenbidaaaa
end Go.Proofs.Ytkmdajenbidaaaa
