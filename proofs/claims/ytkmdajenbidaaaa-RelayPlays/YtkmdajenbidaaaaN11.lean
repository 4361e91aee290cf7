import Derived.Test.YtkmdajenbidaaaaR8
import Derived.Test.YtkmdajenbidaaaaBA
namespace Go.Proofs.Ytkmdajenbidaaaa
end Go.Proofs.Ytkmdajenbidaaaa
