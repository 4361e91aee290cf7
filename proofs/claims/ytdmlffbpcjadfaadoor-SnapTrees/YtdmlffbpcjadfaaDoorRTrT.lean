import Derived.Test.YtdmlffbpcjadfaaDoorL1
import Derived.Test.YtdmlffbpcjadfaaDoorTS
import Derived.Test.YtdmlffbpcjadfaaDoorRTrI
import Derived.Test.YtdmlffbpcjadfaaDoorRTrN
/- The document's node (layer 11), whole; Of on plain data. -/
namespace Go.Proofs.YtdmlffbpcjadfaaDoor
open Go.RowKit
set_option linter.unusedSimpArgs false

def emptyT : TreeT := ([], [], (0, 0))

/-- Operations put among others, one behind the other: each must be new. -/
def ofF (M : OpT → Bool) : List OpT → TreeT → TreeT × Int
  | [], t => (t, 0)
  | o :: l, t => if (applyP M t o).2 ≠ 0 then (emptyT, (applyP M t o).2) else if (applyP M t o).1.2.1.length = t.2.1.length then (emptyT, 1) else ofF M l (applyP M t o).1

theorem putO_lenT (o : OpT) (ops : List OpT) : (putO o ops).length = ops.length + 1 := by
  unfold putO
  have := posO_le o.2.1 ops
  rw [List.length_append, List.length_cons, List.length_take, List.length_drop]
  omega

theorem applyP_len (M : OpT → Bool) (t : TreeT) (o : OpT) : (applyP M t o).1.1 = t.1 ∧ (applyP M t o).1.2.1.length ≤ t.2.1.length + 1 := by
  unfold applyP
  (repeat' split) <;> first | exact ⟨rfl, Nat.le_succ _⟩ | exact ⟨rfl, Nat.le_of_eq (putO_lenT _ _)⟩

end Go.Proofs.YtdmlffbpcjadfaaDoor
