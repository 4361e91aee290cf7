import Derived.Test.YtabhkebkbidfhaaGreatDoorR10
import Derived.Test.YtabhkebkbidfhaaGreatDoorBA
import Derived.BigQuiet
/- Rows of structs; the document's parent, find (layer 11). -/
namespace Go.Proofs.YtabhkebkbidfhaaGreatDoor
open Go.RowKit
set_option maxRecDepth 100000
set_option linter.unusedSimpArgs false

/-- May a stamp be one of a parent? -/
abbrev ParS (s : Int × Int) : Prop := MayS s ∨ (s.1 = 0 ∧ (s.2 = 0 ∨ s.2 = 1))

end Go.Proofs.YtabhkebkbidfhaaGreatDoor

/- The document's find, under (layer 11). -/
namespace Go.Proofs.YtabhkebkbidfhaaGreatDoor
open Go.RowKit
set_option maxRecDepth 100000
set_option linter.unusedSimpArgs false

end Go.Proofs.YtabhkebkbidfhaaGreatDoor

/- The document's under (layer 11). -/
namespace Go.Proofs.YtabhkebkbidfhaaGreatDoor
open Go.RowKit
set_option maxRecDepth 100000
set_option linter.unusedSimpArgs false

end Go.Proofs.YtabhkebkbidfhaaGreatDoor

/- The document's SameNodes, SameOps, Light (layer 11). -/
namespace Go.Proofs.YtabhkebkbidfhaaGreatDoor
open Go.RowKit
set_option maxRecDepth 100000
set_option linter.unusedSimpArgs false

theorem opEq_is (x y : Int × (Int × Int) × (Int × Int) × (Int × Int) × ByteArray × ByteArray) (D : Bool) (h : decide (x = y) = D) (w : World) : (Op.equalIn 10000 43 (.agg (opA x)) (.agg (opA y))).run Tryz.prog w = .ok D w := by
  rw [opEq, ← h]

end Go.Proofs.YtabhkebkbidfhaaGreatDoor

/- Rows of structs of the call's own; the document's with (layer 11). -/
namespace Go.Proofs.YtabhkebkbidfhaaGreatDoor
open Go.RowKit
set_option maxRecDepth 100000
set_option linter.unusedSimpArgs false

end Go.Proofs.YtabhkebkbidfhaaGreatDoor

/- Layer 11 on plain data: what it is to do an operation. Definitions alone. -/
namespace Go.Proofs.YtabhkebkbidfhaaGreatDoor
open Go.RowKit
set_option maxRecDepth 100000
set_option linter.unusedSimpArgs false

abbrev OpT := Int × (Int × Int) × (Int × Int) × (Int × Int) × ByteArray × ByteArray

end Go.Proofs.YtabhkebkbidfhaaGreatDoor
