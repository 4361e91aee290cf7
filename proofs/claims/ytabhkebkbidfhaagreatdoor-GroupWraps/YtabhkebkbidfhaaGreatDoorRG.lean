import Derived.Test.YtabhkebkbidfhaaGreatDoorRT
import Derived.Test.YtabhkebkbidfhaaGreatDoorR8
/- The document's with (layer 11). -/
namespace Go.Proofs.YtabhkebkbidfhaaGreatDoor
open Go.RowKit
set_option maxRecDepth 100000
set_option linter.unusedSimpArgs false

end Go.Proofs.YtabhkebkbidfhaaGreatDoor

/- The document's May, Check (layer 11). -/
namespace Go.Proofs.YtabhkebkbidfhaaGreatDoor
open Go.RowKit
set_option maxRecDepth 100000
set_option linter.unusedSimpArgs false

/-- May an operation be? -/
def MayO (o : Int × (Int × Int) × (Int × Int) × (Int × Int) × ByteArray × ByteArray) : Prop :=
  MayS o.2.1 ∧ MayS o.2.2.1 ∧
  ((o.1 = 1 ∧ o.2.2.1 = o.2.1 ∧ ParS o.2.2.2.1 ∧ NameP o.2.2.2.2.1 ∧ o.2.2.2.2.2.size = 0) ∨
   (o.1 = 2 ∧ ParS o.2.2.2.1 ∧ o.2.2.2.2.1.size = 0 ∧ o.2.2.2.2.2.size = 0) ∨
   (o.1 = 3 ∧ o.2.2.2.1 = (0, 0) ∧ NameP o.2.2.2.2.1 ∧ o.2.2.2.2.2.size = 0) ∨
   (o.1 = 4 ∧ o.2.2.2.1 = (0, 0) ∧ o.2.2.2.2.1.size = 0 ∧ o.2.2.2.2.2.size ≤ 64) ∨
   (o.1 = 5 ∧ o.2.2.2.1 = (0, 0) ∧ o.2.2.2.2.1.size = 0 ∧ o.2.2.2.2.2.size = 0))

end Go.Proofs.YtabhkebkbidfhaaGreatDoor
