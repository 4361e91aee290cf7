import Derived.Test.YtabhkebkbidfhaaGreatDoorWiP
import Derived.Test.YtabhkebkbidfhaaGreatDoorS13
/- Layer 19: what is held while parts are written and read. -/
namespace Go.Proofs.YtabhkebkbidfhaaGreatDoor
open Go.RowKit
set_option maxRecDepth 100000
set_option linter.unusedSimpArgs false
set_option linter.unusedVariables false

theorem writeA_app19 (st : ByteArray × Bool) (l m : List (Int × Int × Int × ByteArray)) : writeA st (l ++ m) = writeA (writeA st l) m := by
  unfold writeA; rw [List.foldl_append]

end Go.Proofs.YtabhkebkbidfhaaGreatDoor
