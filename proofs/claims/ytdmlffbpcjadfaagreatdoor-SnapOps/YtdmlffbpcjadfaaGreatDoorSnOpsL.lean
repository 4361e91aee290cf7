import Derived.Test.YtdmlffbpcjadfaaGreatDoorSnOpsWalk
import Derived.Test.YtdmlffbpcjadfaaGreatDoorTS
/- SnapOps at its parameters (layer 13). -/
namespace Go.Proofs.YtdmlffbpcjadfaaGreatDoor
open Go.RowKit

theorem snapOps_law (v : Value) (s : ByteArray) (w : World) (z : ∃ q : OpT, v = .agg (opA q) ∧ OpOk q) (hs : s.size ≤ maxLen) (hG : Glob8 w) :
    Calls Tryz.prog 3 #[v, .string s] w fun e w' => e = .returned (.bool true) ∧ Below w.heap.size w w' := by
  obtain ⟨q, rfl, h⟩ := z
  exact snapOps_walk q s w h hs hG
end Go.Proofs.YtdmlffbpcjadfaaGreatDoor
