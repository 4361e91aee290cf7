/- TreeNobody at its parameters (layer 11). -/
import Derived.Test.YtmfckdhincffkabDoorTrNbWalk
import Derived.Test.YtmfckdhincffkabDoorTS
namespace Go.Proofs.YtmfckdhincffkabDoor
open Go.RowKit

theorem treeNobody_law (v0 v1 : Value) (W : World) (z0 : ∃ q : OpT, v0 = .agg (opA q) ∧ OpOk q) (z1 : ∃ t u : Int, v1 = .agg #[.int .i64 t, .int .i64 u] ∧ (Lit.int .i64 t).wf = true ∧ (Lit.int .i64 u).wf = true) (hG : Glob8 W) :
    Calls Tryd.prog 3 #[v0, v1] W fun e w' => e = .returned (.bool true) ∧ Below W.heap.size W w' := by
  obtain ⟨q, rfl, _⟩ := z0
  obtain ⟨t, u, rfl, _, _⟩ := z1
  exact treeNobody_walk q t u W hG
end Go.Proofs.YtmfckdhincffkabDoor
