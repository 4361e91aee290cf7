import Derived.Test.YtdmlffbpcjadfaaDoorSnTrWalk
import Derived.Test.YtdmlffbpcjadfaaDoorTS
import Derived.Test.YtdmlffbpcjadfaaDoorBA
/- SnapTrees at its parameters (layer 13). -/
namespace Go.Proofs.YtdmlffbpcjadfaaDoor
open Go.RowKit

theorem snapTrees_law (a0 : Option Addr) (n0 c0 : Nat) (v1 : Value) (W : World) (z0 : ∃ l, OpsAt W a0 n0 l ∧ n0 ≤ maxLen ∧ (∀ q ∈ l, OpOk q) ∧ SliceOk a0 n0 c0) (z1 : ∃ t u : Int, v1 = .agg #[.int .i64 t, .int .i64 u] ∧ (Lit.int .i64 t).wf = true ∧ (Lit.int .i64 u).wf = true) (hG : Glob8 W) :
    Calls Tryd.prog 3 #[.slice a0 n0 c0, v1] W fun e w' => e = .returned (.bool true) ∧ Below W.heap.size W w' := by
  obtain ⟨l, h1, h2, h3, _⟩ := z0
  obtain ⟨t, u, rfl, _, _⟩ := z1
  exact snapTrees_walk a0 l n0 c0 t u W h2 h1 h3 hG
end Go.Proofs.YtdmlffbpcjadfaaDoor
