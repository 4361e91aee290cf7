import Derived.Test.YtdmlffbpcjadfaaDoorSnCuWalk
import Derived.Test.YtdmlffbpcjadfaaDoorTS
/- SnapCuts at its parameters (layer 13). -/
namespace Go.Proofs.YtdmlffbpcjadfaaDoor
open Go.RowKit

theorem snapCuts_law (a0 : Option Addr) (n0 c0 : Nat) (left m : Int) (W : World) (z0 : ∃ l, OpsAt W a0 n0 l ∧ n0 ≤ maxLen ∧ (∀ q ∈ l, OpOk q) ∧ SliceOk a0 n0 c0) (hm : (Lit.int .u8 m).wf = true) (hG : Glob8 W) :
    Calls Tryd.prog 4 #[.slice a0 n0 c0, .int .i64 left, .int .u8 m] W fun e w' => e = .returned (.bool true) ∧ Below W.heap.size W w' := by
  obtain ⟨l, h1, h2, h3, _⟩ := z0
  have hb : 0 ≤ m ∧ m ≤ 255 := by simpa [Lit.wf, IntKind.min, IntKind.max, IntKind.signed, IntKind.bits] using hm
  obtain ⟨x, rfl⟩ : ∃ x : Nat, m = (x : Int) := ⟨m.toNat, by omega⟩
  exact snapCuts_walk a0 l n0 c0 left x (by omega) W h2 h1 h3 hG
end Go.Proofs.YtdmlffbpcjadfaaDoor
