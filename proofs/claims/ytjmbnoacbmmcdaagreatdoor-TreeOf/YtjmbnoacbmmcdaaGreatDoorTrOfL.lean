/- TreeOf at its parameter (layer 11). -/
import Derived.Test.YtjmbnoacbmmcdaaGreatDoorTrOfWalk
namespace Go.Proofs.YtjmbnoacbmmcdaaGreatDoor
open Go.RowKit

theorem treeOf_law (v : Value) (w : World) (z : ∃ (l : List NodeT) (ops : List OpT) (b1 b2 : Int) (a1 a2 : Option Addr) (c1 c2 : Nat), v = .agg #[.slice a1 l.length c1, .slice a2 ops.length c2, .int .i64 b1, .int .i64 b2] ∧ NodesAt w a1 l.length l ∧ OpsAt w a2 ops.length ops ∧ (∀ q ∈ l, NodeOkT q) ∧ (∀ q ∈ ops, OpOk q) ∧ SliceOk a1 l.length c1 ∧ SliceOk a2 ops.length c2 ∧ l.length ≤ maxLen ∧ ops.length ≤ maxLen) (hG : Glob8 w) :
    Calls Tryz.prog 4 #[v] w fun e w' => e = .returned (.bool true) ∧ Below w.heap.size w w' := by
  obtain ⟨l, ops, b1, b2, a1, a2, c1, c2, rfl, h1, h2, h3, h4, _, _, h7, h8⟩ := z
  exact treeOf_walk l ops b1 b2 a1 a2 c1 c2 w h1 h2 h3 h4 h7 h8 hG
end Go.Proofs.YtjmbnoacbmmcdaaGreatDoor
