/- TreePlays at its parameters (layer 11). -/
import Derived.Test.YtmfckdhincffkaaGreatDoorTrPlWalk
namespace Go.Proofs.YtmfckdhincffkaaGreatDoor
open Go.RowKit

theorem treePlays_law (a0 a1 : Option Addr) (n0 c0 n1 c1 : Nat) (v2 : Value) (W : World) (z0 : ∃ l, OpsAt W a0 n0 l ∧ n0 ≤ maxLen ∧ (∀ q ∈ l, OpOk q) ∧ SliceOk a0 n0 c0) (z1 : ∃ l, StampsAt W a1 n1 l ∧ n1 ≤ maxLen ∧ ∀ q ∈ l, (Lit.int .i64 q.1).wf = true ∧ (Lit.int .i64 q.2).wf = true) (z2 : ∃ t u : Int, v2 = .agg #[.int .i64 t, .int .i64 u] ∧ (Lit.int .i64 t).wf = true ∧ (Lit.int .i64 u).wf = true) (hG : Glob8 W) :
    Calls Tryz.prog 3 #[.slice a0 n0 c0, .slice a1 n1 c1, v2] W fun e w' => e = .returned (.bool true) ∧ Below W.heap.size W w' := by
  obtain ⟨l, h1, h2, h3, _⟩ := z0
  obtain ⟨us, k1, k2, _⟩ := z1
  obtain ⟨t, u, rfl, _, _⟩ := z2
  exact treePlays_walk a0 a1 l us n0 c0 n1 c1 t u W h2 k2 h1 k1 h3 hG
end Go.Proofs.YtmfckdhincffkaaGreatDoor
