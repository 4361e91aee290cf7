/- StorePlays, for any row of calls that came in. -/
import Derived.Test.YtaakmcihpdbilaaGreatDoorStPlWalk
namespace Go.Proofs.YtaakmcihpdbilaaGreatDoor
open Go.RowKit
set_option maxRecDepth 100000
theorem storePlays_law (n : Int) (a : Option Addr) (len cap : Nat) (w : World) (z : ∃ l, ActsAt18 w a len l ∧ len ≤ maxLen ∧ ∀ q ∈ l, ActOk18 q) (hG : GlobB w ∧ GlobK w) :
    Calls Tryz.prog 3 #[.int .i64 n, .slice a len cap] w fun e w' => e = .returned (.bool true) ∧ Below w.heap.size w w' := by
  obtain ⟨l, h1, h2, h3⟩ := z
  refine storePlays_walk n a len cap l w h1 h2 (fun i hi => ?_) hG
  unfold atE
  have hi2 : i < l.length := by rw [h1.1]; exact hi
  rw [List.getD_eq_getElem?_getD, List.getElem?_eq_getElem hi2]
  exact h3 _ (List.getElem_mem hi2)
end Go.Proofs.YtaakmcihpdbilaaGreatDoor
