/- StoreTurns, for any row of texts that came in. -/
import Derived.Test.YtaakmcihpdbilaaDoorStTuWalk
import Derived.Test.YtaakmcihpdbilaaDoorSN
namespace Go.Proofs.YtaakmcihpdbilaaDoor
open Go.RowKit
set_option maxRecDepth 100000
theorem storeTurns_law (a : Option Addr) (len cap : Nat) (w : World) (h : ∃ l, StrsAt w a len l ∧ len ≤ maxLen ∧ ∀ s ∈ l, s.size ≤ maxLen) (hG : GlobB w ∧ GlobK w) :
    Calls Tryd.prog 4 #[.slice a len cap] w fun e w' => e = .returned (.bool true) ∧ Below w.heap.size w w' := by
  obtain ⟨l, h1, h2, h3⟩ := h
  refine storeTurns_walk w (stC_sto w hG.1 hG.2) a len cap l h1 h2 (fun i => ?_)
  unfold strL
  rw [List.getD_eq_getElem?_getD]
  cases hx : l[i]? with
  | none => exact Nat.zero_le _
  | some s => exact h3 s (List.mem_of_getElem? hx)
end Go.Proofs.YtaakmcihpdbilaaDoor
