/- StoreBefore, for any rows that came in. -/
import Derived.Test.YtaakmcihpdbilaaDoorStBeWalk
import Derived.Test.YtaakmcihpdbilaaDoorSN
namespace Go.Proofs.YtaakmcihpdbilaaDoor
open Go.RowKit
set_option maxRecDepth 100000
theorem storeBefore_law (a : Option Addr) (len cap : Nat) (y : Int) (fa : Option Addr) (flen fcap : Nat) (w : World) (h : ∃ l, StrsAt w a len l ∧ len ≤ maxLen ∧ ∀ s ∈ l, s.size ≤ maxLen) (hf : ∃ l, IntsAt w .i64 fa flen l ∧ flen ≤ maxLen ∧ ∀ q ∈ l, (Lit.int .i64 q).wf = true) (hG : GlobB w ∧ GlobK w) :
    Calls Tryd.prog 3 #[.slice a len cap, .int .i64 y, .slice fa flen fcap] w fun e w' => e = .returned (.bool true) ∧ Below w.heap.size w w' := by
  obtain ⟨l, h1, h2, h3⟩ := h
  obtain ⟨fl, f1, f2, _⟩ := hf
  refine storeBefore_walk w (stC_sto w hG.1 hG.2) a len cap l y fa flen fcap fl h1 h2 (fun i => ?_) f1 f2
  unfold strL
  rw [List.getD_eq_getElem?_getD]
  cases hx : l[i]? with
  | none => exact Nat.zero_le _
  | some s => exact h3 s (List.mem_of_getElem? hx)
end Go.Proofs.YtaakmcihpdbilaaDoor
