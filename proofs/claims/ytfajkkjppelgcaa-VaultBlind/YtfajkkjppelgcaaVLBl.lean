/- VaultBlind, whatever words the tables of the hash hold. -/
import Derived.Test.YtfajkkjppelgcaaVtBlWalk
import Derived.Test.YtfajkkjppelgcaaTabO
namespace Go.Proofs.Ytfajkkjppelgcaa
open Go.RowKit
set_option maxRecDepth 100000

theorem vaultBlind_law (S : ByteArray) (v : Value) (a : Option Addr) (len cap : Nat) (w : World) (h : w.ShapedOpen Try.prog) (hv : ∃ q : ByteArray × ByteArray, v = .agg #[.string q.1, .string q.2] ∧ q.1.size ≤ maxLen ∧ q.2.size ≤ maxLen)
    (hl : ∃ l, DuosAt w a len l ∧ len ≤ maxLen ∧ ∀ i, i < len → (dL l i).1.size ≤ maxLen ∧ (dL l i).2.size ≤ maxLen) :
    Calls Try.prog 3 #[.string S, v, .slice a len cap] w fun e w' => e = .returned (.bool true) ∧ Below w.heap.size w w' := by
  obtain ⟨z, hz⟩ := tabZ_of h
  obtain ⟨q, rfl, _⟩ := hv
  obtain ⟨l, h1, _, h2⟩ := hl
  exact @vaultBlind_walk ⟨z⟩ S q.1 q.2 a len cap l w hz h1 h2

end Go.Proofs.Ytfajkkjppelgcaa
