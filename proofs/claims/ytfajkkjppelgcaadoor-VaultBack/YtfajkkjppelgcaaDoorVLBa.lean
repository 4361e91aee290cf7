/- VaultBack, whatever words the tables of the hash hold. -/
import Derived.Test.YtfajkkjppelgcaaDoorVtBaWalk
import Derived.Test.YtfajkkjppelgcaaDoorTabO
import Derived.Test.YtfajkkjppelgcaaDoorOpenV
namespace Go.Proofs.YtfajkkjppelgcaaDoor
open Go.RowKit
set_option maxRecDepth 100000

theorem vaultBack_law (S ks : ByteArray) (v : Value) (w : World) (h : w.ShapedOpen Tryd.prog) (hv : ∃ q : ByteArray × ByteArray, v = .agg #[.string q.1, .string q.2] ∧ q.1.size ≤ maxLen ∧ q.2.size ≤ maxLen) (hG : GlobP w ∧ GlobY w) :
    Calls Tryd.prog 3 #[.string S, .string ks, v] w fun e w' => e = .returned (.bool true) ∧ Below w.heap.size w w' := by
  obtain ⟨z, hz⟩ := tabZ_of h
  obtain ⟨q, rfl, _⟩ := hv
  exact @vaultBack_walk ⟨z⟩ S ks q.1 q.2 w hz hG.1 hG.2

end Go.Proofs.YtfajkkjppelgcaaDoor
