/- VaultNobody, whatever words the tables of the hash hold. -/
import Derived.Test.YtfajkkjppelgcaaDoorVtNoWalk
import Derived.Test.YtfajkkjppelgcaaDoorTabO
namespace Go.Proofs.YtfajkkjppelgcaaDoor
open Go.RowKit
set_option maxRecDepth 100000

theorem vaultNobody_law (a b : ByteArray) (n : Int) (w : World) (h : w.ShapedOpen Tryd.prog) :
    Calls Tryd.prog 5 #[.string a, .string b, .int .i64 n] w fun e w' => e = .returned (.bool true) ∧ Below w.heap.size w w' := by
  obtain ⟨z, hz⟩ := tabZ_of h
  exact @vaultNobody_walk ⟨z⟩ a b n w hz

end Go.Proofs.YtfajkkjppelgcaaDoor
