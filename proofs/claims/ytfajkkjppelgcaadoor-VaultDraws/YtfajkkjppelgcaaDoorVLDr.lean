/- VaultDraws, whatever words the tables of the hash hold. -/
import Derived.Test.YtfajkkjppelgcaaDoorVtDrWalk
import Derived.Test.YtfajkkjppelgcaaDoorTabO
namespace Go.Proofs.YtfajkkjppelgcaaDoor
open Go.RowKit
set_option maxRecDepth 100000

theorem vaultDraws_law (S : ByteArray) (p q : Int) (w : World) (h : w.ShapedOpen Tryd.prog) :
    Calls Tryd.prog 4 #[.string S, .int .i64 p, .int .i64 q] w fun e w' => e = .returned (.bool true) ∧ Below w.heap.size w w' := by
  obtain ⟨z, hz⟩ := tabZ_of h
  exact @vaultDraws_walk ⟨z⟩ S p q w hz

end Go.Proofs.YtfajkkjppelgcaaDoor
