/- From the row's condition to the two tables of layer 7's programs. -/
import Derived.Test.YtfajkkjppelgcaaDoorLaidP
import Derived.Test.YtfajkkjppelgcaaDoorLaidY
namespace Go.Proofs.YtfajkkjppelgcaaDoor
open Go.RowKit
set_option maxRecDepth 100000

theorem globA_of {W : World} (h : laidMetH Tryd.prog [("samphire/chacha.places", Rows.laid_samphire_chacha_places), ("samphire/poly.kept", Rows.laid_samphire_poly_kept)] W) : GlobP W ∧ GlobY W := by
  rw [MakeChecks.laidMetH_plain _ _ _ (by kernel_rfl)] at h
  exact ⟨globP_of' h, globY_of' h.tail⟩
end Go.Proofs.YtfajkkjppelgcaaDoor
