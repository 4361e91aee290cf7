import Derived.Test.YtglgppeloolbhaaGreatDoorLaidP
import Derived.Test.YtglgppeloolbhaaGreatDoorLaidY
import Derived.Test.YtglgppeloolbhaaGreatDoorL2c
import Derived.Test.YtglgppeloolbhaaGreatDoorTabs
/- From the row's condition to the four tables of WholeSeals. -/
namespace Go.Proofs.YtglgppeloolbhaaGreatDoor
open Go.RowKit
set_option maxRecDepth 100000

theorem tabs_of {W : World} (h : laidMetH Tryz.prog [("samphire/chacha.places", Rows.laid_samphire_chacha_places), ("samphire/poly.kept", Rows.laid_samphire_poly_kept), ("samphire/sha.beginning", Rows.laid_samphire_sha_beginning), ("samphire/sha.constants", Rows.laid_samphire_sha_constants)] W) : Tabs W := by
  rw [MakeChecks.laidMetH_plain _ _ _ (by kernel_rfl)] at h
  exact ⟨⟨globB_of h.tail.tail, globK_of h.tail.tail.tail⟩, globP_of' h, globY_of' h.tail⟩
end Go.Proofs.YtglgppeloolbhaaGreatDoor
