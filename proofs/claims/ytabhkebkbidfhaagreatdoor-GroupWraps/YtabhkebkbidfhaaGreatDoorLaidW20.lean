import Derived.Test.YtabhkebkbidfhaaGreatDoorLaidP
import Derived.Test.YtabhkebkbidfhaaGreatDoorLaidY
import Derived.Test.YtabhkebkbidfhaaGreatDoorL2c
import Derived.Test.YtabhkebkbidfhaaGreatDoorKyC
import Derived.Test.YtabhkebkbidfhaaGreatDoorN11
import Derived.Test.YtabhkebkbidfhaaGreatDoorRows
import Derived.Lib.LaidU8T
import Derived.MakeChecks
/- From the row's condition to the tables of GroupWraps: keys' four, and the library's two of UTF-8. -/
namespace Go.Proofs.YtabhkebkbidfhaaGreatDoor
open Go.RowKit Go.Lib

set_option maxRecDepth 100000 in
theorem first8 : (Rows.laid_unicode_utf8_first : DataW Unit) = Lib.firstData := by kernel_rfl

set_option maxRecDepth 100000 in
theorem accept8 : (Rows.laid_unicode_utf8_acceptRanges : DataW Unit) = Lib.acceptData := by kernel_rfl

theorem tabs20_of {W : World} (h : laidMetH Tryz.prog [("samphire/chacha.places", Rows.laid_samphire_chacha_places), ("samphire/poly.kept", Rows.laid_samphire_poly_kept), ("unicode/utf8.acceptRanges", Rows.laid_unicode_utf8_acceptRanges), ("samphire/sha.beginning", Rows.laid_samphire_sha_beginning), ("samphire/sha.constants", Rows.laid_samphire_sha_constants), ("unicode/utf8.first", Rows.laid_unicode_utf8_first)] W) : Tabs W ∧ Glob8 W := by
  rw [MakeChecks.laidMetH_plain _ _ _ (by kernel_rfl)] at h
  refine ⟨⟨⟨globB_of h.tail.tail.tail, globK_of h.tail.tail.tail.tail⟩, globP_of' h, globY_of' h.tail⟩, ?_⟩
  rw [first8, accept8] at h
  exact utf8Tabs_of_readsT (U8Types.of196 Tryz.lays196) ⟨by kernel_rfl, by kernel_rfl, by kernel_rfl, by kernel_rfl, by kernel_rfl, by kernel_rfl, by kernel_rfl⟩
    (Lib.laidMet.reads h (.tail _ (.tail _ (.tail _ (.tail _ (.tail _ (.head _))))))) (Lib.laidMet.reads h (.tail _ (.tail _ (.head _))))
end Go.Proofs.YtabhkebkbidfhaaGreatDoor
