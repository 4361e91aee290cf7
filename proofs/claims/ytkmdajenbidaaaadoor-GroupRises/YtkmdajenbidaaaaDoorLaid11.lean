/- From the row's condition to the library's two tables of UTF-8 (layer 11). -/
import Derived.Test.YtkmdajenbidaaaaDoorN11
import Derived.Test.YtkmdajenbidaaaaDoorRows
import Derived.Lib.LaidU8T
import Derived.MakeChecks
namespace Go.Proofs.YtkmdajenbidaaaaDoor
open Go.RowKit Go.Lib

set_option maxRecDepth 100000 in
theorem first8 : (Rows.laid_unicode_utf8_first : DataW Unit) = Lib.firstData := by kernel_rfl

set_option maxRecDepth 100000 in
theorem accept8 : (Rows.laid_unicode_utf8_acceptRanges : DataW Unit) = Lib.acceptData := by kernel_rfl

theorem glob8_of {W : World} (h : laidMetH Tryd.prog [("unicode/utf8.acceptRanges", Rows.laid_unicode_utf8_acceptRanges), ("unicode/utf8.first", Rows.laid_unicode_utf8_first)] W) : Glob8 W := by
  rw [MakeChecks.laidMetH_plain _ _ _ (by kernel_rfl), first8, accept8] at h
  exact utf8Tabs_of_readsT (U8Types.of196 Tryd.lays196) ⟨by kernel_rfl, by kernel_rfl, by kernel_rfl, by kernel_rfl, by kernel_rfl, by kernel_rfl, by kernel_rfl⟩
    (Lib.laidMet.reads h (.tail _ (.head _))) (Lib.laidMet.reads h (.head _))
end Go.Proofs.YtkmdajenbidaaaaDoor
