/- From the row's condition to the table of the package poly. -/
import Derived.Test.YtfajkkjppelgcaaDoorL6
import Derived.Test.YtfajkkjppelgcaaDoorRows
import Derived.Lib.LaidTab
import Derived.MakeChecks
import Derived.Stop.LaidErr
namespace Go.Proofs.YtfajkkjppelgcaaDoor
open Go.RowKit
set_option maxRecDepth 100000

theorem Tryd.gY : Tryd.prog.globalNamed "samphire/poly.kept" = some 0 := by kernel_rfl
theorem Tryd.tY : (Tryd.prog.globals[0]?).map (·.type) = some 75 := by kernel_rfl
theorem Tryd.cellsY1 : Tryd.prog.cellsOf 5 = 1 := by kernel_rfl
theorem Tryd.cellsY : Tryd.prog.cellsOf 75 = 16 := by kernel_rfl
theorem datumY : (Rows.laid_samphire_poly_kept : DataW Unit) = Lib.tabData .u8 (ints keptL) := by kernel_rfl
theorem globY_of' {W : World} {rest : List (String × DataW Unit)} (h : laidMet Tryd.prog (("samphire/poly.kept", Rows.laid_samphire_poly_kept) :: rest) W) : GlobY W := by
  rw [datumY] at h
  have hT := Lib.tabIs_of_head Tryd.gY Tryd.tY Tryd.underlying75 Tryd.underlying5 Tryd.cellsY1 Tryd.cellsY h
  intro j hj
  rw [hT.cell Tryd.gY j (by rw [ints_length]; exact hj), ints_getD]
theorem globY_of {W : World} (h : laidMetH Tryd.prog [("samphire/poly.kept", Rows.laid_samphire_poly_kept)] W) : GlobY W := by
  rw [MakeChecks.laidMetH_plain _ _ _ (by kernel_rfl)] at h
  exact globY_of' h
end Go.Proofs.YtfajkkjppelgcaaDoor
