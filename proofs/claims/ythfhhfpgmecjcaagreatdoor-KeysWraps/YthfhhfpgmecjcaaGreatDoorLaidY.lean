/- From the row's condition to the table of the package poly. -/
import Derived.Test.YthfhhfpgmecjcaaGreatDoorL6
import Derived.Test.YthfhhfpgmecjcaaGreatDoorRows
import Derived.Lib.LaidTab
import Derived.MakeChecks
import Derived.Stop.LaidErr
namespace Go.Proofs.YthfhhfpgmecjcaaGreatDoor
open Go.RowKit

theorem Tryz.gY : Tryz.prog.globalNamed "samphire/poly.kept" = some 1 := by kernel_rfl
theorem Tryz.tY : (Tryz.prog.globals[1]?).map (·.type) = some 97 := by kernel_rfl
theorem Tryz.cellsY1 : Tryz.prog.cellsOf 5 = 1 := by kernel_rfl
theorem Tryz.cellsY : Tryz.prog.cellsOf 97 = 16 := by kernel_rfl
theorem datumY : (Rows.laid_samphire_poly_kept : DataW Unit) = Lib.tabData .u8 (ints keptL) := by kernel_rfl
theorem globY_of' {W : World} {rest : List (String × DataW Unit)} (h : laidMet Tryz.prog (("samphire/poly.kept", Rows.laid_samphire_poly_kept) :: rest) W) : GlobY W := by
  rw [datumY] at h
  have hT := Lib.tabIs_of_head Tryz.gY Tryz.tY Tryz.underlying97 Tryz.underlying5 Tryz.cellsY1 Tryz.cellsY h
  intro j hj
  rw [hT.cell Tryz.gY j (by rw [ints_length]; exact hj), ints_getD]
theorem globY_of {W : World} (h : laidMetH Tryz.prog [("samphire/poly.kept", Rows.laid_samphire_poly_kept)] W) : GlobY W := by
  rw [MakeChecks.laidMetH_plain _ _ _ (by kernel_rfl)] at h
  exact globY_of' h
end Go.Proofs.YthfhhfpgmecjcaaGreatDoor
