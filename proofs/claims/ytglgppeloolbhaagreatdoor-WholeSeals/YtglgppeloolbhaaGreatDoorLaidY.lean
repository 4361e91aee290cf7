import Derived.Test.YtglgppeloolbhaaGreatDoorL6
import Derived.Test.YtglgppeloolbhaaGreatDoorRows
import Derived.Lib.LaidTab
import Derived.MakeChecks
import Derived.Stop.LaidErr
/- From the row's condition to the table of the package poly. -/
namespace Go.Proofs.YtglgppeloolbhaaGreatDoor
open Go.RowKit
set_option maxRecDepth 100000

theorem Tryz.gY : Tryz.prog.globalNamed "samphire/poly.kept" = some 0 := by kernel_rfl
theorem Tryz.tY : (Tryz.prog.globals[0]?).map (·.type) = some 52 := by kernel_rfl
theorem Tryz.cellsY1 : Tryz.prog.cellsOf 5 = 1 := by kernel_rfl
theorem Tryz.cellsY : Tryz.prog.cellsOf 52 = 16 := by kernel_rfl
theorem datumY : (Rows.laid_samphire_poly_kept : DataW Unit) = Lib.tabData .u8 (ints keptL) := by kernel_rfl
theorem globY_of' {W : World} {rest : List (String × DataW Unit)} (h : laidMet Tryz.prog (("samphire/poly.kept", Rows.laid_samphire_poly_kept) :: rest) W) : GlobY W := by
  rw [datumY] at h
  have hT := Lib.tabIs_of_head Tryz.gY Tryz.tY Tryz.underlying52 Tryz.underlying5 Tryz.cellsY1 Tryz.cellsY h
  intro j hj
  rw [hT.cell Tryz.gY j (by rw [ints_length]; exact hj), ints_getD]
end Go.Proofs.YtglgppeloolbhaaGreatDoor
