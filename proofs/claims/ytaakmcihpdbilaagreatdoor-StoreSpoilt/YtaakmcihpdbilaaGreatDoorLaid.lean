import Derived.Test.YtaakmcihpdbilaaGreatDoorL2c
import Derived.Test.YtaakmcihpdbilaaGreatDoorRows
import Derived.Lib.LaidTab
import Derived.MakeChecks
import Derived.Stop.LaidErr
namespace Go.Proofs.YtaakmcihpdbilaaGreatDoor
open Go.RowKit
set_option maxRecDepth 100000

theorem Tryz.gB : Tryz.prog.globalNamed "samphire/sha.beginning" = some 0 := by kernel_rfl
theorem Tryz.gK : Tryz.prog.globalNamed "samphire/sha.constants" = some 1 := by kernel_rfl
theorem Tryz.tB : (Tryz.prog.globals[0]?).map (·.type) = some 132 := by kernel_rfl
theorem Tryz.tK : (Tryz.prog.globals[1]?).map (·.type) = some 155 := by kernel_rfl
theorem Tryz.cellsE : Tryz.prog.cellsOf 131 = 1 := by kernel_rfl
theorem Tryz.cellsB : Tryz.prog.cellsOf 132 = 8 := by kernel_rfl
theorem Tryz.cellsK : Tryz.prog.cellsOf 155 = 64 := by kernel_rfl
theorem datumB : (Rows.laid_samphire_sha_beginning : DataW Unit) = Lib.tabData .u32 (ints bN) := by kernel_rfl
theorem datumK : (Rows.laid_samphire_sha_constants : DataW Unit) = Lib.tabData .u32 (ints kN) := by kernel_rfl

theorem globB_of {W : World} {rest : List (String × DataW Unit)} (h : laidMet Tryz.prog (("samphire/sha.beginning", Rows.laid_samphire_sha_beginning) :: rest) W) : GlobB W := by
  rw [datumB] at h
  have hT := Lib.tabIs_of_head Tryz.gB Tryz.tB Tryz.underlying132 Tryz.underlying131 Tryz.cellsE Tryz.cellsB h
  intro j hj
  rw [hT.cell Tryz.gB j (by rw [ints_length]; exact hj), ints_getD]
theorem globK_of {W : World} {rest : List (String × DataW Unit)} (h : laidMet Tryz.prog (("samphire/sha.constants", Rows.laid_samphire_sha_constants) :: rest) W) : GlobK W := by
  rw [datumK] at h
  have hT := Lib.tabIs_of_head Tryz.gK Tryz.tK Tryz.underlying155 Tryz.underlying131 Tryz.cellsE Tryz.cellsK h
  intro j hj
  rw [hT.cell Tryz.gK j (by rw [ints_length]; exact hj), ints_getD]
theorem both_of {W : World} (h : laidMetH Tryz.prog [("samphire/sha.beginning", Rows.laid_samphire_sha_beginning), ("samphire/sha.constants", Rows.laid_samphire_sha_constants)] W) : GlobB W ∧ GlobK W := by
  rw [MakeChecks.laidMetH_plain _ _ _ (by kernel_rfl)] at h
  exact ⟨globB_of h, globK_of h.tail⟩
theorem one_of {W : World} (h : laidMetH Tryz.prog [("samphire/sha.beginning", Rows.laid_samphire_sha_beginning)] W) : GlobB W := by
  rw [MakeChecks.laidMetH_plain _ _ _ (by kernel_rfl)] at h
  exact globB_of h
end Go.Proofs.YtaakmcihpdbilaaGreatDoor
