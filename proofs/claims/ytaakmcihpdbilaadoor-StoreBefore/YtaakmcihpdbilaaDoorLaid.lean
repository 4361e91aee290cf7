import Derived.Test.YtaakmcihpdbilaaDoorL2c
import Derived.Test.YtaakmcihpdbilaaDoorRows
import Derived.Lib.LaidTab
import Derived.MakeChecks
import Derived.Stop.LaidErr
namespace Go.Proofs.YtaakmcihpdbilaaDoor
open Go.RowKit
set_option maxRecDepth 100000

theorem Tryd.gB : Tryd.prog.globalNamed "samphire/sha.beginning" = some 0 := by kernel_rfl
theorem Tryd.gK : Tryd.prog.globalNamed "samphire/sha.constants" = some 1 := by kernel_rfl
theorem Tryd.tB : (Tryd.prog.globals[0]?).map (·.type) = some 97 := by kernel_rfl
theorem Tryd.tK : (Tryd.prog.globals[1]?).map (·.type) = some 111 := by kernel_rfl
theorem Tryd.cellsE : Tryd.prog.cellsOf 96 = 1 := by kernel_rfl
theorem Tryd.cellsB : Tryd.prog.cellsOf 97 = 8 := by kernel_rfl
theorem Tryd.cellsK : Tryd.prog.cellsOf 111 = 64 := by kernel_rfl
theorem datumB : (Rows.laid_samphire_sha_beginning : DataW Unit) = Lib.tabData .u32 (ints bN) := by kernel_rfl
theorem datumK : (Rows.laid_samphire_sha_constants : DataW Unit) = Lib.tabData .u32 (ints kN) := by kernel_rfl

theorem globB_of {W : World} {rest : List (String × DataW Unit)} (h : laidMet Tryd.prog (("samphire/sha.beginning", Rows.laid_samphire_sha_beginning) :: rest) W) : GlobB W := by
  rw [datumB] at h
  have hT := Lib.tabIs_of_head Tryd.gB Tryd.tB Tryd.underlying97 Tryd.underlying96 Tryd.cellsE Tryd.cellsB h
  intro j hj
  rw [hT.cell Tryd.gB j (by rw [ints_length]; exact hj), ints_getD]
theorem globK_of {W : World} {rest : List (String × DataW Unit)} (h : laidMet Tryd.prog (("samphire/sha.constants", Rows.laid_samphire_sha_constants) :: rest) W) : GlobK W := by
  rw [datumK] at h
  have hT := Lib.tabIs_of_head Tryd.gK Tryd.tK Tryd.underlying111 Tryd.underlying96 Tryd.cellsE Tryd.cellsK h
  intro j hj
  rw [hT.cell Tryd.gK j (by rw [ints_length]; exact hj), ints_getD]
theorem both_of {W : World} (h : laidMetH Tryd.prog [("samphire/sha.beginning", Rows.laid_samphire_sha_beginning), ("samphire/sha.constants", Rows.laid_samphire_sha_constants)] W) : GlobB W ∧ GlobK W := by
  rw [MakeChecks.laidMetH_plain _ _ _ (by kernel_rfl)] at h
  exact ⟨globB_of h, globK_of h.tail⟩
theorem one_of {W : World} (h : laidMetH Tryd.prog [("samphire/sha.beginning", Rows.laid_samphire_sha_beginning)] W) : GlobB W := by
  rw [MakeChecks.laidMetH_plain _ _ _ (by kernel_rfl)] at h
  exact globB_of h
end Go.Proofs.YtaakmcihpdbilaaDoor
