import Derived.Test.YtdmlffbpcjadfaaDoorSnG
import Derived.Test.YtdmlffbpcjadfaaDoorRSnD
import Derived.Test.YtdmlffbpcjadfaaDoorZer
/- What must come, whatever the arguments are (layer 13). -/
namespace Go.Proofs.YtdmlffbpcjadfaaDoor
open Go.RowKit
set_option linter.unusedSimpArgs false

/-- The example: an operation that sets a value. -/
def exO : OpT := (4, (2, 1), (1, 1), (0, 0), ⟨#[]⟩, ⟨#[118]⟩)

def exB : ByteArray := encA (opPs exO)

theorem exB_size : exB.size = 27 := by decide +kernel

theorem exO_ok : ∀ p ∈ opPs exO, okP p = true := by decide +kernel

theorem exO_may : MayO exO := by
  unfold MayO
  refine ⟨by unfold MayS exO; decide, by unfold MayS exO; decide, ?_⟩
  right; right; right; left
  exact ⟨rfl, rfl, rfl, by decide⟩

theorem exO_put (M : OpT → Bool) (hM : ∀ o, M o = true ↔ MayO o) : putOpP M exO = (exB, 0) :=
  put_fit M exO ((hM _).2 exO_may) exO_ok (by show exB.size ≤ _; rw [exB_size]; decide)

theorem empty_put (M : OpT → Bool) : putSP M true true ([], [], (0, 0)) = (zeroB 19, 0) := by
  have h : codeP M true ([], [], (0, 0)) = (([], [], (0, 0)), 0) := by
    unfold codeP
    rw [if_neg (fun h => h.1 rfl), if_neg (by decide)]
    rfl
  unfold putSP
  rw [h, if_neg (by simp)]
  decide +kernel

theorem zero_a : inStampC (zeroB 19, 0) = ((zeroB 12, 0), (0, 0)) := by decide +kernel
theorem zero_b : inNumP (zeroB 12, 0) = ((zeroB 6, 0), 0) := by decide +kernel
theorem zero_c : inNumP (zeroB 6, 0) = ((zeroB 0, 0), 0) := by decide +kernel
end Go.Proofs.YtdmlffbpcjadfaaDoor
