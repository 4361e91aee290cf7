/- How many bytes a name has, an operation that may be (layers 8, 11): plain. -/
import Derived.Test.YtkmdajenbidaaaaDoorRG
import Derived.Test.YtkmdajenbidaaaaDoorRT
namespace Go.Proofs.YtkmdajenbidaaaaDoor
open Go.RowKit
set_option maxRecDepth 100000
set_option linter.unusedSimpArgs false

theorem runeK_few (s : ByteArray) : runeK (oneP s) ≤ 4 := by
  unfold oneP oneTail
  split
  · show 1 ≤ 4; omega
  · repeat' split
    all_goals (simp [runeK])

theorem posR_few (s : ByteArray) : ∀ k, posR s k ≤ 4 * k := by
  intro k
  induction k with
  | zero => exact Nat.le_refl _
  | succ k ih =>
    by_cases h : posR s k < s.size
    · rw [posR_succ s k h]
      unfold nextR
      have := runeK_few (restB s (posR s k))
      omega
    · rw [posR_stop s k h]; omega

theorem name_few (s : ByteArray) (h : NameP s) : s.size ≤ 128 := by
  have h1 := posR_few s (countR s)
  rw [pos_count] at h1
  have := h.2.2
  omega

theorem may_few {o : OpT} (h : MayO o) : o.2.2.2.2.1.size ≤ 1024 ∧ o.2.2.2.2.2.size ≤ 1024 := by
  obtain ⟨_, _, h⟩ := h
  rcases h with ⟨_, _, _, h4, h5⟩ | ⟨_, _, h4, h5⟩ | ⟨_, _, h4, h5⟩ | ⟨_, _, h4, h5⟩ | ⟨_, _, h4, h5⟩
  · have := name_few _ h4; omega
  · omega
  · have := name_few _ h4; omega
  · omega
  · omega

end Go.Proofs.YtkmdajenbidaaaaDoor
