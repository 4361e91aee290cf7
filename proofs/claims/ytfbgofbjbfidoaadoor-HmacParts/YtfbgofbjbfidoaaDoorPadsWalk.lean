import Derived.Test.YtfbgofbjbfidoaaDoorRPad
namespace Go.Proofs.YtfbgofbjbfidoaaDoor
open Go.RowKit
set_option linter.unusedSimpArgs false

theorem padB_size (n : Nat) : (padB n).size = 9 + zerosN n := by
  show (padL n).toArray.size = _
  rw [List.size_toArray]
  simp [padL, lenL_length]
  omega
theorem zerosN_mod (n : Nat) : (n + (9 + zerosN n)) % 64 = 0 := by unfold zerosN; omega
theorem zerosN_le (n : Nat) : zerosN n ≤ 63 := by unfold zerosN; omega

end Go.Proofs.YtfbgofbjbfidoaaDoor
