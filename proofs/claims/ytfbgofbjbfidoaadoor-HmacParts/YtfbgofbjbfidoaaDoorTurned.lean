import Derived.Test.YtfbgofbjbfidoaaDoorRPut
namespace Go.Proofs.YtfbgofbjbfidoaaDoor
open Go.RowKit

/-- Bytes, four by four the other way round. -/
def tp (s : ByteArray) (j : Nat) : Nat := bt s (4 * (j / 4) + (3 - j % 4))
def turnL (s : ByteArray) : List UInt8 := bytesOf (4 * (s.size / 4)) (tp s)
theorem tp_lt (s : ByteArray) (j : Nat) : tp s j < 256 := bt_lt _ _
theorem turnL_len (s : ByteArray) : (nums (turnL s)).length = 4 * (s.size / 4) := by rw [nums_length]; unfold turnL; rw [bytesOf_length]
theorem turnL_get (s : ByteArray) (j : Nat) (h : j < (nums (turnL s)).length) : (nums (turnL s))[j] = ((tp s j : Nat) : Int) := by
  have hk : j < 4 * (s.size / 4) := by rw [turnL_len] at h; exact h
  have e : nums (turnL s) = tab (4 * (s.size / 4)) (fun i => (tp s i : Int)) := nums_bytesOf _ _ (fun i _ => tp_lt s i)
  simp only [e, tab_get _ _ j hk]
theorem tp0 (s : ByteArray) (k : Nat) : tp s (4 * k) = bt s (4 * k + 3) := by unfold tp; rw [show 4 * (4 * k / 4) + (3 - 4 * k % 4) = 4 * k + 3 by omega]
theorem tp1 (s : ByteArray) (k : Nat) : tp s (4 * k + 1) = bt s (4 * k + 2) := by unfold tp; rw [show 4 * ((4 * k + 1) / 4) + (3 - (4 * k + 1) % 4) = 4 * k + 2 by omega]
theorem tp2 (s : ByteArray) (k : Nat) : tp s (4 * k + 2) = bt s (4 * k + 1) := by unfold tp; rw [show 4 * ((4 * k + 2) / 4) + (3 - (4 * k + 2) % 4) = 4 * k + 1 by omega]
theorem tp3 (s : ByteArray) (k : Nat) : tp s (4 * k + 3) = bt s (4 * k) := by unfold tp; rw [show 4 * ((4 * k + 3) / 4) + (3 - (4 * k + 3) % 4) = 4 * k by omega]

theorem turn_size (s : ByteArray) : (⟨(turnL s).toArray⟩ : ByteArray).size = 4 * (s.size / 4) := by
  show (turnL s).toArray.size = _
  rw [List.size_toArray]; unfold turnL; rw [bytesOf_length]
theorem turn_bt (s : ByteArray) (j : Nat) (h : j < 4 * (s.size / 4)) : bt ⟨(turnL s).toArray⟩ j = tp s j := by
  rw [bt_mk]
  unfold turnL bytesOf
  simp [List.getD, List.getElem?_map, List.getElem?_range h, Nat.mod_eq_of_lt (tp_lt s j)]
theorem turn_words (s : ByteArray) (h : s.size % 4 = 0) : wordsL ⟨(turnL s).toArray⟩ bsh = wordsL s ssh := by
  have e : (⟨(turnL s).toArray⟩ : ByteArray).size = s.size := by rw [turn_size]; omega
  have e2 : wordsL ⟨(turnL s).toArray⟩ bsh = tab (s.size / 4) (fun i => ((wAt ⟨(turnL s).toArray⟩ bsh (⟨(turnL s).toArray⟩ : ByteArray).size i : Nat) : Int)) := by
    unfold wordsL; rw [e]
  rw [e2]
  unfold wordsL
  refine tab_congr _ _ _ (fun i hi => ?_)
  rw [wAt_big _ i (by rw [e]; omega), wAt_small s i (by omega)]
  rw [turn_bt s _ (by omega), turn_bt s _ (by omega), turn_bt s _ (by omega), turn_bt s _ (by omega), tp0, tp1, tp2, tp3]
theorem turn_put (l : List Int) : (⟨(turnL ⟨(putL l bsh).toArray⟩).toArray⟩ : ByteArray) = ⟨(putL l ssh).toArray⟩ := by
  have hs : (⟨(putL l bsh).toArray⟩ : ByteArray).size = 4 * l.length := by
    show (putL l bsh).toArray.size = _; rw [List.size_toArray, putL_length]
  have hs' : (⟨(putL l ssh).toArray⟩ : ByteArray).size = 4 * l.length := by
    show (putL l ssh).toArray.size = _; rw [List.size_toArray, putL_length]
  apply bytes_eq
  · unfold turnL; rw [bytesOf_length, hs, hs']; omega
  · intro j hj
    rw [hs'] at hj
    rw [← bt_mk, turn_bt _ j (by rw [hs]; omega), putL_bt l ssh j hj]
    unfold tp
    rw [putL_bt l bsh _ (by omega)]
    unfold pb
    rw [show (4 * (j / 4) + (3 - j % 4)) / 4 = j / 4 by omega, show bsh (4 * (j / 4) + (3 - j % 4)) = ssh j by unfold bsh ssh; omega]

end Go.Proofs.YtfbgofbjbfidoaaDoor
