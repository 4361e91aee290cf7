/- Noughts behind a key; a long key's sum: plain facts. -/
import Derived.Test.YtnhdobgkfhgkbaaDoorL3
namespace Go.Proofs.YtnhdobgkfhgkbaaDoor
open Go.RowKit

def zeroB (n : Nat) : ByteArray := ⟨(List.replicate n 0).toArray⟩
theorem zeroB_size (n : Nat) : (zeroB n).size = n := by show (List.replicate n 0).toArray.size = n; simp
theorem bt_zeroB (n j : Nat) : bt (zeroB n) j = 0 := by
  unfold zeroB
  rw [bt_mk, List.getD_eq_getElem?_getD, List.getElem?_replicate]
  by_cases h : j < n
  · rw [if_pos h]; rfl
  · rw [if_neg h]; rfl
theorem bt_padded (key : ByteArray) (n : Nat) : bt (key ++ zeroB n) = bt key := by
  funext i
  by_cases h : i < key.size
  · exact bt_append_left _ _ i h
  · have e : i = key.size + (i - key.size) := by omega
    rw [e, bt_append_right, bt_zeroB, bt_out key _ (by omega)]
theorem macB_padded (key s : ByteArray) (n : Nat) (h : key.size + n ≤ 64) : macB (key ++ zeroB n) s = macB key s := by
  unfold macB
  rw [keyOf_short (key ++ zeroB n) (by rw [ByteArray.size_append, zeroB_size]; omega), keyOf_short key (by omega), bt_padded]
theorem macB_long (key s : ByteArray) (h : 64 < key.size) : macB (ofN (sumN key)) s = macB key s := by
  unfold macB
  rw [keyOf_short (ofN (sumN key)) (by rw [sumB_size]; omega), keyOf_long key h]
theorem nums_zeros (n : Nat) : nums (List.replicate n 0) = List.replicate n 0 := by simp [nums]
end Go.Proofs.YtnhdobgkfhgkbaaDoor
