import Derived.Test.YtfbgofbjbfidoaaDoorRUnhex
namespace Go.Proofs.YtfbgofbjbfidoaaDoor
open Go.RowKit

/-- The digits. -/
def digs : ByteArray := ⟨#[48, 49, 50, 51, 52, 53, 54, 55, 56, 57, 97, 98, 99, 100, 101, 102]⟩
def hexd (n : Nat) : Nat := bt digs n
/-- The digit at a place. -/
def hexPlace (s : ByteArray) (i : Nat) : Nat := if i % 2 = 0 then hexd (bt s (i / 2) / 16) else hexd (bt s (i / 2) % 16)
def hexL (s : ByteArray) : List UInt8 := bytesOf (2 * s.size) (hexPlace s)
def hexAt (s : ByteArray) (k : Nat) (i : Nat) : Int := if i < k then (hexPlace s i : Int) else 0
theorem hexAt_zero (s : ByteArray) (i : Nat) : hexAt s 0 i = 0 := by simp [hexAt]
theorem hexPlace_lt (s : ByteArray) (i : Nat) : hexPlace s i < 256 := by unfold hexPlace hexd; split <;> exact bt_lt _ _

theorem hexPlace_even (s : ByteArray) (k : Nat) : hexPlace s (2 * k) = hexd (bt s k / 16) := by
  unfold hexPlace; rw [if_pos (by omega), show 2 * k / 2 = k by omega]
theorem hexPlace_odd (s : ByteArray) (k : Nat) : hexPlace s (2 * k + 1) = hexd (bt s k % 16) := by
  unfold hexPlace; rw [if_neg (by omega), show (2 * k + 1) / 2 = k by omega]
theorem hexAt_set (s : ByteArray) (n j : Nat) : (tab n (hexAt s j)).set j (hexPlace s j : Int) = tab n (hexAt s (j + 1)) := by
  refine tab_set _ _ _ _ _ (by unfold hexAt; rw [if_pos (by omega)]) (fun i _ hne => ?_)
  unfold hexAt
  by_cases h : i < j
  · rw [if_pos h, if_pos (by omega)]
  · rw [if_neg h, if_neg (by omega)]
theorem hexAt_end (s : ByteArray) : tab (2 * s.size) (hexAt s (2 * s.size)) = nums (hexL s) := by
  unfold hexL
  rw [nums_bytesOf _ _ (fun i _ => hexPlace_lt s i)]
  exact tab_congr _ _ _ (fun i hi => by unfold hexAt; rw [if_pos hi])

theorem hexL_len (s : ByteArray) : (nums (hexL s)).length = 2 * s.size := by rw [nums_length]; unfold hexL; rw [bytesOf_length]
theorem hexL_get (s : ByteArray) (i : Nat) (h : i < (nums (hexL s)).length) : (nums (hexL s))[i] = (hexPlace s i : Int) := by
  have hk : i < 2 * s.size := by rw [hexL_len] at h; exact h
  have e : nums (hexL s) = tab (2 * s.size) (fun i => (hexPlace s i : Int)) := nums_bytesOf _ _ (fun i _ => hexPlace_lt s i)
  simp only [e, tab_get _ _ i hk]

end Go.Proofs.YtfbgofbjbfidoaaDoor
