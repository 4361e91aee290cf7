import Derived.Test.YtfbgofbjbfidoaaDoorRows
import Derived.WalkKit
import Derived.WalkSpells
import Derived.WalkLawsBesides
import Derived.Deep.QuietTactic
import Derived.BigQuiet
import Derived.Test.YtfbgofbjbfidoaaDoorBytes
namespace Go.Proofs.YtfbgofbjbfidoaaDoor
open Go.RowKit

/-- What the loop of Same holds behind k rounds. -/
def sameAt (a b : ByteArray) (k : Nat) (m : UInt8) : Prop := m = 0 ↔ a.data.toList.take k = b.data.toList.take k

theorem sameAt_succ (a b : ByteArray) (k : Nat) (m : UInt8) (ha : k < a.size) (hb : k < b.size) (h : sameAt a b k m) : sameAt a b (k + 1) (m ||| (a[k] ^^^ b[k])) := by
  unfold sameAt at *
  rw [or_zero, xor_zero, take_snoc a k ha, take_snoc b k hb, h]
  constructor
  · rintro ⟨h1, h2⟩; rw [h1, h2]
  · intro h1
    have := List.append_inj h1 (by simp; omega)
    exact ⟨this.1, by simpa using this.2⟩

theorem sameAt_end (a b : ByteArray) (m : UInt8) (h : b.size = a.size) (hs : sameAt a b a.size m) : ((m.toNat : Int) == 0) = (a.toList == b.toList) := by
  unfold sameAt at hs
  rw [List.take_of_length_le (by simp), List.take_of_length_le (by simp [h])] at hs
  rw [Bool.eq_iff_iff]
  simp only [beq_iff_eq]
  rw [toList_data, toList_data, ← hs]
  constructor
  · intro h1; exact UInt8.toNat_inj.1 (by simpa using h1)
  · rintro rfl; rfl

set_option maxHeartbeats 400000 in
theorem same_len (a b : ByteArray) (w : World) (ha : a.size ≤ maxLen) (h : b.size = a.size) :
    Calls Tryd.prog 17 #[.string a, .string b] w fun e w' => e = .returned (.bool (a.toList == b.toList)) ∧ Below w.heap.size w w' := by
  unfold maxLen at ha
  go_enter Tryd.func17, Tryd.ntmps17
  go_wp2
  go_loopw [5, 14] (fun o i wr => ∃ k : Nat, ∃ m : UInt8, k ≤ a.size ∧ i = .int .i64 k ∧ o = .int .u8 m.toNat ∧ sameAt a b k m ∧ Below w.heap.size w wr) (fun _ i _ => a.size - (intOf i).toNat)
  case atStart => exact ⟨0, 0, Nat.zero_le _, rfl, rfl, by simp [sameAt], Below.refl _ _⟩
  case round =>
    obtain ⟨k, m, hk, rfl, rfl, hs, hbl⟩ := hrel
    by_cases hlt : k < a.size
    · have hlb : k < b.size := by omega
      have H := sameAt_succ a b k m hlt hlb hs
      go_wp2
      go_quiet (fail)
      go_wp2
      go_roundw
      case rel =>
        refine ⟨k + 1, m ||| (a[k] ^^^ b[k]), by omega, by go_num, ?_, H, below_drewN hbl _⟩
        simp only [bits_xor_byte, bits_or_byte]
      case measure => simp [intOf]; omega
    · have hk' : k = a.size := by omega
      go_wp2
      go_ret
      refine ⟨?_, hbl⟩
      show Ending.returned (Value.bool ((m.toNat : Int) == 0)) = _
      rw [sameAt_end a b m h (by rw [← hk']; exact hs)]

set_option maxHeartbeats 400000 in
theorem same_unlike (a b : ByteArray) (w : World) (h : ¬ b.size = a.size) :
    Calls Tryd.prog 17 #[.string a, .string b] w fun e w' => e = .returned (.bool (a.toList == b.toList)) ∧ Below w.heap.size w w' := by
  have hn : (((a.size : Int) != (b.size : Int))) = true := by rw [bne_iff_ne]; omega
  have hf : (a.toList == b.toList) = false := by
    rw [beq_eq_false_iff_ne]; intro h1; rw [toList_data, toList_data] at h1
    exact h (by rw [bytes_ext h1])
  go_enter Tryd.func17, Tryd.ntmps17
  go_wp2
  go_ret
  exact ⟨by rw [hf]; rfl, Below.refl _ _⟩

/-- word.Same tells whether two texts are the same. -/
theorem same_any (a b : ByteArray) (w : World) (ha : a.size ≤ maxLen) :
    Calls Tryd.prog 17 #[.string a, .string b] w fun e w' => e = .returned (.bool (a.toList == b.toList)) ∧ Below w.heap.size w w' := by
  by_cases h : b.size = a.size
  · exact same_len a b w ha h
  · exact same_unlike a b w h
end Go.Proofs.YtfbgofbjbfidoaaDoor
