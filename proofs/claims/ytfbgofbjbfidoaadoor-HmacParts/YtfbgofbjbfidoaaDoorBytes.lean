/- Plain facts on bytes and lists of bytes; nothing of the program. -/
import Derived.Laws.BitsAllLaws
import Derived.Laws.BytesArg
import Derived.Below
import Derived.Laws.Strings
namespace Go.Proofs.YtfbgofbjbfidoaaDoor
open Go.RowKit

theorem take_snoc (s : ByteArray) (k : Nat) (h : k < s.size) : s.data.toList.take (k + 1) = s.data.toList.take k ++ [s[k]] := by
  rw [List.take_succ_eq_append_getElem (by simpa using h)]; rfl

theorem byte_lt (x : UInt8) : x.toNat < 256 := x.toNat_lt

theorem bits_xor_byte (x y : UInt8) : bits .xor .u8 (x.toNat : Int) (y.toNat : Int) = ((x ^^^ y).toNat : Int) := by
  rw [u8_xor_nat _ _ (byte_lt x) (byte_lt y)]; simp

theorem bits_or_byte (x y : UInt8) : bits .or .u8 (x.toNat : Int) (y.toNat : Int) = ((x ||| y).toNat : Int) := by
  rw [u8_or_nat _ _ (byte_lt x) (byte_lt y)]; simp

theorem or_zero (x y : UInt8) : x ||| y = 0 ↔ x = 0 ∧ y = 0 := by
  constructor
  · intro h
    have h1 : ∀ i, (x.toBitVec ||| y.toBitVec).getLsbD i = (0 : BitVec 8).getLsbD i := fun i => by
      have := congrArg UInt8.toBitVec h
      rw [UInt8.toBitVec_or] at this; rw [this]; rfl
    constructor
    · apply UInt8.toBitVec_inj.1; apply BitVec.eq_of_getLsbD_eq; intro i hi; have := h1 i; simp at this ⊢; exact this.1
    · apply UInt8.toBitVec_inj.1; apply BitVec.eq_of_getLsbD_eq; intro i hi; have := h1 i; simp at this ⊢; exact this.2
  · rintro ⟨rfl, rfl⟩; rfl

theorem xor_zero (x y : UInt8) : x ^^^ y = 0 ↔ x = y := by
  constructor
  · intro h
    have : (x ^^^ y) ^^^ y = 0 ^^^ y := by rw [h]
    simpa [UInt8.xor_assoc] using this
  · rintro rfl; simp

theorem toList_data (s : ByteArray) : s.toList = s.data.toList := by
  exact ByteArray.toList_eq s

theorem bytes_ext {a b : ByteArray} (h : a.data.toList = b.data.toList) : a = b := by
  cases a; cases b; simp at h; simp [h]
end Go.Proofs.YtfbgofbjbfidoaaDoor
