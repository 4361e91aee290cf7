import Derived.Test.YtagmfgaojmholaaDoorRows
import Derived.WalkKit
import Derived.WalkSpells
import Derived.WalkLawsBesides
import Derived.Deep.QuietTactic
import Derived.BigQuiet
import Derived.Test.YtagmfgaojmholaaDoorBytes
namespace Go.Proofs.YtagmfgaojmholaaDoor
open Go.RowKit

/-- What the loop of Same holds behind k rounds. -/
def sameAt (a b : ByteArray) (k : Nat) (m : UInt8) : Prop := m = 0 ↔ a.data.toList.take k = b.data.toList.take k

theorem sameAt_succ (a b : ByteArray) (k : Nat) (m : UInt8) (ha : k < a.size) (hb : k < b.size) (h : sameAt a b k m) : sameAt a b (k + 1) (m ||| (a[k] ^^^ b[k])) := by
  unfold sameAt at *
  rw [or_zero, xor_zero, take_snoc a k ha, take_snoc b k hb, h]
  constructor
  · rintro ⟨h1, h2⟩; rw [h1, h2]
  · intro h1
    have := List.append_inj h1 (by simp; omega)
    exact ⟨this.1, by simpa using this.2⟩

theorem sameAt_end (a b : ByteArray) (m : UInt8) (h : b.size = a.size) (hs : sameAt a b a.size m) : ((m.toNat : Int) == 0) = (a.toList == b.toList) := by
  unfold sameAt at hs
  rw [List.take_of_length_le (by simp), List.take_of_length_le (by simp [h])] at hs
  rw [Bool.eq_iff_iff]
  simp only [beq_iff_eq]
  rw [toList_data, toList_data, ← hs]
  constructor
  · intro h1; exact UInt8.toNat_inj.1 (by simpa using h1)
  · rintro rfl; rfl

end Go.Proofs.YtagmfgaojmholaaDoor
