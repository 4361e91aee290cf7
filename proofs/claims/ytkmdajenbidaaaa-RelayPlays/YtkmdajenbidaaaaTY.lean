import Derived.Test.YtkmdajenbidaaaaTA
import Derived.Test.YtkmdajenbidaaaaRG
import Derived.Test.YtkmdajenbidaaaaRT
import Derived.Test.YtkmdajenbidaaaaN11
/- The code's isName, hasItsOwn, Check (layer 11). -/
namespace Go.Proofs.Ytkmdajenbidaaaa
open Go.RowKit
set_option maxRecDepth 100000
set_option linter.unusedSimpArgs false

theorem size_zero (s : ByteArray) : s.size = 0 ↔ s = ⟨#[]⟩ := by
  constructor
  · intro h
    have : s.data = #[] := by
      have : s.data.size = 0 := h
      exact Array.eq_empty_of_size_eq_zero this
    cases s; simp at this; rw [this]
  · rintro rfl; rfl

/-- The fields that an operation's kind asks for, and no others. -/
def OwnF (o : OpT) : Prop :=
  ((o.1 = 1 ∧ o.2.2.1 = o.2.1 ∧ ParS o.2.2.2.1 ∧ NameP o.2.2.2.2.1 ∧ o.2.2.2.2.2.size = 0) ∨
   (o.1 = 2 ∧ ParS o.2.2.2.1 ∧ o.2.2.2.2.1.size = 0 ∧ o.2.2.2.2.2.size = 0) ∨
   (o.1 = 3 ∧ o.2.2.2.1 = (0, 0) ∧ NameP o.2.2.2.2.1 ∧ o.2.2.2.2.2.size = 0) ∨
   (o.1 = 4 ∧ o.2.2.2.1 = (0, 0) ∧ o.2.2.2.2.1.size = 0 ∧ o.2.2.2.2.2.size ≤ 64) ∨
   (o.1 = 5 ∧ o.2.2.2.1 = (0, 0) ∧ o.2.2.2.2.1.size = 0 ∧ o.2.2.2.2.2.size = 0))

theorem own1 (a b c : Int × Int) (s t : ByteArray) : OwnF (1, a, b, c, s, t) ↔ (b = a ∧ ParS c ∧ NameP s ∧ t = ⟨#[]⟩) := by
  unfold OwnF
  simp only [← size_zero]
  constructor
  · rintro (h | h | h | h | h)
    · exact h.2
    · exact absurd h.1 (by decide)
    · exact absurd h.1 (by decide)
    · exact absurd h.1 (by decide)
    · exact absurd h.1 (by decide)
  · exact fun h => .inl ⟨trivial, h⟩

theorem own2 (a b c : Int × Int) (s t : ByteArray) : OwnF (2, a, b, c, s, t) ↔ (ParS c ∧ s = ⟨#[]⟩ ∧ t = ⟨#[]⟩) := by
  unfold OwnF
  simp only [← size_zero]
  constructor
  · rintro (h | h | h | h | h)
    · exact absurd h.1 (by decide)
    · exact h.2
    · exact absurd h.1 (by decide)
    · exact absurd h.1 (by decide)
    · exact absurd h.1 (by decide)
  · exact fun h => .inr (.inl ⟨trivial, h⟩)

theorem own3 (a b c : Int × Int) (s t : ByteArray) : OwnF (3, a, b, c, s, t) ↔ (c = (0, 0) ∧ NameP s ∧ t = ⟨#[]⟩) := by
  unfold OwnF
  simp only [← size_zero]
  constructor
  · rintro (h | h | h | h | h)
    · exact absurd h.1 (by decide)
    · exact absurd h.1 (by decide)
    · exact h.2
    · exact absurd h.1 (by decide)
    · exact absurd h.1 (by decide)
  · exact fun h => .inr (.inr (.inl ⟨trivial, h⟩))

theorem own4 (a b c : Int × Int) (s t : ByteArray) : OwnF (4, a, b, c, s, t) ↔ (c = (0, 0) ∧ s = ⟨#[]⟩ ∧ t.size ≤ 64) := by
  unfold OwnF
  simp only [← size_zero]
  constructor
  · rintro (h | h | h | h | h)
    · exact absurd h.1 (by decide)
    · exact absurd h.1 (by decide)
    · exact absurd h.1 (by decide)
    · exact h.2
    · exact absurd h.1 (by decide)
  · exact fun h => .inr (.inr (.inr (.inl ⟨trivial, h⟩)))

theorem own5 (a b c : Int × Int) (s t : ByteArray) : OwnF (5, a, b, c, s, t) ↔ (c = (0, 0) ∧ s = ⟨#[]⟩ ∧ t = ⟨#[]⟩) := by
  unfold OwnF
  simp only [← size_zero]
  constructor
  · rintro (h | h | h | h | h)
    · exact absurd h.1 (by decide)
    · exact absurd h.1 (by decide)
    · exact absurd h.1 (by decide)
    · exact absurd h.1 (by decide)
    · exact h.2
  · exact fun h => .inr (.inr (.inr (.inr (⟨trivial, h⟩))))

end Go.Proofs.Ytkmdajenbidaaaa

/- The code's Check, Apply (layer 11). -/
namespace Go.Proofs.Ytkmdajenbidaaaa
open Go.RowKit
set_option maxRecDepth 100000
set_option linter.unusedSimpArgs false

end Go.Proofs.Ytkmdajenbidaaaa
