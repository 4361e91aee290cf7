import Derived.Test.YtkmdajenbidaaaaDoorRT
import Derived.Test.YtkmdajenbidaaaaDoorR8
/- The document's with (layer 11). -/
namespace Go.Proofs.YtkmdajenbidaaaaDoor
open Go.RowKit
set_option maxRecDepth 100000
set_option linter.unusedSimpArgs false

theorem nodeA_one (x : (Int × Int) × (Int × Int) × ByteArray × ByteArray) : ∀ u ∈ (nodeA x).toList, u.oneCell' = true := by
  intro u hu
  simp [nodeA] at hu
  rcases hu with rfl | rfl | rfl | rfl | rfl | rfl <;> rfl



end Go.Proofs.YtkmdajenbidaaaaDoor

/- The document's May, Check (layer 11). -/
namespace Go.Proofs.YtkmdajenbidaaaaDoor
open Go.RowKit
set_option maxRecDepth 100000
set_option linter.unusedSimpArgs false

/-- May an operation be? -/
def MayO (o : Int × (Int × Int) × (Int × Int) × (Int × Int) × ByteArray × ByteArray) : Prop :=
  MayS o.2.1 ∧ MayS o.2.2.1 ∧
  ((o.1 = 1 ∧ o.2.2.1 = o.2.1 ∧ ParS o.2.2.2.1 ∧ NameP o.2.2.2.2.1 ∧ o.2.2.2.2.2.size = 0) ∨
   (o.1 = 2 ∧ ParS o.2.2.2.1 ∧ o.2.2.2.2.1.size = 0 ∧ o.2.2.2.2.2.size = 0) ∨
   (o.1 = 3 ∧ o.2.2.2.1 = (0, 0) ∧ NameP o.2.2.2.2.1 ∧ o.2.2.2.2.2.size = 0) ∨
   (o.1 = 4 ∧ o.2.2.2.1 = (0, 0) ∧ o.2.2.2.2.1.size = 0 ∧ o.2.2.2.2.2.size ≤ 64) ∨
   (o.1 = 5 ∧ o.2.2.2.1 = (0, 0) ∧ o.2.2.2.2.1.size = 0 ∧ o.2.2.2.2.2.size = 0))

theorem nameX_is (s : ByteArray) : ∃ x, NameE s x := by
  by_cases h : NameP s
  · exact ⟨0, .inl ⟨rfl, h⟩⟩
  · exact ⟨80, .inr ⟨rfl, h⟩⟩

theorem isE_yes (s : ByteArray) (h : s.size = 0) : s.toList.isEmpty = true := by
  have h0 : s.data.size = 0 := h
  rw [toList_data, Array.eq_empty_of_size_eq_zero h0]; rfl

theorem isE_no (s : ByteArray) (h : ¬ s.size = 0) : s.toList.isEmpty = false := by
  rw [toList_data]
  cases hl : s.data.toList with
  | nil =>
    have h2 : s.data.toList.length = 0 := by rw [hl]; rfl
    rw [Array.length_toList] at h2
    exact absurd h2 h
  | cons x r => rfl

end Go.Proofs.YtkmdajenbidaaaaDoor
