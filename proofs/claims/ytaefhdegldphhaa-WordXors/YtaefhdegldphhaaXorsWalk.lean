import Derived.Test.YtaefhdegldphhaaTexts
namespace Go.Proofs.Ytaefhdegldphhaa
open Go.RowKit

theorem xorL_back (a b : ByteArray) (h : b.size = a.size) : xorL ⟨(xorL a b).toArray⟩ b = a.data.toList := by
  apply List.ext_getElem
  · simp [xorL, h]
  · intro i h1 h2
    simp [xorL, UInt8.xor_assoc]

theorem xor_again (a b : ByteArray) (w : World) (ha : a.size ≤ 1048576) (h : b.size = a.size) :
    Calls Try.prog 23 #[.string ⟨(xorL a b).toArray⟩, .string b] w fun e w' => e = .returned (.tuple #[.string a, .int .i64 0]) ∧ Below w.heap.size w w' := by
  have hl : (⟨(xorL a b).toArray⟩ : ByteArray).size = a.size := by
    show (xorL a b).toArray.size = _
    rw [List.size_toArray, xorL_length a b h]
  refine (xor_len ⟨(xorL a b).toArray⟩ b w (by omega) (by omega)).mono ?_
  rintro e w' ⟨rfl, hb⟩
  refine ⟨?_, hb⟩
  rw [xorL_back a b h]

set_option maxHeartbeats 400000 in
theorem wordXors_long (a b : ByteArray) (w : World) (wa : a.size ≤ maxLen) (wb : b.size ≤ maxLen) (h : 4096 < a.size ∨ 4096 < b.size) :
    Calls Try.prog 6 #[.string a, .string b] w fun e w' => e = .returned (.bool true) ∧ Below w.heap.size w w' := by
  unfold maxLen at wa wb
  by_cases h1 : 4096 < a.size
  all_goals
    go_enter Try.func6, Try.ntmps6
    go_wp2_with fail
    refine (texts_any _).mono ?_
    rintro e w1 ⟨rfl, hb1⟩
    go_wp2_with fail
    go_ret
    exact ⟨rfl, hb1⟩

set_option maxHeartbeats 400000 in
theorem wordXors_unlike (a b : ByteArray) (w : World) (ha : a.size ≤ 4096) (hb : b.size ≤ 4096) (h : ¬ b.size = a.size) :
    Calls Try.prog 6 #[.string a, .string b] w fun e w' => e = .returned (.bool true) ∧ Below w.heap.size w w' := by
  go_enter Try.func6, Try.ntmps6
  go_wp2_with fail
  refine (xor_unlike a b _ h).mono ?_
  rintro e w1 ⟨rfl, hb1⟩
  go_wp2_with fail
  refine (rxor_unlike a b _ h).mono ?_
  rintro e w2 ⟨rfl, hb2⟩
  go_wp2_with fail
  refine (same_any a b _ (by unfold maxLen; omega)).mono ?_
  rintro e w3 ⟨rfl, hb3⟩
  go_wp2_with fail
  refine (same_any a a _ (by unfold maxLen; omega)).mono ?_
  rintro e w4 ⟨rfl, hb4⟩
  go_wp2_with fail
  refine (texts_any _).mono ?_
  rintro e w5 ⟨rfl, hb5⟩
  go_wp2_with fail
  go_ret
  exact ⟨rfl, below_step (below_step (below_step (below_step hb1 (Nat.le_refl _) hb2) (Nat.le_refl _) hb3) (Nat.le_refl _) hb4) (Nat.le_refl _) hb5⟩

set_option maxHeartbeats 400000 in
theorem wordXors_alike (a b : ByteArray) (w : World) (ha : a.size ≤ 4096) (h : b.size = a.size) :
    Calls Try.prog 6 #[.string a, .string b] w fun e w' => e = .returned (.bool true) ∧ Below w.heap.size w w' := by
  go_enter Try.func6, Try.ntmps6
  go_wp2_with fail
  refine (xor_len a b _ (by omega) h).mono ?_
  rintro e w1 ⟨rfl, hb1⟩
  go_wp2_with fail
  refine (rxor_len a b _ (by omega) h).mono ?_
  rintro e w2 ⟨rfl, hb2⟩
  go_wp2_with fail
  refine (same_any a b _ (by unfold maxLen; omega)).mono ?_
  rintro e w3 ⟨rfl, hb3⟩
  go_wp2_with fail
  refine (same_any a a _ (by unfold maxLen; omega)).mono ?_
  rintro e w4 ⟨rfl, hb4⟩
  go_wp2_with fail
  refine (xor_again a b _ (by omega) h).mono ?_
  rintro e w5 ⟨rfl, hb5⟩
  go_wp2_with fail
  refine (texts_any _).mono ?_
  rintro e w6 ⟨rfl, hb6⟩
  go_wp2_with fail
  go_ret
  exact ⟨rfl, below_step (below_step (below_step (below_step (below_step hb1 (Nat.le_refl _) hb2) (Nat.le_refl _) hb3) (Nat.le_refl _) hb4) (Nat.le_refl _) hb5) (Nat.le_refl _) hb6⟩

theorem wordXors_walk (a b : ByteArray) (wa : a.size ≤ maxLen) (wb : b.size ≤ maxLen) (w : World) :
    Calls Try.prog 6 #[.string a, .string b] w fun e w' => e = .returned (.bool true) ∧ Below w.heap.size w w' := by
  by_cases h1 : a.size ≤ 4096
  · by_cases h2 : b.size ≤ 4096
    · by_cases h : b.size = a.size
      · exact wordXors_alike a b w h1 h
      · exact wordXors_unlike a b w h1 h2 h
    · exact wordXors_long a b w wa wb (by omega)
  · exact wordXors_long a b w wa wb (by omega)
end Go.Proofs.Ytaefhdegldphhaa
