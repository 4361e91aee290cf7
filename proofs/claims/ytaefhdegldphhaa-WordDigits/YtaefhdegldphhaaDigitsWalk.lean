import Derived.Test.YtaefhdegldphhaaTexts
namespace Go.Proofs.Ytaefhdegldphhaa
open Go.RowKit

theorem hexd_16 : ∀ n, n < 16 → isDig (hexd n) = true ∧ digVal (hexd n) = n := by decide +kernel

theorem hexL_size (s : ByteArray) : (⟨(hexL s).toArray⟩ : ByteArray).size = 2 * s.size := by
  show (hexL s).toArray.size = _
  rw [List.size_toArray]; unfold hexL; rw [bytesOf_length]

theorem bytesOf_get (n : Nat) (f : Nat → Nat) (i : Nat) (h : i < n) (hf : f i < 256) : ((bytesOf n f).getD i 0).toNat = f i := by
  unfold bytesOf
  simp [List.getD, List.getElem?_map, List.getElem?_range h, Nat.mod_eq_of_lt hf]

theorem bytesOf_getElem (n : Nat) (f : Nat → Nat) (i : Nat) (h : i < (bytesOf n f).length) : (bytesOf n f)[i] = UInt8.ofNat (f i) := by simp [bytesOf]
theorem bt_ofNat (s : ByteArray) (i : Nat) (h : i < s.data.toList.length) : UInt8.ofNat (bt s i) = s.data.toList[i] := by
  unfold bt
  simp [List.getD, List.getElem?_eq_getElem h]

theorem hexL_bt (s : ByteArray) (j : Nat) (h : j < 2 * s.size) : bt ⟨(hexL s).toArray⟩ j = hexPlace s j := by
  show ((hexL s).getD j 0).toNat = _
  unfold hexL
  exact bytesOf_get _ _ _ h (hexPlace_lt s j)

theorem unhex_hex (s : ByteArray) : unhexR ⟨(hexL s).toArray⟩ = .tuple #[.string s, .int .i64 0] := by
  have hb := fun i => bt_lt s i
  rw [unhexR_yes _ (by rw [hexL_size]; omega)]
  · have e : unhexL ⟨(hexL s).toArray⟩ = s.data.toList := by
      unfold unhexL
      rw [hexL_size, show 2 * s.size / 2 = s.size by omega]
      apply List.ext_getElem
      · rw [bytesOf_length]; simp
      · intro i h1 h2
        have hi : i < s.size := by rw [bytesOf_length] at h1; exact h1
        have h3 : hexByte ⟨(hexL s).toArray⟩ i = bt s i := by
          unfold hexByte
          rw [hexL_bt s _ (by omega), hexL_bt s _ (by omega), hexPlace_even, hexPlace_odd, (hexd_16 _ (by have := hb i; omega)).2, (hexd_16 _ (by omega)).2]
          omega
        rw [bytesOf_getElem, h3, bt_ofNat s i h2]
    rw [e]
  · intro j hj
    rw [hexL_size] at hj
    rw [hexL_bt s j hj]
    unfold hexPlace
    split
    · exact (hexd_16 _ (by have := hb (j / 2); omega)).1
    · exact (hexd_16 _ (by omega)).1

theorem unhexR_form (s : ByteArray) : ∃ x n, unhexR s = .tuple #[.string x, .int .i64 n] := by
  unfold unhexR; split
  · exact ⟨_, _, rfl⟩
  · exact ⟨_, _, rfl⟩

set_option maxHeartbeats 400000 in
theorem wordDigits_long (a b : ByteArray) (w : World) (wa : a.size ≤ maxLen) (wb : b.size ≤ maxLen) (h : 1024 < a.size ∨ 1024 < b.size) :
    Calls Try.prog 7 #[.string a, .string b] w fun e w' => e = .returned (.bool true) ∧ Below w.heap.size w w' := by
  unfold maxLen at wa wb
  by_cases h1 : 1024 < a.size
  all_goals
    go_enter Try.func7, Try.ntmps7
    go_wp2_with fail
    refine (texts_any _).mono ?_
    rintro e w1 ⟨rfl, hb1⟩
    go_wp2_with fail
    go_ret
    exact ⟨rfl, hb1⟩

set_option maxHeartbeats 400000 in
theorem wordDigits_short (s t : ByteArray) (w : World) (hs : s.size ≤ 1024) (ht : t.size ≤ 1024) :
    Calls Try.prog 7 #[.string s, .string t] w fun e w' => e = .returned (.bool true) ∧ Below w.heap.size w w' := by
  obtain ⟨x, n, hR⟩ := unhexR_form t
  have c1 := fun w => unhex_any t w (by omega)
  have c2 := fun w => runhex_any t w (by omega)
  rw [hR] at c1 c2
  have c3 := fun w => unhex_any ⟨(hexL s).toArray⟩ w (by rw [hexL_size]; omega)
  rw [unhex_hex] at c3
  have C1 : Hid (∀ w, _) := c1
  have C2 : Hid (∀ w, _) := c2
  have C3 : Hid (∀ w, _) := c3
  clear c1 c2 c3 hR
  go_enter Try.func7, Try.ntmps7
  go_wp2_with fail
  refine (C1.out _).mono ?_
  rintro e w1 ⟨rfl, hb1⟩
  go_wp2_with fail
  refine (C2.out _).mono ?_
  rintro e w2 ⟨rfl, hb2⟩
  go_wp2_with fail
  refine (hex_any s _ (by omega)).mono ?_
  rintro e w3 ⟨rfl, hb3⟩
  go_wp2_with fail
  refine (C3.out _).mono ?_
  rintro e w4 ⟨rfl, hb4⟩
  go_wp2_with fail
  refine (hex_any s _ (by omega)).mono ?_
  rintro e w5 ⟨rfl, hb5⟩
  go_wp2_with fail
  refine (rhex_any s _ (by omega)).mono ?_
  rintro e w6 ⟨rfl, hb6⟩
  go_wp2_with fail
  refine (texts_any _).mono ?_
  rintro e w7 ⟨rfl, hb7⟩
  go_wp2_with fail
  go_ret
  exact ⟨rfl, below_step (below_step (below_step (below_step (below_step (below_step hb1 (Nat.le_refl _) hb2) (Nat.le_refl _) hb3) (Nat.le_refl _) hb4) (Nat.le_refl _) hb5) (Nat.le_refl _) hb6) (Nat.le_refl _) hb7⟩

theorem wordDigits_walk (a b : ByteArray) (wa : a.size ≤ maxLen) (wb : b.size ≤ maxLen) (w : World) :
    Calls Try.prog 7 #[.string a, .string b] w fun e w' => e = .returned (.bool true) ∧ Below w.heap.size w w' := by
  by_cases h1 : a.size ≤ 1024
  · by_cases h2 : b.size ≤ 1024
    · exact wordDigits_short a b w h1 h2
    · exact wordDigits_long a b w wa wb (by omega)
  · exact wordDigits_long a b w wa wb (by omega)
end Go.Proofs.Ytaefhdegldphhaa
