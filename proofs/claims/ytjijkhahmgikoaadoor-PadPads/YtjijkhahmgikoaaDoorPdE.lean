/- The code's layer 14: Pad, Unpad. -/
import Derived.Test.YtjijkhahmgikoaaDoorPdD
import Derived.Test.YtjijkhahmgikoaaDoorShelf
namespace Go.Proofs.YtjijkhahmgikoaaDoor
open Go.RowKit
set_option linter.unusedSimpArgs false

/-- A text without the byte 80 (hexadecimal) at its end. -/
def sufP (T : ByteArray) : ByteArray := if T.size = 0 ∨ bt T (T.size - 1) ≠ 128 then T else T.extract 0 (T.size - 1)

theorem last_one (T : ByteArray) (m : Nat) (h : T.size = m + 1) : ((T.extract m (m + 1)).toList == (⟨#[128]⟩ : ByteArray).toList) = decide (bt T m = 128) := by
  rw [beq_bytes]
  have hz : (T.extract m (m + 1)).size = 1 := by rw [ByteArray.size_extract]; omega
  have hb : bt (T.extract m (m + 1)) 0 = bt T m := by rw [bt_extract T m (m + 1) 0 (by omega) (by omega), Nat.add_zero]
  apply decide_eq_decide.2
  constructor
  · intro e
    rw [e] at hb
    rw [← hb]; rfl
  · intro e
    refine bt_ext _ _ (by rw [hz]; rfl) (fun i hi => ?_)
    obtain rfl : i = 0 := by omega
    rw [hb, e]; rfl

set_option maxRecDepth 100000 in
set_option maxHeartbeats 2000000 in
theorem hasSuf_any (T : ByteArray) (w : World) (hs : T.size ≤ 9223372036854775807) : Calls Tryd.prog 42 #[.string T, .string ⟨#[128]⟩] w fun e w' => e = .returned (.bool (decide (¬ (T.size = 0 ∨ bt T (T.size - 1) ≠ 128)))) ∧ w' = w := by
  by_cases h0 : T.size = 0
  · rw [decide_eq_false (by simp [h0])]
    go_enter Tryd.func42, Tryd.ntmps42
    go_wp2
    go_ret
    exact ⟨rfl, rfl⟩
  · obtain ⟨m, hm⟩ : ∃ m, T.size = m + 1 := ⟨T.size - 1, by omega⟩
    have hD : decide (¬ (T.size = 0 ∨ bt T (T.size - 1) ≠ 128)) = decide (bt T m = 128) := by
      apply decide_eq_decide.2
      rw [hm, show m + 1 - 1 = m by omega]
      simp
    rw [hD]
    have hl := last_one T m hm
    obtain ⟨D, hDD⟩ : ∃ D, decide (bt T m = 128) = D := ⟨_, rfl⟩
    rw [hDD] at hl ⊢
    obtain ⟨X, hX⟩ : ∃ X, T.extract m (m + 1) = X := ⟨_, rfl⟩
    rw [hX] at hl
    have g1 : decide ((1 : Int) ≤ (m : Int) + 1) = true := by simp; omega
    have g2 : (m : Int) + 1 - 1 = (m : Int) := by omega
    have g3 : (m : Int) ≤ (m : Int) + 1 := by omega
    have g4 : IntKind.i64.wrap (m : Int) = (m : Int) := by rw [IntKind.wrap_i64]; omega
    have hl2 : (X.toList == [128]) = D := by have h3 := hl; rw [toList_data, toList_data] at h3; rw [toList_data]; exact h3
    clear hD hDD h0
    go_enter Tryd.func42, Tryd.ntmps42
    go_wp2
    go_ret
    exact ⟨rfl, rfl⟩

set_option maxRecDepth 100000 in
set_option maxHeartbeats 2000000 in
theorem trimSuf_any (T : ByteArray) (w : World) (hs : T.size ≤ 9223372036854775807) : Calls Tryd.prog 22 #[.string T, .string ⟨#[128]⟩] w fun e w' => e = .returned (.string (sufP T)) ∧ w' = w := by
  have C : Hid (∀ W, Calls Tryd.prog 32 #[.string T, .string ⟨#[128]⟩] W fun e w' => e = .returned (.string (sufP T)) ∧ w' = W) := by
    show ∀ W, _
    intro W
    have K := hasSuf_any T W hs
    by_cases hc : T.size = 0 ∨ bt T (T.size - 1) ≠ 128
    · rw [show sufP T = T from if_pos hc]
      rw [decide_eq_false (fun h => h hc)] at K
      go_enter Tryd.func32, Tryd.ntmps32
      go_wp2_with fail
      refine K.mono ?_
      rintro e w1 ⟨rfl, rfl⟩
      go_wp2
      go_ret
      exact ⟨rfl, rfl⟩
    · rw [decide_eq_true hc] at K
      obtain ⟨m, hm⟩ : ∃ m, T.size = m + 1 := ⟨T.size - 1, by omega⟩
      obtain ⟨X, hX⟩ : ∃ X, T.extract 0 m = X := ⟨_, rfl⟩
      rw [show sufP T = X by unfold sufP; rw [if_neg hc, hm]; exact hX]
      have HX : Hid (T.extract 0 m = X) := hX
      have w1 : IntKind.i64.wrap ((T.size : Int) - 1) = (m : Int) := by rw [IntKind.wrap_i64]; omega
      have b1 : (0 : Int) ≤ (m : Int) := by omega
      have i1 : (m : Int) ≤ (T.size : Int) := by omega
      clear hc hm
      go_enter Tryd.func32, Tryd.ntmps32
      go_wp2_with fail
      refine K.mono ?_
      rintro e w3 ⟨rfl, rfl⟩
      go_wp2
      go_ret
      exact ⟨rfl, rfl⟩
  obtain ⟨X, hX⟩ : ∃ X, sufP T = X := ⟨_, rfl⟩
  rw [hX] at C ⊢
  go_enter Tryd.func22, Tryd.ntmps22
  go_wp2_with fail
  refine (C.out _).mono ?_
  rintro e w1 ⟨rfl, rfl⟩
  go_wp2_with fail
  go_ret
  exact ⟨rfl, rfl⟩

theorem noughts_any (c : Nat) (w : World) (hc : c ≤ 16384) :
    Calls Tryd.prog 21 #[.string ⟨#[0]⟩, .int .i64 c] w fun e w' => e = .returned (.string (zeroB c)) ∧ Below w.heap.size w w' := by
  refine (Tryd.strings_Repeat ⟨#[0]⟩ c w (by omega) (by show 1 * c ≤ _; omega)).mono ?_
  rintro e w' ⟨rfl, hb⟩
  refine ⟨?_, hb⟩
  have := Lib.repeatL_replicate 0 1 c
  simp at this
  show Ending.returned (.string ⟨(Lib.repeatL [0] c).toArray⟩) = _
  rw [this]
  rfl

set_option maxRecDepth 100000 in
set_option maxHeartbeats 2000000 in
theorem pad_any (s : ByteArray) (w : World) (hs : s.size ≤ 9223372036854775807) : Calls Tryd.prog 15 #[.string s] w fun e w' => e = .returned (.tuple #[.string (padP s).1, .int .i64 (padP s).2]) ∧ Below w.heap.size w w' := by
  have C' : ∀ W, _ := fun W => size_any (s.size : Int) W
  by_cases h : s.size < 16384
  · rw [sizeE_of s.size h] at C'
    have C : Hid (∀ W, _) := C'
    obtain ⟨h1, h2, _, _⟩ := sizeN_is s.size h
    rw [(unpad_pad s h).1]
    obtain ⟨Z, hZ⟩ : ∃ Z, sizeN s.size = Z := ⟨_, rfl⟩
    rw [hZ] at C h1 h2 ⊢
    obtain ⟨m, hm⟩ : ∃ m, Z - 1 - s.size = m := ⟨_, rfl⟩
    have w1 : IntKind.i64.wrap ((Z : Int) - (s.size : Int)) = (Z : Int) - (s.size : Int) := by rw [IntKind.wrap_i64]; omega
    have w2 : IntKind.i64.wrap ((Z : Int) - (s.size : Int) - 1) = (m : Int) := by rw [IntKind.wrap_i64]; omega
    have hm3 : m ≤ 16384 := by omega
    have D : Hid (∀ W, _) := fun W => noughts_any m W (by omega)
    obtain ⟨A, hA⟩ : ∃ A, s ++ (⟨#[128]⟩ : ByteArray) = A := ⟨_, rfl⟩
    have hAs : A.size = s.size + 1 := by rw [← hA, ByteArray.size_append]; rfl
    obtain ⟨B, hB⟩ : ∃ B, zeroB m = B := ⟨_, rfl⟩
    have hBs : B.size = m := by rw [← hB, zeroB_size]
    rw [hB] at D
    rw [hm, hA, hB]
    clear C' hZ hm hB
    go_enter Tryd.func15, Tryd.ntmps15
    go_wp2_with fail
    refine (C.out _).mono ?_
    rintro e w3 ⟨rfl, b3⟩
    clear C
    go_wp2_with fail
    refine (D.out _).mono ?_
    rintro e w4 ⟨rfl, b4⟩
    clear D
    have b5 : Below w.heap.size w w4 := b3.trans (b4.mono b3.size)
    go_wp2_with fail
    go_ret2
    exact ⟨rfl, b5⟩
  · have hz : sizeE (s.size : Int) = (0, 2) := by unfold sizeE; rw [if_neg (by omega)]
    rw [hz] at C'
    have C : Hid (∀ W, _) := C'
    rw [pad_full s h]
    clear C' hz
    go_enter Tryd.func15, Tryd.ntmps15
    go_wp2_with fail
    refine (C.out _).mono ?_
    rintro e w3 ⟨rfl, b3⟩
    clear C
    go_wp2
    go_ret2
    exact ⟨rfl, b3⟩

/-- The code's test is the document's. -/
theorem unpad_code (s : ByteArray) : unpadP s = if (padP (sufP (s.extract 0 (lastF s s.size)))).2 ≠ 0 ∨ (padP (sufP (s.extract 0 (lastF s s.size)))).1 ≠ s then (⟨#[]⟩, 140) else (sufP (s.extract 0 (lastF s s.size)), 0) := by
  obtain ⟨X, hX⟩ : ∃ X, sufP (s.extract 0 (lastF s s.size)) = X := ⟨_, rfl⟩
  rw [hX]
  by_cases hc : (padP X).2 ≠ 0 ∨ (padP X).1 ≠ s
  · rw [if_pos hc]
    obtain ⟨L, hL⟩ : ∃ L, lastF s s.size = L := ⟨_, rfl⟩
    have hle := lastF_le s s.size
    have hu : ∀ Y, unpadP s = (Y, 0) → padP Y = (s, 0) := fun Y h => (pad_unpad s Y h).1
    unfold unpadP at hu ⊢
    rw [hL] at hu hle hX ⊢
    by_cases h1 : L = 0 ∨ bt s (L - 1) ≠ 128
    · rw [if_pos h1]
    · rw [if_neg h1] at hu ⊢
      by_cases h2 : (sizeE ((L - 1 : Nat) : Int)).2 ≠ 0 ∨ (sizeE ((L - 1 : Nat) : Int)).1 ≠ (s.size : Int)
      · rw [if_pos h2]
      · exfalso
        rw [if_neg h2] at hu
        have hp := hu _ rfl
        have h0 : L ≠ 0 := fun e => h1 (.inl e)
        have h8 : bt s (L - 1) = 128 := Classical.byContradiction fun e => h1 (.inr e)
        have hz := ex_size s L hle
        have hXe : X = s.extract 0 (L - 1) := by
          rw [← hX]
          unfold sufP
          rw [hz, if_neg (by rw [ex_bt s L (L - 1) hle (by omega), h8]; simp; exact h0), ex_ex s L (L - 1) hle (by omega)]
        rw [← hXe] at hp
        rw [hp] at hc
        simp at hc
  · rw [if_neg hc]
    have he : (padP X).2 = 0 := Classical.byContradiction fun e => hc (.inl e)
    have ha : (padP X).1 = s := Classical.byContradiction fun e => hc (.inr e)
    have hlt : X.size < 16384 := Classical.byContradiction fun e => by rw [pad_full X e] at he; cases he
    have := (unpad_pad X hlt).2
    rw [ha] at this
    exact this

theorem sufP_size (T : ByteArray) : (sufP T).size ≤ T.size := by
  unfold sufP
  split
  · exact Nat.le_refl _
  · rw [ByteArray.size_extract]; omega

set_option maxRecDepth 100000 in
set_option maxHeartbeats 2000000 in
theorem unpad_any (s : ByteArray) (w : World) (hs : s.size ≤ 9223372036854775807) : Calls Tryd.prog 17 #[.string s] w fun e w' => e = .returned (.tuple #[.string (unpadP s).1, .int .i64 (unpadP s).2]) ∧ Below w.heap.size w w' := by
  have hu := unpad_code s
  have C1' : ∀ W, _ := fun W => trimRight_any s W hs
  obtain ⟨T, hT⟩ : ∃ T, s.extract 0 (lastF s s.size) = T := ⟨_, rfl⟩
  have hTs : T.size ≤ s.size := by rw [← hT, ByteArray.size_extract]; omega
  have C2' : ∀ W, _ := fun W => trimSuf_any T W (by omega)
  obtain ⟨X, hX⟩ : ∃ X, sufP T = X := ⟨_, rfl⟩
  have hXs : X.size ≤ T.size := by rw [← hX]; exact sufP_size T
  have C3' : ∀ W, _ := fun W => pad_any X W (by omega)
  obtain ⟨⟨P, q⟩, hP⟩ : ∃ R, padP X = R := ⟨_, rfl⟩
  rw [hT] at hu C1'
  rw [hX] at hu C2'
  rw [hP] at hu C3'
  simp only at hu C3'
  obtain ⟨R, hR⟩ : ∃ R, unpadP s = R := ⟨_, rfl⟩
  rw [hR] at hu ⊢
  have C1 : Hid (∀ W, _) := C1'
  have C2 : Hid (∀ W, _) := C2'
  have C3 : Hid (∀ W, _) := C3'
  have hbq := beq_bytes P s
  clear C1' C2' C3' hT hX hP hR hTs hXs
  by_cases hq : q = 0
  · subst hq
    by_cases hPs : P = s
    · subst hPs
      obtain rfl : (X, (0 : Int)) = R := by rw [hu, if_neg (by simp)]
      clear hu hbq
      go_enter Tryd.func17, Tryd.ntmps17
      go_wp2_with fail
      refine (C1.out _).mono ?_
      rintro e w1 ⟨rfl, rfl⟩
      clear C1
      go_wp2_with fail
      refine (C2.out _).mono ?_
      rintro e w2 ⟨rfl, rfl⟩
      clear C2
      go_wp2_with fail
      refine (C3.out _).mono ?_
      rintro e w3 ⟨rfl, b3⟩
      clear C3
      go_wp2_with fail
      go_ret2
      exact ⟨rfl, b3⟩
    · obtain rfl : ((⟨#[]⟩ : ByteArray), (140 : Int)) = R := by rw [hu, if_pos (.inr hPs)]
      rw [decide_eq_false hPs] at hbq
      clear hu
      go_enter Tryd.func17, Tryd.ntmps17
      go_wp2_with fail
      refine (C1.out _).mono ?_
      rintro e w1 ⟨rfl, rfl⟩
      clear C1
      go_wp2_with fail
      refine (C2.out _).mono ?_
      rintro e w2 ⟨rfl, rfl⟩
      clear C2
      go_wp2_with fail
      refine (C3.out _).mono ?_
      rintro e w3 ⟨rfl, b3⟩
      clear C3
      go_wp2_with fail
      go_ret2
      exact ⟨rfl, b3⟩
  · obtain rfl : ((⟨#[]⟩ : ByteArray), (140 : Int)) = R := by rw [hu, if_pos (.inl hq)]
    have hq' : (q == 0) = false := by rw [beq_eq_false_iff_ne]; exact hq
    clear hu
    go_enter Tryd.func17, Tryd.ntmps17
    go_wp2_with fail
    refine (C1.out _).mono ?_
    rintro e w1 ⟨rfl, rfl⟩
    clear C1
    go_wp2_with fail
    refine (C2.out _).mono ?_
    rintro e w2 ⟨rfl, rfl⟩
    clear C2
    go_wp2_with fail
    refine (C3.out _).mono ?_
    rintro e w3 ⟨rfl, b3⟩
    clear C3
    go_wp2_with fail
    go_ret2
    exact ⟨rfl, b3⟩

/-- A padded text's size; it is unpadded as it was. -/
theorem pad_first (s : ByteArray) (h : s.size < 16384) : (padP s).1.size = sizeN s.size ∧ (padP s).2 = 0 ∧ unpadP (padP s).1 = (s, 0) := by
  have hp := unpad_pad s h
  refine ⟨?_, ?_, hp.2⟩
  · rw [hp.1]; exact pad_size s h
  · rw [hp.1]

theorem ab_small : (⟨#[97, 98]⟩ : ByteArray).size = 2 := rfl

set_option maxRecDepth 100000 in
set_option maxHeartbeats 2000000 in
theorem awake14 (w : World) : Calls Tryd.prog 14 #[] w fun e w' => e = .returned (.bool true) ∧ Below w.heap.size w w' := by
  have C1' : ∀ W, _ := fun W => pad_any (⟨#[97, 98]⟩ : ByteArray) W (by rw [ab_small]; omega)
  have hp := unpad_pad (⟨#[97, 98]⟩ : ByteArray) (by rw [ab_small]; omega)
  have hz := pad_size (⟨#[97, 98]⟩ : ByteArray) (by rw [ab_small]; omega)
  rw [hp.1] at C1' hp
  simp only at C1' hp
  obtain ⟨A, hA⟩ : ∃ A, ((⟨#[97, 98]⟩ : ByteArray) ++ ⟨#[128]⟩) ++ zeroB (sizeN (⟨#[97, 98]⟩ : ByteArray).size - 1 - (⟨#[97, 98]⟩ : ByteArray).size) = A := ⟨_, rfl⟩
  rw [hA] at C1' hp hz
  have hz' : A.size = 64 := by rw [hz]; rfl
  have hz2 : (A.size : Int) = 64 := by omega
  have C2' : ∀ W, _ := fun W => unpad_any A W (by omega)
  rw [hp.2] at C2'
  have C1 : Hid (∀ W, _) := C1'
  have C2 : Hid (∀ W, _) := C2'
  clear C1' C2' hp hz hA hz'
  go_enter Tryd.func14, Tryd.ntmps14
  go_wp2_with fail
  refine (C1.out _).mono ?_
  rintro e w1 ⟨rfl, b1⟩
  clear C1
  go_wp2_with fail
  refine (C2.out _).mono ?_
  rintro e w2 ⟨rfl, b2⟩
  clear C2
  go_wp2_with fail
  refine (sizes_any _).mono ?_
  rintro e w3 ⟨v, rfl, o3, b3⟩
  have b4 : Below w.heap.size w w3 := (b1.trans (b2.mono b1.size)).trans (b3.mono (Nat.le_trans b1.size b2.size))
  obtain ⟨a, c, rfl, _⟩ := o3.ints
  go_wp2_with fail
  go_ret
  exact ⟨rfl, b4⟩
end Go.Proofs.YtjijkhahmgikoaaDoor
