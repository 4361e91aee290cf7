/- The document's layer 14: Unpad. -/
import Derived.Test.YtjijkhahmgikoaaDoorRPdB
namespace Go.Proofs.YtjijkhahmgikoaaDoor
open Go.RowKit
set_option linter.unusedSimpArgs false

/-- How many bytes there are up to the last one that is no nought. -/
def lastF (s : ByteArray) : Nat → Nat
  | 0 => 0
  | k + 1 => if bt s k = 0 then lastF s k else k + 1

/-- A text, unpadded. -/
def unpadP (s : ByteArray) : ByteArray × Int :=
  if lastF s s.size = 0 ∨ bt s (lastF s s.size - 1) ≠ 128 then (⟨#[]⟩, 140)
  else if (sizeE ((lastF s s.size - 1 : Nat) : Int)).2 ≠ 0 ∨ (sizeE ((lastF s s.size - 1 : Nat) : Int)).1 ≠ (s.size : Int) then (⟨#[]⟩, 140)
  else (s.extract 0 (lastF s s.size - 1), 0)

set_option maxRecDepth 100000 in
set_option maxHeartbeats 4000000 in
theorem runpad_any (s : ByteArray) (w : World) (hs : s.size ≤ 9223372036854775807) : Calls Tryd.prog 18 #[.string s] w fun e w' => e = .returned (.tuple #[.string (unpadP s).1, .int .i64 (unpadP s).2]) ∧ w' = w := by
  obtain ⟨R, hR⟩ : ∃ R, unpadP s = R := ⟨_, rfl⟩
  have HR : Hid (unpadP s = R) := hR
  rw [hR]
  have w0 : IntKind.i64.wrap ((s.size : Int) - 1) = (s.size : Int) - 1 := by rw [IntKind.wrap_i64]; omega
  clear hR
  go_enter Tryd.func18, Tryd.ntmps18
  go_wp2_with fail
  go_loopw [4] (fun v wr => ∃ k : Nat, k ≤ s.size ∧ v = .int .i64 ((k : Int) - 1) ∧ Hid (lastF s s.size = lastF s k) ∧ wr = w) (fun v _ => (intOf v + 1).toNat)
  case atStart => exact ⟨s.size, Nat.le_refl _, rfl, rfl, rfl⟩
  case round =>
    obtain ⟨k, hk, rfl, HL, rfl⟩ := hrel
    cases k with
    | zero =>
      obtain rfl : ((⟨#[]⟩ : ByteArray), (140 : Int)) = R := by
        have h := HR.out
        unfold unpadP at h
        rwa [if_pos (.inl (by rw [HL.out]; rfl))] at h
      go_wp2_with fail
      go_ret2
      exact ⟨rfl, rfl⟩
    | succ j =>
      have hin : j < s.size := by omega
      have bk := bt_get s j hin
      have lb := bt_lt s j
      rw [show ((j + 1 : Nat) : Int) - 1 = (j : Int) by omega]
      have b0 : (0 : Int) ≤ (j : Int) := by omega
      have i0 : (j : Int) < (s.size : Int) := by omega
      have i1 : (j : Int) ≤ (s.size : Int) := by omega
      by_cases hy : bt s j = 0
      · have HL' : Hid (lastF s s.size = lastF s j) := by show _ = _; rw [HL.out]; show (if bt s j = 0 then lastF s j else j + 1) = _; rw [if_pos hy]
        rw [hy] at bk
        have w1 : IntKind.i64.wrap ((j : Int) - 1) = (j : Int) - 1 := by rw [IntKind.wrap_i64]; omega
        clear HL hy lb
        go_wp2_with fail
        refine ⟨?_, ?_⟩
        · refine ⟨j, by omega, ?_, HL', ?_⟩
          · first | rfl | trivial
          · first | rfl | trivial
        · simp [intOf] <;> omega
      · have hl : lastF s s.size = j + 1 := by rw [HL.out]; show (if bt s j = 0 then lastF s j else j + 1) = _; rw [if_neg hy]
        have hu := HR.out
        unfold unpadP at hu
        rw [hl, show j + 1 - 1 = j by omega] at hu
        have C' : ∀ W, _ := fun W => rsize_any (j : Int) W
        obtain ⟨⟨a, e⟩, hz⟩ : ∃ p, sizeE (j : Int) = p := ⟨_, rfl⟩
        rw [hz] at hu
        simp only [hz] at C'
        have C : Hid (∀ W, _) := C'
        have n0 : ((bt s j : Int) == 0) = false := by rw [beq_eq_false_iff_ne]; omega
        obtain ⟨y, hyy⟩ : ∃ y, bt s j = y := ⟨_, rfl⟩
        rw [hyy] at hu bk lb hy n0
        clear HL HR C' hz hl hyy
        by_cases h8 : y = 128
        · subst h8
          by_cases he : e = 0
          · subst he
            by_cases ha : a = (s.size : Int)
            · subst ha
              obtain rfl : (s.extract 0 j, (0 : Int)) = R := by rwa [if_neg (by simp), if_neg (by simp)] at hu
              go_wp2_with fail
              refine (C.out _).mono ?_
              rintro e w3 ⟨rfl, rfl⟩
              clear C
              go_wp2_with fail
              go_ret2
              exact ⟨rfl, rfl⟩
            · obtain rfl : ((⟨#[]⟩ : ByteArray), (140 : Int)) = R := by rwa [if_neg (by simp), if_pos (.inr ha)] at hu
              have ha' : (a == (s.size : Int)) = false := by rw [beq_eq_false_iff_ne]; exact ha
              go_wp2_with fail
              refine (C.out _).mono ?_
              rintro e w3 ⟨rfl, rfl⟩
              clear C
              go_wp2_with fail
              go_ret2
              exact ⟨rfl, rfl⟩
          · obtain rfl : ((⟨#[]⟩ : ByteArray), (140 : Int)) = R := by rwa [if_neg (by simp), if_pos (.inl he)] at hu
            have he' : (e == 0) = false := by rw [beq_eq_false_iff_ne]; exact he
            go_wp2_with fail
            refine (C.out _).mono ?_
            rintro e w3 ⟨rfl, rfl⟩
            clear C
            go_wp2_with fail
            go_ret2
            exact ⟨rfl, rfl⟩
        · obtain rfl : ((⟨#[]⟩ : ByteArray), (140 : Int)) = R := by rwa [if_pos (.inr h8)] at hu
          have n8 : ((y : Int) == 128) = false := by rw [beq_eq_false_iff_ne]; omega
          have n9 : ¬ ((y : Int) = 128) := by omega
          have n7 : ¬ ((j : Int) < 0) := by omega
          clear C
          go_wp2_with fail
          go_ret2
          exact ⟨rfl, rfl⟩
end Go.Proofs.YtjijkhahmgikoaaDoor
