/- The code's layer 14: TrimRight, TrimSuffix. -/
import Derived.Test.YtjijkhahmgikoaaDoorPdC
namespace Go.Proofs.YtjijkhahmgikoaaDoor
open Go.RowKit
set_option linter.unusedSimpArgs false

theorem ex_size (s : ByteArray) (k : Nat) (h : k ≤ s.size) : (s.extract 0 k).size = k := by rw [ByteArray.size_extract]; omega
theorem ex_bt (s : ByteArray) (k j : Nat) (h : k ≤ s.size) (hj : j < k) : bt (s.extract 0 k) j = bt s j := by rw [bt_extract s 0 k j (by omega) (by omega), Nat.zero_add]
theorem ex_ex (s : ByteArray) (k j : Nat) (h : k ≤ s.size) (hj : j ≤ k) : (s.extract 0 k).extract 0 j = s.extract 0 j := by
  have h1 := ex_size s k h
  have h2 := ex_size s j (by omega)
  have h3 := ex_size (s.extract 0 k) j (by omega)
  refine bt_ext _ _ (by rw [h3, h2]) (fun i hi => ?_)
  rw [ex_bt _ j i (by omega) (by omega), ex_bt s k i h (by omega), ex_bt s j i (by omega) (by omega)]
theorem ex_all (s : ByteArray) : s.extract 0 s.size = s := by
  refine bt_ext _ _ (ex_size s _ (Nat.le_refl _)) (fun i hi => ?_)
  rw [ex_size s _ (Nat.le_refl _)] at hi
  exact ex_bt s _ i (Nat.le_refl _) hi

theorem beq_bytes (a b : ByteArray) : (a.toList == b.toList) = decide (a = b) := by
  by_cases h : a = b
  · rw [h]; simp
  · rw [decide_eq_false h, beq_eq_false_iff_ne]
    exact fun e => h (bytes_ext (by rw [toList_data, toList_data] at e; exact e))

/-- How long a text is. -/
def lenS : Value → Nat
  | .string b => b.size
  | _ => 0

set_option maxRecDepth 100000 in
set_option maxHeartbeats 2000000 in
theorem trimByte_any (s : ByteArray) (w : World) (hs : s.size ≤ 9223372036854775807) : Calls Tryd.prog 33 #[.string s, .int .u8 0] w fun e w' => e = .returned (.string (s.extract 0 (lastF s s.size))) ∧ w' = w := by
  obtain ⟨R, hR⟩ : ∃ R, s.extract 0 (lastF s s.size) = R := ⟨_, rfl⟩
  have HR : Hid (s.extract 0 (lastF s s.size) = R) := hR
  rw [hR]
  clear hR
  go_enter Tryd.func33, Tryd.ntmps33
  go_wp2_with fail
  go_loopw [0] (fun v wr => ∃ (k : Nat) (T : ByteArray), k ≤ s.size ∧ v = .string T ∧ Hid (T = s.extract 0 k) ∧ Hid (T.size = k) ∧ Hid (lastF s s.size = lastF s k) ∧ wr = w) (fun v _ => lenS v)
  case atStart => exact ⟨s.size, s, Nat.le_refl _, rfl, (ex_all s).symm, rfl, rfl, rfl⟩
  case round =>
    obtain ⟨k, T, hk, rfl, HT, HZ, HL, rfl⟩ := hrel
    cases k with
    | zero =>
      have b0 : ¬ ((0 : Int) < (T.size : Int)) := by have := HZ.out; omega
      obtain rfl : T = R := by
        have h := HR.out
        rw [HL.out] at h
        exact HT.out.trans h
      go_wp2_with fail
      go_ret
      exact ⟨rfl, rfl⟩
    | succ j =>
      have hin : j < T.size := by have := HZ.out; omega
      have bk := bt_get T j hin
      have hbt : bt T j = bt s j := by have h := HT.out; rw [h]; exact ex_bt s (j + 1) j hk (by omega)
      have lb := bt_lt T j
      have b0 : (0 : Int) < (T.size : Int) := by omega
      have w1 : IntKind.i64.wrap ((T.size : Int) - 1) = (j : Int) := by have := HZ.out; rw [IntKind.wrap_i64]; omega
      have b1 : (0 : Int) ≤ (j : Int) := by omega
      have i0 : (j : Int) < (T.size : Int) := by omega
      have i1 : (j : Int) ≤ (T.size : Int) := by omega
      by_cases hy : bt T j = 0
      · have HL' : Hid (lastF s s.size = lastF s j) := by show _ = _; rw [HL.out]; show (if bt s j = 0 then lastF s j else j + 1) = _; rw [if_pos (by omega)]
        have HE : Hid (T.extract 0 j = s.extract 0 j) := by show _ = _; rw [HT.out]; exact ex_ex s (j + 1) j hk (by omega)
        have HE2 : Hid ((T.extract 0 j).size = j) := ex_size T j (by omega)
        rw [hy] at bk
        clear HL hy lb hbt HT
        go_wp2_with fail
        refine ⟨?_, ?_⟩
        · exact ⟨j, _, by omega, rfl, HE.out, HE2.out, HL', (by first | rfl | trivial)⟩
        · show (T.extract 0 j).size < T.size
          rw [HE2.out]; exact hin
      · have n0 : ((bt T j : Int) == 0) = false := by rw [beq_eq_false_iff_ne]; omega
        have n1 : ¬ ((bt T j : Int) = 0) := by omega
        obtain rfl : T = R := by
          have h := HR.out
          rw [HL.out, show lastF s (j + 1) = j + 1 from (if_neg (by omega) : (if bt s j = 0 then lastF s j else j + 1) = j + 1)] at h
          exact HT.out.trans h
        clear HL hbt HT HR
        go_wp2_with fail
        go_ret
        exact ⟨rfl, rfl⟩

set_option maxRecDepth 100000 in
set_option maxHeartbeats 2000000 in
theorem trimRight_any (s : ByteArray) (w : World) (hs : s.size ≤ 9223372036854775807) : Calls Tryd.prog 23 #[.string s, .string ⟨#[0]⟩] w fun e w' => e = .returned (.string (s.extract 0 (lastF s s.size))) ∧ w' = w := by
  have C : Hid (∀ W, _) := fun W => trimByte_any s W hs
  have e0 : s.size = 0 → s.extract 0 (lastF s s.size) = s := fun h => by
    have h2 : lastF s s.size = s.size := by rw [h]; rfl
    rw [h2]; exact ex_all s
  obtain ⟨R, hR⟩ : ∃ R, s.extract 0 (lastF s s.size) = R := ⟨_, rfl⟩
  have HR : Hid (∀ W, Calls Tryd.prog 33 #[.string s, .int .u8 0] W fun e w' => e = .returned (.string R) ∧ w' = W) := by
    have h := C.out
    rw [hR] at h
    exact h
  rw [hR] at e0 ⊢
  clear hR C
  by_cases h0 : s.size = 0
  · obtain rfl : s = R := (e0 h0).symm
    obtain rfl : s = ⟨#[]⟩ := bt_ext _ _ h0 (fun i hi => by omega)
    clear e0 h0 HR
    go_enter Tryd.func23, Tryd.ntmps23
    go_wp2
    go_ret
    exact ⟨rfl, rfl⟩
  · have h1 : ¬ s = ⟨#[]⟩ := fun e => h0 (by rw [e]; rfl)
    have h2 : (s.toList == (⟨#[]⟩ : ByteArray).toList) = false := by rw [beq_bytes]; exact decide_eq_false h1
    have h3 : (s.toList == []) = false := by rw [toList_data, toList_data] at h2; rw [toList_data]; exact h2
    have h4 : ¬ s.toList = [] := by rw [beq_eq_false_iff_ne] at h3; exact h3
    have h5 : s.toList.isEmpty = false := by cases hh : s.toList with | nil => exact absurd hh h4 | cons => rfl
    clear e0
    go_enter Tryd.func23, Tryd.ntmps23
    go_wp2_with fail
    refine (HR.out _).mono ?_
    rintro e w3 ⟨rfl, rfl⟩
    go_wp2_with fail
    go_ret
    exact ⟨rfl, rfl⟩
end Go.Proofs.YtjijkhahmgikoaaDoor
