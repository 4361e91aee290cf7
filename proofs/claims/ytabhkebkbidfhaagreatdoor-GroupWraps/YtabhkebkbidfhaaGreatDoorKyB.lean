import Derived.Test.YtabhkebkbidfhaaGreatDoorKyA
/- Layer 15: nonces; the code's Nonce. -/
namespace Go.Proofs.YtabhkebkbidfhaaGreatDoor
open Go.RowKit
set_option maxRecDepth 100000
set_option linter.unusedSimpArgs false

def nought5 : ByteArray := ⟨#[0, 0, 0, 0, 0]⟩
/-- The nonce of a sender's number, on plain bytes; what Nonce answers. -/
def nonceB (who count : Int) : ByteArray := bigB who 1 ++ nought5 ++ bigB count 6
theorem nonceB_size (who count : Int) : (nonceB who count).size = 12 := by
  unfold nonceB; rw [ByteArray.size_append, ByteArray.size_append, bigB_size, bigB_size]; rfl
set_option maxHeartbeats 2000000 in
set_option maxRecDepth 100000 in
theorem knonce_yes (who count : Int) (w : World) (h : 0 ≤ who ∧ who ≤ 6 ∧ 0 ≤ count) (hc : count ≤ 1099511627775) :
    Calls Tryz.prog 51 #[.int .i64 who, .int .i64 count] w fun e w' => e = .returned (.tuple #[.string (nonceB who count), .int .i64 0]) ∧ Below w.heap.size w w' := by
  obtain ⟨A, hA⟩ : ∃ A, A = bigB who 1 := ⟨_, rfl⟩
  obtain ⟨B, hB⟩ : ∃ B, B = bigB count 6 := ⟨_, rfl⟩
  obtain ⟨N, hN⟩ : ∃ N, N = nonceB who count := ⟨_, rfl⟩
  have CO' := fun w => koneByte_any who w h.1 (by omega)
  have CN' := fun w => knumber_any count w h.2.2 hc
  have CT' := fun w => tog3 A ⟨#[0, 0, 0, 0, 0]⟩ B w (by rw [hA, bigB_size]; decide) (by decide) (by rw [hB, bigB_size]; decide)
  have eN : A ++ ⟨#[0, 0, 0, 0, 0]⟩ ++ B = N := by rw [hN, hA, hB]; rfl
  rw [eN] at CT'
  rw [← hA] at CO'
  rw [← hB] at CN'
  rw [← hN]
  have CO : Hid (∀ w, _) := CO'
  have CN : Hid (∀ w, _) := CN'
  have CT : Hid (∀ w, _) := CT'
  have g1 : decide (count < 0) = false := by simp; omega
  have g2 : decide (1099511627775 < count) = false := by simp; omega
  by_cases h0 : who = 0
  · subst h0
    clear CO' CN' CT' eN hN hA hB h hc
    go_enter Tryz.func51, Tryz.ntmps51
    go_wp2_with fail
    refine (CO.out w).mono ?_
    rintro e w1 ⟨rfl, hb1⟩
    go_wp2_with fail
    refine (CN.out w1).mono ?_
    rintro e w2 ⟨rfl, hb2⟩
    have HB2 : Hid (Below w.heap.size w w2) := below_step hb1 (Nat.le_refl _) hb2
    clear hb1 hb2
    go_wp2_with fail
    refine (CT.out w2).mono ?_
    rintro e w3 ⟨rfl, hb3⟩
    have HB3 : Hid (Below w.heap.size w w3) := below_step HB2.out (Nat.le_refl _) hb3
    clear hb3
    go_wp2_with fail
    go_ret2
    exact ⟨rfl, HB3.out⟩
  · have C1 : Hid (∀ w, _) := fun w => isMember_any who w true (by rw [decide_eq_true (show 1 ≤ who ∧ who ≤ 6 by omega)])
    clear CO' CN' CT' eN hN hA hB h hc
    go_enter Tryz.func51, Tryz.ntmps51
    go_wp2_with fail
    refine (C1.out w).mono ?_
    rintro e w0 ⟨rfl, hw0⟩
    rw [hw0]
    clear hw0 w0
    go_wp2_with fail
    refine (CO.out w).mono ?_
    rintro e w1 ⟨rfl, hb1⟩
    go_wp2_with fail
    refine (CN.out w1).mono ?_
    rintro e w2 ⟨rfl, hb2⟩
    have HB2 : Hid (Below w.heap.size w w2) := below_step hb1 (Nat.le_refl _) hb2
    clear hb1 hb2
    go_wp2_with fail
    refine (CT.out w2).mono ?_
    rintro e w3 ⟨rfl, hb3⟩
    have HB3 : Hid (Below w.heap.size w w3) := below_step HB2.out (Nat.le_refl _) hb3
    clear hb3
    go_wp2_with fail
    go_ret2
    exact ⟨rfl, HB3.out⟩

end Go.Proofs.YtabhkebkbidfhaaGreatDoor
