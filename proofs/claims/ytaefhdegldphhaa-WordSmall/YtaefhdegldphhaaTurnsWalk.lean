import Derived.Test.YtaefhdegldphhaaWords
namespace Go.Proofs.Ytaefhdegldphhaa
open Go.RowKit

theorem nat_mod (x : Int) (m : Nat) (hm : 0 < m) : ∃ X : Nat, X < m ∧ x % (m : Int) = (X : Int) := by
  have h1 := Int.emod_nonneg x (show (m : Int) ≠ 0 by omega)
  have h2 := Int.emod_lt_of_pos x (show (0 : Int) < (m : Int) by omega)
  exact ⟨(x % (m : Int)).toNat, by omega, by omega⟩

set_option maxHeartbeats 400000 in
theorem wordTurns_nat (x a b : Int) (X A B : Nat) (hX : X < 4294967296) (hA : A < 32) (hB : B < 32) (ex : x % 4294967296 = (X : Int)) (ea : a % 32 = (A : Int)) (eb : b % 32 = (B : Int)) (w : World) :
    Calls Try.prog 3 #[.int .i64 x, .int .i64 a, .int .i64 b] w fun e w' => e = .returned (.bool true) ∧ Below w.heap.size w w' := by
  have hr := rotN_lt X A hX
  have c1 := fun w => rot_nat x a X A hX hA w ex ea
  have c2 := fun w => rrot_nat x a X A hX hA w ex ea
  have c3 := fun w => rot_nat (rotN X A : Int) (32 - (A : Int)) (rotN X A) ((32 - A) % 32) hr (Nat.mod_lt _ (by decide)) w (by omega) (by omega)
  have c4 := fun w => word_any x w
  have c5 := fun w => rot_nat (rotN X A : Int) b (rotN X A) B hr hB w (by omega) eb
  have c6 := fun w => rot_nat x ((A : Int) + (B : Int)) X ((A + B) % 32) hX (Nat.mod_lt _ (by decide)) w ex (by omega)
  rw [rotN_rotN X A _ hX hA (Nat.mod_lt _ (by decide)), show (A + (32 - A) % 32) % 32 = 0 by omega, rotN_zero X hX] at c3
  rw [rotN_rotN X A B hX hA hB] at c5
  rw [ex] at c4
  have m1 := i64_and31 a
  rw [ea] at m1
  have m2 := i64_and31 b
  rw [eb] at m2
  have C1 : Hid (∀ w, _) := c1
  have C2 : Hid (∀ w, _) := c2
  have C3 : Hid (∀ w, _) := c3
  have C4 : Hid (∀ w, _) := c4
  have C5 : Hid (∀ w, _) := c5
  have C6 : Hid (∀ w, _) := c6
  clear c1 c2 c3 c4 c5 c6 ex ea eb hr
  go_enter Try.func3, Try.ntmps3
  go_wp2_with fail
  refine (C1.out _).mono ?_
  rintro e w1 ⟨rfl, rfl⟩
  go_wp2_with fail
  refine (C2.out _).mono ?_
  rintro e w2 ⟨rfl, hb2⟩
  go_wp2_with fail
  refine (C3.out _).mono ?_
  rintro e w3 ⟨rfl, rfl⟩
  go_wp2_with fail
  refine (C4.out _).mono ?_
  rintro e w4 ⟨rfl, rfl⟩
  go_wp2_with fail
  refine (C5.out _).mono ?_
  rintro e w5 ⟨rfl, rfl⟩
  go_wp2_with fail
  refine (C6.out _).mono ?_
  rintro e w6 ⟨rfl, rfl⟩
  go_wp2_with fail
  refine (words_any _).mono ?_
  rintro e w7 ⟨rfl, hb7⟩
  go_wp2_with fail
  go_ret
  exact ⟨rfl, below_step hb2 (Nat.le_refl _) hb7⟩

theorem wordTurns_walk (x a b : Int) (w : World) :
    Calls Try.prog 3 #[.int .i64 x, .int .i64 a, .int .i64 b] w fun e w' => e = .returned (.bool true) ∧ Below w.heap.size w w' := by
  obtain ⟨X, hX, ex⟩ := nat_mod x 4294967296 (by decide)
  obtain ⟨A, hA, ea⟩ := nat_mod a 32 (by decide)
  obtain ⟨B, hB, eb⟩ := nat_mod b 32 (by decide)
  exact wordTurns_nat x a b X A B hX hA hB ex ea eb w
end Go.Proofs.Ytaefhdegldphhaa
