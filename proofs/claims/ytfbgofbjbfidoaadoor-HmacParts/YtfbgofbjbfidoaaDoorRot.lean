import Derived.Test.YtfbgofbjbfidoaaDoorRows
import Derived.WalkKit
import Derived.WalkSpells
import Derived.WalkLawsBesides
import Derived.Deep.QuietTactic
import Derived.BigQuiet
import Derived.Laws.BitsAllLaws
namespace Go.Proofs.YtfbgofbjbfidoaaDoor
open Go.RowKit

theorem i64_mask (n : Int) (j : Nat) (hj : j ≤ 32) (m : Int) (hm : (BitVec.ofInt 64 m).toNat = 2 ^ j - 1) : bits .and .i64 n m = n % ((2 ^ j : Nat) : Int) := by
  have key : (BitVec.ofInt 64 n &&& BitVec.ofInt 64 m).toNat = (n % ((2 ^ 64 : Nat) : Int)).toNat % 2 ^ j := by
    rw [BitVec.toNat_and, BitVec.toNat_ofInt, hm, Nat.and_two_pow_sub_one_eq_mod]
  show IntKind.i64.wrap ((BitVec.ofInt 64 n &&& BitVec.ofInt 64 m).toNat : Nat) = n % ((2 ^ j : Nat) : Int)
  rw [key, IntKind.wrap_i64]
  have hd : (2 ^ j : Nat) ∣ 2 ^ 64 := Nat.pow_dvd_pow 2 (by omega)
  have hp : 2 ^ j ≤ 4294967296 := Nat.le_trans (Nat.pow_le_pow_right (by decide) hj) (by decide)
  have hpos : 0 < 2 ^ j := Nat.two_pow_pos j
  have h1 : (((n % ((2 ^ 64 : Nat) : Int)).toNat % 2 ^ j : Nat) : Int) = n % ((2 ^ j : Nat) : Int) := by
    rw [Int.natCast_emod, Int.toNat_of_nonneg (Int.emod_nonneg _ (by decide))]
    exact Int.emod_emod_of_dvd n (Int.natCast_dvd_natCast.2 hd)
  rw [h1]
  generalize 2 ^ j = p at *
  have h2 := Int.emod_nonneg n (show (p : Int) ≠ 0 by omega)
  have h3 := Int.emod_lt_of_pos n (show (0 : Int) < (p : Int) by omega)
  generalize n % (p : Int) = z at *
  omega

theorem i64_and31 (n : Int) : bits .and .i64 n 31 = n % 32 := i64_mask n 5 (by decide) 31 (by decide)
theorem i64_and32 (n : Int) : bits .and .i64 n 4294967295 = n % 4294967296 := i64_mask n 32 (by decide) 4294967295 (by decide)

set_option maxHeartbeats 400000 in
theorem word_any (n : Int) (w : World) :
    Calls Tryd.prog 31 #[.int .i64 n] w fun e w' => e = .returned (.int .i64 (n % 4294967296)) ∧ w' = w := by
  have h := i64_and32 n
  go_enter Tryd.func31, Tryd.ntmps31
  go_wp2
  go_ret
  exact ⟨rfl, rfl⟩

/-- The word X, turned left by k bits. -/
def rotN (X k : Nat) : Nat := (X * 2 ^ k % 4294967296) ||| (X / 2 ^ (32 - k))
theorem div_lt32 (X k : Nat) (hX : X < 4294967296) : X / 2 ^ k < 4294967296 := Nat.lt_of_le_of_lt (Nat.div_le_self _ _) hX
theorem rotN_lt (X k : Nat) (hX : X < 4294967296) : rotN X k < 4294967296 := by
  unfold rotN
  have := Nat.or_lt_two_pow (n := 32) (Nat.mod_lt (X * 2 ^ k) (by decide)) (div_lt32 X (32 - k) hX)
  exact this
theorem rot_bits (X k : Nat) (hX : X < 4294967296) : bits .or .u32 ((X : Int) * 2 ^ k % 4294967296) ((X : Int) / 2 ^ (32 - k)) = (rotN X k : Int) := by
  have e1 : ((X : Int) * 2 ^ k % 4294967296) = ((X * 2 ^ k % 4294967296 : Nat) : Int) := by simp
  have e2 : ((X : Int) / 2 ^ (32 - k)) = ((X / 2 ^ (32 - k) : Nat) : Int) := by simp
  rw [e1, e2, u32_or_nat _ _ (Nat.mod_lt _ (by decide)) (div_lt32 _ _ hX)]
  rfl

theorem wraps_i64 (n : Int) (h₀ : 0 ≤ n) (h₁ : n < 2 ^ 63) : IntKind.i64.wrap n = n := by rw [IntKind.wrap_i64]; omega
theorem i64_or_nat (a b : Nat) (ha : a < 9223372036854775808) (hb : b < 9223372036854775808) : bits .or .i64 (a : Int) (b : Int) = ((a ||| b : Nat) : Int) :=
  (bits_nat .i64 63 (by decide) wraps_i64 a b ha hb).2
theorem rrot_bits (X k : Nat) (hX : X < 4294967296) (hk : k < 32) : bits .or .i64 (wrap64 ((X : Int) * 2 ^ k)) ((X : Int) / 2 ^ (32 - k)) % 4294967296 = (rotN X k : Int) := by
  have hp : 2 ^ k ≤ 2147483648 := Nat.le_trans (Nat.pow_le_pow_right (by decide) (show k ≤ 31 by omega)) (by decide)
  have hm : X * 2 ^ k < 9223372036854775808 := by
    have := Nat.mul_le_mul (show X ≤ 4294967295 by omega) hp
    omega
  have e1 : wrap64 ((X : Int) * 2 ^ k) = ((X * 2 ^ k : Nat) : Int) := by
    have e0 : ((X : Int) * 2 ^ k) = ((X * 2 ^ k : Nat) : Int) := by simp
    rw [e0]
    generalize X * 2 ^ k = z at *
    unfold wrap64
    omega
  have e2 : ((X : Int) / 2 ^ (32 - k)) = ((X / 2 ^ (32 - k) : Nat) : Int) := by simp
  have hd := div_lt32 X (32 - k) hX
  rw [e1, e2, i64_or_nat _ _ hm (by omega)]
  have e3 : ((X * 2 ^ k ||| X / 2 ^ (32 - k)) % 2 ^ 32 : Nat) = rotN X k := by
    rw [Nat.or_mod_two_pow]
    unfold rotN
    rw [Nat.mod_eq_of_lt (show X / 2 ^ (32 - k) < 2 ^ 32 from hd)]
  rw [← e3]
  simp

set_option maxHeartbeats 400000 in
theorem rotl_any (X k : Nat) (hX : X < 4294967296) (hk : k < 32) (w : World) :
    Calls Tryd.prog 54 #[.int .u32 X, .int .i64 k] w fun e w' => e = .returned (.int .u32 (rotN X k)) ∧ w' = w := by
  have h : bits .and .u64 (k : Int) 31 = (k : Int) := by rw [show (31 : Int) = ((31 : Nat) : Int) from rfl, u64_and_nat _ _ (by omega) (by decide), nat_mask5, Nat.mod_eq_of_lt hk]
  go_enter Tryd.func54, Tryd.ntmps54
  go_wp2
  go_ret
  refine ⟨?_, rfl⟩
  rw [← rot_bits X k hX]; rfl

set_option maxHeartbeats 400000 in
theorem rot_nat (x n : Int) (X k : Nat) (hX : X < 4294967296) (hk : k < 32) (w : World) (ex : x % 4294967296 = (X : Int)) (en : n % 32 = (k : Int)) :
    Calls Tryd.prog 50 #[.int .i64 x, .int .i64 n] w fun e w' => e = .returned (.int .i64 (rotN X k)) ∧ w' = w := by
  have h := i64_and31 n
  rw [en] at h
  have hr := rotN_lt X k hX
  clear en
  go_enter Tryd.func50, Tryd.ntmps50
  go_wp2_with (go_at_call 54; refine (rotl_any X k hX hk _).mono ?_; rintro e w' ⟨rfl, rfl⟩)
  go_ret
  exact ⟨rfl, rfl⟩

set_option maxHeartbeats 400000 in
theorem rrot_nat (x n : Int) (X k : Nat) (hX : X < 4294967296) (hk : k < 32) (w : World) (ex : x % 4294967296 = (X : Int)) (en : n % 32 = (k : Int)) :
    Calls Tryd.prog 43 #[.int .i64 x, .int .i64 n] w fun e w' => e = .returned (.int .i64 (rotN X k)) ∧ Below w.heap.size w w' := by
  have h := i64_and31 n
  rw [en] at h
  have hr := rotN_lt X k hX
  clear en
  have hw := fun w => word_any x w
  rw [ex] at hw
  have HW : Hid (∀ w, _) := hw
  clear hw
  go_enter Tryd.func43, Tryd.ntmps43
  go_wp2
  go_quiet ((go_at_call 31; first | exact Calls.quiet_of_same (HW.out _) | exact Calls.quiet_of_same (word_any _ _)))
  go_wp2
  go_ret
  refine ⟨?_, below_drewN (Below.refl _ _) _⟩
  rw [← rrot_bits X k hX hk]; rfl

/-! ### What turning does, bit by bit. -/
theorem rotN_bit (X k i : Nat) (hX : X < 4294967296) (hk : k < 32) : (rotN X k).testBit i = (decide (i < 32) && X.testBit ((i + 32 - k) % 32)) := by
  unfold rotN
  have e : X * 2 ^ k % 4294967296 = X * 2 ^ k % 2 ^ 32 := rfl
  rw [e, Nat.testBit_or, Nat.testBit_mod_two_pow, Nat.testBit_mul_two_pow, Nat.testBit_div_two_pow]
  have hz : ∀ j, 32 ≤ j → X.testBit j = false := fun j hj => Nat.testBit_lt_two_pow (Nat.lt_of_lt_of_le hX (Nat.pow_le_pow_right (n := 2) (by decide) hj))
  by_cases hi : i < 32
  · by_cases hk' : k ≤ i
    · rw [hz (i + (32 - k)) (by omega), show (i + 32 - k) % 32 = i - k by omega]
      simp [hi, hk']
    · rw [show (i + 32 - k) % 32 = i + (32 - k) by omega]
      simp [hi, hk']
  · rw [hz (i + (32 - k)) (by omega)]
    simp [hi]

theorem rotN_rotN (X a b : Nat) (hX : X < 4294967296) (ha : a < 32) (hb : b < 32) : rotN (rotN X a) b = rotN X ((a + b) % 32) := by
  apply Nat.eq_of_testBit_eq
  intro i
  rw [rotN_bit _ _ _ (rotN_lt X a hX) hb, rotN_bit _ _ _ hX ha, rotN_bit _ _ _ hX (Nat.mod_lt _ (by decide))]
  by_cases hi : i < 32
  · rw [show ((i + 32 - b) % 32 + 32 - a) % 32 = (i + 32 - (a + b) % 32) % 32 by omega]
    simp [hi, Nat.mod_lt]
  · simp [hi]

theorem rotN_zero (X : Nat) (hX : X < 4294967296) : rotN X 0 = X := by
  apply Nat.eq_of_testBit_eq
  intro i
  rw [rotN_bit _ _ _ hX (by decide)]
  by_cases hi : i < 32
  · simp [hi, Nat.mod_eq_of_lt hi]
  · have : X.testBit i = false := Nat.testBit_lt_two_pow (Nat.lt_of_lt_of_le hX (Nat.pow_le_pow_right (n := 2) (by decide) (show 32 ≤ i by omega)))
    simp [hi, this]

theorem rotN_xor (X Y k : Nat) (hX : X < 4294967296) (hY : Y < 4294967296) (hk : k < 32) : rotN (X ^^^ Y) k = rotN X k ^^^ rotN Y k := by
  apply Nat.eq_of_testBit_eq
  intro i
  rw [Nat.testBit_xor, rotN_bit _ _ _ (Nat.xor_lt_two_pow (n := 32) hX hY) hk, rotN_bit _ _ _ hX hk, rotN_bit _ _ _ hY hk, Nat.testBit_xor]
  by_cases hi : i < 32 <;> simp [hi]
end Go.Proofs.YtfbgofbjbfidoaaDoor
