import Derived.Test.YtfbgofbjbfidoaaDoorKern
namespace Go.Proofs.YtfbgofbjbfidoaaDoor
open Go.RowKit

theorem i64_xor_nat (a b : Nat) (ha : a < 9223372036854775808) (hb : b < 9223372036854775808) : bits .xor .i64 (a : Int) (b : Int) = ((a ^^^ b : Nat) : Int) := by
  have ha' : a % 2 ^ 64 = a := Nat.mod_eq_of_lt (by omega)
  have hb' : b % 2 ^ 64 = b := Nat.mod_eq_of_lt (by omega)
  have hx : a ^^^ b < 2 ^ 63 := Nat.xor_lt_two_pow ha hb
  show IntKind.i64.wrap ((BitVec.ofInt 64 (a : Int) ^^^ BitVec.ofInt 64 (b : Int)).toNat : Nat) = _
  rw [BitVec.toNat_xor, BitVec.ofInt_natCast, BitVec.ofInt_natCast, BitVec.toNat_ofNat, BitVec.toNat_ofNat, ha', hb']
  exact wraps_i64 _ (Int.natCast_nonneg _) (by exact_mod_cast hx)
theorem i64_and_nat (a b : Nat) (ha : a < 9223372036854775808) (hb : b < 9223372036854775808) : bits .and .i64 (a : Int) (b : Int) = ((a &&& b : Nat) : Int) :=
  (bits_nat .i64 63 (by decide) wraps_i64 a b ha hb).1

set_option maxHeartbeats 400000 in
theorem right_any (X n : Nat) (hX : X < 4294967296) (h1 : 1 ≤ n) (h2 : n ≤ 31) (w : World) :
    Calls Tryd.prog 42 #[.int .u32 X, .int .i64 n] w fun e w' => e = .returned (.int .u32 (rr X n)) ∧ w' = w := by
  have hr : rr X n < 4294967296 := rr_lt X n hX
  have C : Hid (∀ w, Calls Tryd.prog 50 #[.int .i64 X, .int .i64 (-(n : Int))] w fun e w' => e = .returned (.int .i64 (rr X n)) ∧ w' = w) :=
    fun w => rot_nat (X : Int) (-(n : Int)) X (32 - n) hX (by omega) w (by omega) (by omega)
  go_enter Tryd.func42, Tryd.ntmps42
  go_wp2_with (go_at_call 50; refine (C.out _).mono ?_; rintro e w' ⟨rfl, rfl⟩)
  go_ret
  exact ⟨rfl, rfl⟩

set_option maxHeartbeats 400000 in
theorem rrot_drew (x n : Int) (X k : Nat) (hX : X < 4294967296) (hk : k < 32) (w : World) (ex : x % 4294967296 = (X : Int)) (en : n % 32 = (k : Int)) :
    Calls Tryd.prog 43 #[.int .i64 x, .int .i64 n] w fun e w' => e = .returned (.int .i64 (rotN X k)) ∧ ∃ m, w' = w.drewN m := by
  have h := i64_and31 n
  rw [en] at h
  have hr := rotN_lt X k hX
  clear en
  have hw := fun w => word_any x w
  rw [ex] at hw
  have HW : Hid (∀ w, _) := hw
  clear hw
  go_enter Tryd.func43, Tryd.ntmps43
  go_wp2
  go_quiet ((go_at_call 31; first | exact Calls.quiet_of_same (HW.out _) | exact Calls.quiet_of_same (word_any _ _)))
  go_wp2
  go_ret
  refine ⟨?_, nq, rfl⟩
  rw [← rrot_bits X k hX hk]; rfl

set_option maxHeartbeats 400000 in
theorem rright_any (X n : Nat) (hX : X < 4294967296) (h1 : 1 ≤ n) (h2 : n ≤ 31) (w : World) :
    Calls Tryd.prog 32 #[.int .i64 X, .int .i64 n] w fun e w' => e = .returned (.int .i64 (rr X n)) ∧ ∃ m, w' = w.drewN m := by
  have hr : rr X n < 4294967296 := rr_lt X n hX
  have C : Hid (∀ w, Calls Tryd.prog 43 #[.int .i64 X, .int .i64 (32 - (n : Int))] w fun e w' => e = .returned (.int .i64 (rr X n)) ∧ ∃ m, w' = w.drewN m) :=
    fun w => rrot_drew (X : Int) (32 - (n : Int)) X (32 - n) hX (by omega) w (by omega) (by omega)
  go_enter Tryd.func32, Tryd.ntmps32
  go_wp2_with (go_at_call 43; refine (C.out _).mono ?_; rintro e w' ⟨rfl, m, rfl⟩)
  go_ret
  exact ⟨rfl, m, rfl⟩
end Go.Proofs.YtfbgofbjbfidoaaDoor
