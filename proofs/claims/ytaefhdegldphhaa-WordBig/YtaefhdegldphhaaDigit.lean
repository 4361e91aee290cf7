import Derived.Test.YtaefhdegldphhaaRows
import Derived.WalkKit
import Derived.WalkSpells
import Derived.WalkLawsBesides
import Derived.Test.YtaefhdegldphhaaBuf
namespace Go.Proofs.Ytaefhdegldphhaa
open Go.RowKit

/-- Is the byte a digit? -/
def isDig (c : Nat) : Bool := decide (48 ≤ c ∧ c ≤ 57) || decide (97 ≤ c ∧ c ≤ 102) || decide (65 ≤ c ∧ c ≤ 70)
/-- The number of a digit; 0 of another byte. -/
def digVal (c : Nat) : Nat := if 48 ≤ c ∧ c ≤ 57 then c - 48 else if 97 ≤ c ∧ c ≤ 102 then c - 87 else if 65 ≤ c ∧ c ≤ 70 then c - 55 else 0
theorem digVal_lt (c : Nat) : digVal c < 16 := by unfold digVal; split <;> (try split) <;> (try split) <;> omega

theorem dig_ways (c : Nat) : (c < 48 ∨ (48 ≤ c ∧ c ≤ 57)) ∨ ((57 < c ∧ c < 65) ∨ (65 ≤ c ∧ c ≤ 70)) ∨ ((70 < c ∧ c < 97) ∨ (97 ≤ c ∧ c ≤ 102) ∨ 102 < c) := by omega

theorem ret_dig {a b : Int} {p q : Bool} (h1 : a = b) (h2 : p = q) : Ending.returned (.tuple #[.int .u8 a, .bool p]) = .returned (.tuple #[.int .u8 b, .bool q]) := by rw [h1, h2]
theorem ret_int {k : IntKind} {a b : Int} (h : a = b) : Ending.returned (.int k a) = .returned (.int k b) := by rw [h]

set_option maxHeartbeats 400000 in
theorem digit_any (c : Nat) (w : World) (hc : c < 256) :
    Calls Try.prog 36 #[.int .u8 (c : Int)] w fun e w' => e = .returned (.tuple #[.int .u8 (digVal c), .bool (isDig c)]) ∧ w' = w := by
  rcases dig_ways c with (h | ⟨h, h'⟩) | (⟨h, h'⟩ | ⟨h, h'⟩) | (⟨h, h'⟩ | ⟨h, h'⟩ | h)
  all_goals
    go_enter Try.func36, Try.ntmps36
    go_wp2
    go_ret2
    refine ⟨ret_dig ?_ ?_, rfl⟩
    · unfold digVal; (repeat' split) <;> omega
    · unfold isDig; rw [eq_comm]; simp; try omega

theorem isDig_val (c : Nat) (h : isDig c = false) : digVal c = 0 := by
  unfold isDig at h; unfold digVal
  simp at h
  (repeat' split) <;> omega

/-- A digit's number; -1: it is none. -/
def rdig (c : Nat) : Int := if isDig c then (digVal c : Int) else -1
theorem isDig_no (c : Nat) (h : c < 48 ∨ (57 < c ∧ c < 65) ∨ (70 < c ∧ c < 97) ∨ 102 < c) : isDig c = false := by unfold isDig; simp; omega
theorem isDig_yes (c : Nat) (h : (48 ≤ c ∧ c ≤ 57) ∨ (65 ≤ c ∧ c ≤ 70) ∨ (97 ≤ c ∧ c ≤ 102)) : isDig c = true := by unfold isDig; simp; omega

set_option maxHeartbeats 400000 in
theorem rdigit_any (c : Nat) (w : World) (hc : c < 256) :
    Calls Try.prog 37 #[.int .u8 (c : Int)] w fun e w' => e = .returned (.int .i64 (rdig c)) ∧ w' = w := by
  rcases dig_ways c with (h | ⟨h, h'⟩) | (⟨h, h'⟩ | ⟨h, h'⟩) | (⟨h, h'⟩ | ⟨h, h'⟩ | h)
  all_goals
    go_enter Try.func37, Try.ntmps37
    go_wp2
    go_ret
    refine ⟨ret_int ?_, rfl⟩
    unfold rdig
    first | (rw [isDig_no c (by omega)]; rfl) | (rw [isDig_yes c (by omega), if_pos rfl]; unfold digVal; (repeat' split) <;> omega)
end Go.Proofs.Ytaefhdegldphhaa
