import Derived.Test.YtfbgofbjbfidoaaDoorRows
import Derived.WalkKit
import Derived.WalkSpells
import Derived.WalkLawsBesides
import Derived.Test.YtfbgofbjbfidoaaDoorBuf
namespace Go.Proofs.YtfbgofbjbfidoaaDoor
open Go.RowKit

/-- Is the byte a digit? -/
def isDig (c : Nat) : Bool := decide (48 ≤ c ∧ c ≤ 57) || decide (97 ≤ c ∧ c ≤ 102) || decide (65 ≤ c ∧ c ≤ 70)
/-- The number of a digit; 0 of another byte. -/
def digVal (c : Nat) : Nat := if 48 ≤ c ∧ c ≤ 57 then c - 48 else if 97 ≤ c ∧ c ≤ 102 then c - 87 else if 65 ≤ c ∧ c ≤ 70 then c - 55 else 0
theorem digVal_lt (c : Nat) : digVal c < 16 := by unfold digVal; split <;> (try split) <;> (try split) <;> omega

theorem dig_ways (c : Nat) : (c < 48 ∨ (48 ≤ c ∧ c ≤ 57)) ∨ ((57 < c ∧ c < 65) ∨ (65 ≤ c ∧ c ≤ 70)) ∨ ((70 < c ∧ c < 97) ∨ (97 ≤ c ∧ c ≤ 102) ∨ 102 < c) := by omega

theorem ret_dig {a b : Int} {p q : Bool} (h1 : a = b) (h2 : p = q) : Ending.returned (.tuple #[.int .u8 a, .bool p]) = .returned (.tuple #[.int .u8 b, .bool q]) := by rw [h1, h2]
theorem ret_int {k : IntKind} {a b : Int} (h : a = b) : Ending.returned (.int k a) = .returned (.int k b) := by rw [h]

theorem isDig_val (c : Nat) (h : isDig c = false) : digVal c = 0 := by
  unfold isDig at h; unfold digVal
  simp at h
  (repeat' split) <;> omega

/-- A digit's number; -1: it is none. -/
def rdig (c : Nat) : Int := if isDig c then (digVal c : Int) else -1
theorem isDig_no (c : Nat) (h : c < 48 ∨ (57 < c ∧ c < 65) ∨ (70 < c ∧ c < 97) ∨ 102 < c) : isDig c = false := by unfold isDig; simp; omega
theorem isDig_yes (c : Nat) (h : (48 ≤ c ∧ c ≤ 57) ∨ (65 ≤ c ∧ c ≤ 70) ∨ (97 ≤ c ∧ c ≤ 102)) : isDig c = true := by unfold isDig; simp; omega

end Go.Proofs.YtfbgofbjbfidoaaDoor
