import Derived.Test.YtfbgofbjbfidoaaDoorUnhex
namespace Go.Proofs.YtfbgofbjbfidoaaDoor
open Go.RowKit

theorem rdig_yes (c : Nat) (h : isDig c = true) : rdig c = (digVal c : Int) := by unfold rdig; rw [if_pos h]
theorem rdig_no (c : Nat) (h : isDig c = false) : rdig c = -1 := by unfold rdig; rw [h]; rfl

theorem wrap_nat (n : Nat) (h : n ≤ 9223372036854775807) : IntKind.i64.wrap (n : Int) = (n : Int) := by
  rw [IntKind.wrap_i64]; omega

theorem below_of_drewN {B n : Nat} {w w' : World} (h : Below B (w.drewN n) w') : Below B w w' := ⟨h.os, h.tape, h.output, h.size, h.block⟩

theorem unhexL_get (s : ByteArray) (k j : Nat) (hj : j = 2 * k) (h : k < (nums (unhexL s)).length) (h0 : j < s.size) (h1 : j + 1 < s.size) :
    (nums (unhexL s))[k] = 16 * (digVal s[j].toNat : Int) + (digVal s[j + 1].toNat : Int) := by
  have hk : k < s.size / 2 := by rw [nums_length] at h; unfold unhexL at h; rw [bytesOf_length] at h; exact h
  have e : nums (unhexL s) = tab (s.size / 2) (fun i => (hexByte s i : Int)) := nums_bytesOf _ _ (fun i _ => hexByte_lt s i)
  rw [bt_get s j h0, bt_get s (j + 1) h1]
  simp only [e, tab_get _ _ k hk]
  unfold hexByte; rw [hj]; omega

end Go.Proofs.YtfbgofbjbfidoaaDoor
