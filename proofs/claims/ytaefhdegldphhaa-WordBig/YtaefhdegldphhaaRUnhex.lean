import Derived.Test.YtaefhdegldphhaaUnhex
namespace Go.Proofs.Ytaefhdegldphhaa
open Go.RowKit

theorem rdig_yes (c : Nat) (h : isDig c = true) : rdig c = (digVal c : Int) := by unfold rdig; rw [if_pos h]
theorem rdig_no (c : Nat) (h : isDig c = false) : rdig c = -1 := by unfold rdig; rw [h]; rfl

theorem wrap_nat (n : Nat) (h : n ≤ 9223372036854775807) : IntKind.i64.wrap (n : Int) = (n : Int) := by
  rw [IntKind.wrap_i64]; omega

theorem below_of_drewN {B n : Nat} {w w' : World} (h : Below B (w.drewN n) w') : Below B w w' := ⟨h.os, h.tape, h.output, h.size, h.block⟩

theorem unhexL_get (s : ByteArray) (k j : Nat) (hj : j = 2 * k) (h : k < (nums (unhexL s)).length) (h0 : j < s.size) (h1 : j + 1 < s.size) :
    (nums (unhexL s))[k] = 16 * (digVal s[j].toNat : Int) + (digVal s[j + 1].toNat : Int) := by
  have hk : k < s.size / 2 := by rw [nums_length] at h; unfold unhexL at h; rw [bytesOf_length] at h; exact h
  have e : nums (unhexL s) = tab (s.size / 2) (fun i => (hexByte s i : Int)) := nums_bytesOf _ _ (fun i _ => hexByte_lt s i)
  rw [bt_get s j h0, bt_get s (j + 1) h1]
  simp only [e, tab_get _ _ k hk]
  unfold hexByte; rw [hj]; omega

set_option maxHeartbeats 400000 in
theorem runhex_odd (s : ByteArray) (w : World) (hs : s.size ≤ 1048576) (h : ¬ s.size % 2 = 0) :
    Calls Try.prog 27 #[.string s] w fun e w' => e = .returned (unhexR s) ∧ Below w.heap.size w w' := by
  rw [unhexR_odd s h]
  have hn : ((((s.size : Int) % 2) != 0)) = true := by rw [bne_iff_ne]; omega
  go_enter Try.func27, Try.ntmps27
  go_wp2
  go_ret2
  exact ⟨rfl, Below.refl _ _⟩

set_option maxHeartbeats 1000000 in
theorem runhex_even (s : ByteArray) (w : World) (hs : s.size ≤ 1048576) (h : s.size % 2 = 0) :
    Calls Try.prog 27 #[.string s] w fun e w' => e = .returned (unhexR s) ∧ Below w.heap.size w w' := by
  have hn : ((((s.size : Int) % 2) != 0)) = false := by rw [bne_eq_false_iff_eq]; omega
  obtain ⟨i0, hi, hz0, hz1, hz2⟩ := info_parts Try.info5
  go_enter Try.func27, Try.ntmps27
  go_wp2
  go_loopw [4, 5] (fun v i wr => ∃ k j : Nat, j ≤ s.size ∧ i = .int .i64 j ∧ Hid (j = 2 * k) ∧ (∀ j, j < 2 * k → isDig (bt s j) = true) ∧ OwnV wr w.heap.size 5 .u8 v k ((nums (unhexL s)).take k) ∧ Below w.heap.size w wr) (fun _ i _ => s.size - (intOf i).toNat)
  case atStart => exact ⟨0, 0, Nat.zero_le _, rfl, rfl, (fun j hj => absurd hj (Nat.not_lt_zero _)), OwnV.nil _ _ _ _, Below.refl _ _⟩
  case round =>
    obtain ⟨k, j, hj, rfl, HJ, hall, hown, hbl⟩ := hrel
    have Hall : Hid (∀ j, j < 2 * k → isDig (bt s j) = true) := hall
    clear hall
    have hkb : k ≤ 1048576 := by have := HJ.out; omega
    by_cases hlt : j < s.size
    · have hlt1 : j + 1 < s.size := by have := HJ.out; omega
      have b1 := digVal_lt s[j].toNat
      have b2 := digVal_lt s[j + 1].toNat
      by_cases hd1 : isDig s[j].toNat = true
      · by_cases hd2 : isDig s[j + 1].toNat = true
        · have e1 := rdig_yes _ hd1
          have e2 := rdig_yes _ hd2
          have hw : IntKind.i64.wrap ((j : Int) + 1) = (j : Int) + 1 := wrap_nat (j + 1) (by omega)
          have hp0 : (0 : Int) ≤ (j : Int) + 1 := by omega
          have hp1 : (j : Int) + 1 < (s.size : Int) := by omega
          go_wp2
          go_quiet ((go_at_call 37; exact Calls.quiet_of_same (rdigit_any _ _ (byte_lt _))))
          have hsz := hbl.size
          go_wp2_with (at_builtin; refine wpList_app1 rfl _ _ 43 rfl w.heap.size 5 i0 .u8 1 Try.underlying43 hi hz0 hz1 hz2 (wr.drewN nq) u4 k _ rfl hown _ rfl (by omega) (by omega) (by exact hsz) ?_)
          intro v' w1 hown1 hbl1
          have hkn : k < (nums (unhexL s)).length := by rw [nums_length]; unfold unhexL; rw [bytesOf_length]; have := HJ.out; omega
          rw [take_snoc_int _ _ hkn _ (unhexL_get s k j HJ.out hkn hlt hlt1)] at hown1
          have HB := hbl.trans (below_of_drewN hbl1)
          clear hbl1 hown
          go_wp2
          go_roundw
          case rel =>
            refine ⟨k + 1, j + 2, by omega, by go_num, ?_, fun i hi' => ?_, hown1, HB⟩
            · have := HJ.out; show j + 2 = 2 * (k + 1); omega
            · have hJ := HJ.out
              by_cases e : i = j
              · rw [e, ← bt_get s j hlt]; exact hd1
              · by_cases e' : i = j + 1
                · rw [e', ← bt_get s (j + 1) hlt1]; exact hd2
                · exact Hall.out i (by omega)
          case measure => simp [intOf]; omega
        · have e1 := rdig_yes _ hd1
          have hd2' : isDig s[j + 1].toNat = false := by simpa using hd2
          have e2 := rdig_no _ hd2'
          have hw : IntKind.i64.wrap ((j : Int) + 1) = (j : Int) + 1 := wrap_nat (j + 1) (by omega)
          have hp0 : (0 : Int) ≤ (j : Int) + 1 := by omega
          have hp1 : (j : Int) + 1 < (s.size : Int) := by omega
          have HR : Hid (unhexR s = _) := unhexR_no s (j + 1) hlt1 (by rw [← bt_get s (j + 1) hlt1]; exact hd2')
          clear hown
          go_wp2
          go_quiet ((go_at_call 37; exact Calls.quiet_of_same (rdigit_any _ _ (byte_lt _))))
          go_wp2
          go_ret2
          exact ⟨by rw [HR.out]; rfl, below_drewN hbl _⟩
      · have hd1' : isDig s[j].toNat = false := by simpa using hd1
        have e1 := rdig_no _ hd1'
        have hw : IntKind.i64.wrap ((j : Int) + 1) = (j : Int) + 1 := wrap_nat (j + 1) (by omega)
        have hp0 : (0 : Int) ≤ (j : Int) + 1 := by omega
        have hp1 : (j : Int) + 1 < (s.size : Int) := by omega
        have HR : Hid (unhexR s = _) := unhexR_no s j hlt (by rw [← bt_get s j hlt]; exact hd1')
        clear hown
        go_wp2
        go_quiet ((go_at_call 37; exact Calls.quiet_of_same (rdigit_any _ _ (byte_lt _))))
        go_wp2
        go_ret2
        exact ⟨by rw [HR.out]; rfl, below_drewN hbl _⟩
    · have hk' : 2 * k = s.size := by have := HJ.out; omega
      have HR : Hid (unhexR s = _) := unhexR_yes s h (fun i hi' => Hall.out i (by omega))
      rw [List.take_of_length_le (by rw [nums_length]; unfold unhexL; rw [bytesOf_length]; omega)] at hown
      have hcv := own_conv (P := Try.prog) 43 9 hown Try.underlying43 Try.underlying5 Try.underlying9
      clear hk' hown hi hz0 hz1 hz2
      go_wp2
      go_ret2
      exact ⟨by rw [HR.out]; rfl, hbl⟩

theorem runhex_any (s : ByteArray) (w : World) (hs : s.size ≤ 1048576) :
    Calls Try.prog 27 #[.string s] w fun e w' => e = .returned (unhexR s) ∧ Below w.heap.size w w' := by
  by_cases h : s.size % 2 = 0
  · exact runhex_even s w hs h
  · exact runhex_odd s w hs h
end Go.Proofs.Ytaefhdegldphhaa
