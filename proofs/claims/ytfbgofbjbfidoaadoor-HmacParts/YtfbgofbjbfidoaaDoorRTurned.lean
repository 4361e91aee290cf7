import Derived.Test.YtfbgofbjbfidoaaDoorHm
namespace Go.Proofs.YtfbgofbjbfidoaaDoor
open Go.RowKit
set_option linter.unusedSimpArgs false

def blkL (f : Nat → Nat) (c : Nat) : List UInt8 := bytesOf 64 (fun i => f i ^^^ c)
theorem blkL_length (f : Nat → Nat) (c : Nat) : (blkL f c).length = 64 := bytesOf_length _ _
theorem blkL_get (f : Nat → Nat) (c : Nat) (hf : ∀ i, f i < 256) (hc : c < 256) (k : Nat) (hk : k < 64) (h : k < (nums (blkL f c)).length) : (nums (blkL f c))[k] = ((f k ^^^ c : Nat) : Int) := by
  have e : nums (blkL f c) = tab 64 (fun i => ((f i ^^^ c : Nat) : Int)) := nums_bytesOf _ _ (fun i _ => xor_lt8 _ _ (hf i) hc)
  simp only [e, tab_get _ _ k hk]

set_option maxRecDepth 100000 in
set_option maxHeartbeats 4000000 in
theorem rturned_short (K : ByteArray) (c : Nat) (w : World) (hK : K.size ≤ 64) (hc : c < 256) :
    Calls Tryd.prog 16 #[.string K, .int .u8 (c : Int)] w fun e w' => e = .returned (.string (turnB (bt K) c)) ∧ Below w.heap.size w w' := by
  have HC : Hid (c < 256) := hc
  clear hc
  have g0 : decide ((64 : Int) < (K.size : Int)) = false := by simp; omega
  obtain ⟨i0, hi, hz0, hz1, hz2⟩ := info_parts Tryd.info5
  have A2 := Below.refl w.heap.size w
  go_enter Tryd.func16, Tryd.ntmps16
  go_wp2_with fail
  go_loopw [5, 6] (fun v i wr => ∃ k : Nat, k ≤ 64 ∧ i = .int .i64 k ∧ OwnV wr w.heap.size 5 .u8 v k ((nums (blkL (bt K) c)).take k) ∧ Below w.heap.size w wr) (fun _ i _ => 64 - (intOf i).toNat)
  case atStart => exact ⟨0, Nat.zero_le _, rfl, OwnV.nil _ _ _ _, A2⟩
  case round =>
    clear A2
    obtain ⟨k, hk, rfl, hown, hbl⟩ := hrel
    have hsz := hbl.size
    by_cases hlt : k < 64
    · have hkn : k < (nums (blkL (bt K) c)).length := by rw [nums_length, blkL_length]; exact hlt
      by_cases hin : k < K.size
      · have hxr : bits .xor .u8 (K[k].toNat : Int) (c : Int) = ((K[k].toNat ^^^ c : Nat) : Int) := u8_xor_nat _ _ (byte_lt _) HC.out
        have hy : Hid ((nums (blkL (bt K) c))[k] = ((K[k].toNat ^^^ c : Nat) : Int)) := by show _ = _; rw [bt_get K k hin]; exact blkL_get _ _ (bt_lt K) HC.out k hlt hkn
        go_wp2_with (at_builtin; refine wpList_app1 rfl _ _ 26 rfl w.heap.size 5 i0 .u8 1 Tryd.underlying26 hi hz0 hz1 hz2 wr u5 k _ rfl hown _ rfl (by omega) (by omega) hsz ?_)
        intro v' w1 hown1 hbl1
        rw [take_snoc_int _ _ hkn _ hy.out] at hown1
        have HB := hbl.trans hbl1
        clear hbl1 hown
        go_wp2_with fail
        go_roundw
        case rel => exact ⟨k + 1, by omega, by go_num, hown1, HB⟩
        case measure => simp [intOf]; omega
      · have hxr : bits .xor .u8 (0 : Int) (c : Int) = (c : Int) := by
          have := u8_xor_nat 0 c (by omega) HC.out
          rw [Nat.zero_xor] at this; exact this
        have hy : Hid ((nums (blkL (bt K) c))[k] = (c : Int)) := by show _ = _; rw [blkL_get _ _ (bt_lt K) HC.out k hlt hkn, bt_out K k (by omega), Nat.zero_xor]
        go_wp2_with (at_builtin; refine wpList_app1 rfl _ _ 26 rfl w.heap.size 5 i0 .u8 1 Tryd.underlying26 hi hz0 hz1 hz2 wr u5 k _ rfl hown _ rfl (by omega) (by omega) hsz ?_)
        intro v' w1 hown1 hbl1
        rw [take_snoc_int _ _ hkn _ hy.out] at hown1
        have HB := hbl.trans hbl1
        clear hbl1 hown
        go_wp2_with fail
        go_roundw
        case rel => exact ⟨k + 1, by omega, by go_num, hown1, HB⟩
        case measure => simp [intOf]; omega
    · rw [List.take_of_length_le (by rw [nums_length, blkL_length]; omega)] at hown
      have hcv := own_conv (P := Tryd.prog) 26 9 hown Tryd.underlying26 Tryd.underlying5 Tryd.underlying9
      clear hown hi hz0 hz1 hz2
      go_wp2_with fail
      go_ret
      exact ⟨rfl, hbl⟩

set_option maxRecDepth 100000 in
set_option maxHeartbeats 4000000 in
theorem rturned_long (key : ByteArray) (c : Nat) (w : World) (hk : 64 < key.size) (hs : key.size ≤ 65536) (hc : c < 256) :
    Calls Tryd.prog 16 #[.string key, .int .u8 (c : Int)] w fun e w' => e = .returned (.string (turnB (bt (ofN (sumN key))) c)) ∧ Below w.heap.size w w' := by
  have HC : Hid (c < 256) := hc
  clear hc
  have g0 : decide ((64 : Int) < (key.size : Int)) = true := by simp; omega
  obtain ⟨i0, hi, hz0, hz1, hz2⟩ := info_parts Tryd.info5
  have C : Hid (∀ w, _) := fun w => rsum_any key w hs
  have hK := sumB_size key
  generalize ofN (sumN key) = K at *
  go_enter Tryd.func16, Tryd.ntmps16
  go_wp2_with fail
  refine (C.out _).mono ?_
  rintro e w1 ⟨rfl, A2⟩
  clear C
  go_wp2_with fail
  go_loopw [5, 6] (fun v i wr => ∃ k : Nat, k ≤ 64 ∧ i = .int .i64 k ∧ OwnV wr w.heap.size 5 .u8 v k ((nums (blkL (bt K) c)).take k) ∧ Below w.heap.size w wr) (fun _ i _ => 64 - (intOf i).toNat)
  case atStart => exact ⟨0, Nat.zero_le _, rfl, OwnV.nil _ _ _ _, A2⟩
  case round =>
    clear A2
    obtain ⟨k, hk, rfl, hown, hbl⟩ := hrel
    have hsz := hbl.size
    by_cases hlt : k < 64
    · have hkn : k < (nums (blkL (bt K) c)).length := by rw [nums_length, blkL_length]; exact hlt
      by_cases hin : k < K.size
      · have hxr : bits .xor .u8 (K[k].toNat : Int) (c : Int) = ((K[k].toNat ^^^ c : Nat) : Int) := u8_xor_nat _ _ (byte_lt _) HC.out
        have hy : Hid ((nums (blkL (bt K) c))[k] = ((K[k].toNat ^^^ c : Nat) : Int)) := by show _ = _; rw [bt_get K k hin]; exact blkL_get _ _ (bt_lt K) HC.out k hlt hkn
        go_wp2_with (at_builtin; refine wpList_app1 rfl _ _ 26 rfl w.heap.size 5 i0 .u8 1 Tryd.underlying26 hi hz0 hz1 hz2 wr u5 k _ rfl hown _ rfl (by omega) (by omega) hsz ?_)
        intro v' w1 hown1 hbl1
        rw [take_snoc_int _ _ hkn _ hy.out] at hown1
        have HB := hbl.trans hbl1
        clear hbl1 hown
        go_wp2_with fail
        go_roundw
        case rel => exact ⟨k + 1, by omega, by go_num, hown1, HB⟩
        case measure => simp [intOf]; omega
      · have hxr : bits .xor .u8 (0 : Int) (c : Int) = (c : Int) := by
          have := u8_xor_nat 0 c (by omega) HC.out
          rw [Nat.zero_xor] at this; exact this
        have hy : Hid ((nums (blkL (bt K) c))[k] = (c : Int)) := by show _ = _; rw [blkL_get _ _ (bt_lt K) HC.out k hlt hkn, bt_out K k (by omega), Nat.zero_xor]
        go_wp2_with (at_builtin; refine wpList_app1 rfl _ _ 26 rfl w.heap.size 5 i0 .u8 1 Tryd.underlying26 hi hz0 hz1 hz2 wr u5 k _ rfl hown _ rfl (by omega) (by omega) hsz ?_)
        intro v' w1 hown1 hbl1
        rw [take_snoc_int _ _ hkn _ hy.out] at hown1
        have HB := hbl.trans hbl1
        clear hbl1 hown
        go_wp2_with fail
        go_roundw
        case rel => exact ⟨k + 1, by omega, by go_num, hown1, HB⟩
        case measure => simp [intOf]; omega
    · rw [List.take_of_length_le (by rw [nums_length, blkL_length]; omega)] at hown
      have hcv := own_conv (P := Tryd.prog) 26 9 hown Tryd.underlying26 Tryd.underlying5 Tryd.underlying9
      clear hown hi hz0 hz1 hz2
      go_wp2_with fail
      go_ret
      exact ⟨rfl, hbl⟩

theorem rturned_any (key : ByteArray) (c : Nat) (w : World) (hs : key.size ≤ 65536) (hc : c < 256) :
    Calls Tryd.prog 16 #[.string key, .int .u8 (c : Int)] w fun e w' => e = .returned (.string (turnB (bt (keyOf key)) c)) ∧ Below w.heap.size w w' := by
  by_cases h : 64 < key.size
  · rw [keyOf_long key h]; exact rturned_long key c w h hs hc
  · rw [keyOf_short key (by omega)]; exact rturned_short key c w (by omega) hc

end Go.Proofs.YtfbgofbjbfidoaaDoor
