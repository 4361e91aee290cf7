import Derived.Test.YtaefhdegldphhaaRPut
namespace Go.Proofs.Ytaefhdegldphhaa
open Go.RowKit

/-- Bytes, four by four the other way round. -/
def tp (s : ByteArray) (j : Nat) : Nat := bt s (4 * (j / 4) + (3 - j % 4))
def turnL (s : ByteArray) : List UInt8 := bytesOf (4 * (s.size / 4)) (tp s)
theorem tp_lt (s : ByteArray) (j : Nat) : tp s j < 256 := bt_lt _ _
theorem turnL_len (s : ByteArray) : (nums (turnL s)).length = 4 * (s.size / 4) := by rw [nums_length]; unfold turnL; rw [bytesOf_length]
theorem turnL_get (s : ByteArray) (j : Nat) (h : j < (nums (turnL s)).length) : (nums (turnL s))[j] = ((tp s j : Nat) : Int) := by
  have hk : j < 4 * (s.size / 4) := by rw [turnL_len] at h; exact h
  have e : nums (turnL s) = tab (4 * (s.size / 4)) (fun i => (tp s i : Int)) := nums_bytesOf _ _ (fun i _ => tp_lt s i)
  simp only [e, tab_get _ _ j hk]
theorem tp0 (s : ByteArray) (k : Nat) : tp s (4 * k) = bt s (4 * k + 3) := by unfold tp; rw [show 4 * (4 * k / 4) + (3 - 4 * k % 4) = 4 * k + 3 by omega]
theorem tp1 (s : ByteArray) (k : Nat) : tp s (4 * k + 1) = bt s (4 * k + 2) := by unfold tp; rw [show 4 * ((4 * k + 1) / 4) + (3 - (4 * k + 1) % 4) = 4 * k + 2 by omega]
theorem tp2 (s : ByteArray) (k : Nat) : tp s (4 * k + 2) = bt s (4 * k + 1) := by unfold tp; rw [show 4 * ((4 * k + 2) / 4) + (3 - (4 * k + 2) % 4) = 4 * k + 1 by omega]
theorem tp3 (s : ByteArray) (k : Nat) : tp s (4 * k + 3) = bt s (4 * k) := by unfold tp; rw [show 4 * ((4 * k + 3) / 4) + (3 - (4 * k + 3) % 4) = 4 * k by omega]

set_option maxHeartbeats 2000000 in
theorem turned_any (s : ByteArray) (w : World) (hs : s.size ≤ 1048576) :
    Calls Try.prog 35 #[.string s] w fun e w' => e = .returned (.string ⟨(turnL s).toArray⟩) ∧ Below w.heap.size w w' := by
  have HL : Hid ((nums (turnL s)).length = 4 * (s.size / 4)) := turnL_len s
  obtain ⟨i0, hi, hz0, hz1, hz2⟩ := info_parts Try.info5
  go_enter Try.func35, Try.ntmps35
  go_wp2
  go_loopw [3, 4] (fun v i wr => ∃ k j : Nat, j ≤ s.size ∧ i = .int .i64 j ∧ Hid (j = 4 * k) ∧ OwnV wr w.heap.size 5 .u8 v (4 * k) ((nums (turnL s)).take (4 * k)) ∧ Below w.heap.size w wr) (fun _ i _ => s.size - (intOf i).toNat)
  case atStart => exact ⟨0, 0, Nat.zero_le _, rfl, rfl, OwnV.nil _ _ _ _, Below.refl _ _⟩
  case round =>
    obtain ⟨k, j, hj, rfl, HJ, hown, hbl⟩ := hrel
    have hkb : k ≤ 1048576 := by have := HJ.out; omega
    by_cases hlt : j + 3 < s.size
    · have hlt0 : j < s.size := by omega
      have hlt1 : j + 1 < s.size := by omega
      have hlt2 : j + 2 < s.size := by omega
      have he2 : ((j : Int) + 2).toNat = j + 2 := by omega
      have he3 : ((j : Int) + 3).toNat = j + 3 := by omega
      have P0 : Hid (((tp s (4 * k) : Nat) : Int) = ((bt s (j + 3) : Nat) : Int)) := by show _ = _; rw [tp0, HJ.out]
      have P1 : Hid (((tp s (4 * k + 1) : Nat) : Int) = ((bt s (j + 2) : Nat) : Int)) := by show _ = _; rw [tp1, HJ.out]
      have P2 : Hid (((tp s (4 * k + 2) : Nat) : Int) = ((bt s (j + 1) : Nat) : Int)) := by show _ = _; rw [tp2, HJ.out]
      have P3 : Hid (((tp s (4 * k + 3) : Nat) : Int) = ((bt s j : Nat) : Int)) := by show _ = _; rw [tp3, HJ.out]
      have hsz := hbl.size
      go_wp2_with (at_builtin; refine wpList_app1 rfl (.tmp 12) (.tmp 17) 43 rfl w.heap.size 5 i0 .u8 1 Try.underlying43 hi hz0 hz1 hz2 wr u3 (4 * k) _ rfl hown _ rfl (by omega) (by omega) hsz ?_)
      intro v1 w1 hown1 hbx
      simp only [bt_get] at hown1
      rw [take_snoc_int _ _ (by rw [HL.out]; have := HJ.out; omega) _ (by rw [turnL_get]; exact P0.out)] at hown1
      have hbl1 := hbl.trans hbx
      have hsz1 := hbl1.size
      clear hbx hown hbl hsz
      go_wp2_with (at_builtin; refine wpList_app1 rfl (.tmp 19) (.tmp 24) 43 rfl w.heap.size 5 i0 .u8 1 Try.underlying43 hi hz0 hz1 hz2 w1 v1 (4 * k + 1) _ rfl hown1 _ rfl (by omega) (by omega) hsz1 ?_)
      intro v2 w2 hown2 hbx
      simp only [bt_get] at hown2
      rw [take_snoc_int _ _ (by rw [HL.out]; have := HJ.out; omega) _ (by rw [turnL_get]; exact P1.out)] at hown2
      have hbl2 := hbl1.trans hbx
      have hsz2 := hbl2.size
      clear hbx hown1 hbl1 hsz1
      go_wp2_with (at_builtin; refine wpList_app1 rfl (.tmp 26) (.tmp 31) 43 rfl w.heap.size 5 i0 .u8 1 Try.underlying43 hi hz0 hz1 hz2 w2 v2 (4 * k + 2) _ rfl hown2 _ rfl (by omega) (by omega) hsz2 ?_)
      intro v3 w3 hown3 hbx
      simp only [bt_get] at hown3
      rw [take_snoc_int _ _ (by rw [HL.out]; have := HJ.out; omega) _ (by rw [turnL_get]; exact P2.out)] at hown3
      have hbl3 := hbl2.trans hbx
      have hsz3 := hbl3.size
      clear hbx hown2 hbl2 hsz2
      go_wp2_with (at_builtin; refine wpList_app1 rfl (.tmp 33) (.tmp 37) 43 rfl w.heap.size 5 i0 .u8 1 Try.underlying43 hi hz0 hz1 hz2 w3 v3 (4 * k + 3) _ rfl hown3 _ rfl (by omega) (by omega) hsz3 ?_)
      intro v4 w4 hown4 hbx
      simp only [bt_get] at hown4
      rw [take_snoc_int _ _ (by rw [HL.out]; have := HJ.out; omega) _ (by rw [turnL_get]; exact P3.out)] at hown4
      have hbl4 := hbl3.trans hbx
      have hsz4 := hbl4.size
      clear hbx hown3 hbl3 hsz3
      go_wp2
      go_roundw
      case rel =>
        refine ⟨k + 1, j + 4, by omega, by go_num, ?_, hown4, hbl4⟩
        have := HJ.out; show j + 4 = 4 * (k + 1); omega
      case measure => simp [intOf]; omega
    · have hJ := HJ.out
      have hk' : k = s.size / 4 := by omega
      rw [List.take_of_length_le (by rw [HL.out]; omega)] at hown
      have hcv := own_conv (P := Try.prog) 43 9 hown Try.underlying43 Try.underlying5 Try.underlying9
      clear hk' hown hi hz0 hz1 hz2 hJ
      go_wp2
      go_ret
      exact ⟨rfl, hbl⟩

theorem turn_size (s : ByteArray) : (⟨(turnL s).toArray⟩ : ByteArray).size = 4 * (s.size / 4) := by
  show (turnL s).toArray.size = _
  rw [List.size_toArray]; unfold turnL; rw [bytesOf_length]
theorem turn_bt (s : ByteArray) (j : Nat) (h : j < 4 * (s.size / 4)) : bt ⟨(turnL s).toArray⟩ j = tp s j := by
  rw [bt_mk]
  unfold turnL bytesOf
  simp [List.getD, List.getElem?_map, List.getElem?_range h, Nat.mod_eq_of_lt (tp_lt s j)]
theorem turn_words (s : ByteArray) (h : s.size % 4 = 0) : wordsL ⟨(turnL s).toArray⟩ bsh = wordsL s ssh := by
  have e : (⟨(turnL s).toArray⟩ : ByteArray).size = s.size := by rw [turn_size]; omega
  have e2 : wordsL ⟨(turnL s).toArray⟩ bsh = tab (s.size / 4) (fun i => ((wAt ⟨(turnL s).toArray⟩ bsh (⟨(turnL s).toArray⟩ : ByteArray).size i : Nat) : Int)) := by
    unfold wordsL; rw [e]
  rw [e2]
  unfold wordsL
  refine tab_congr _ _ _ (fun i hi => ?_)
  rw [wAt_big _ i (by rw [e]; omega), wAt_small s i (by omega)]
  rw [turn_bt s _ (by omega), turn_bt s _ (by omega), turn_bt s _ (by omega), turn_bt s _ (by omega), tp0, tp1, tp2, tp3]
theorem turn_put (l : List Int) : (⟨(turnL ⟨(putL l bsh).toArray⟩).toArray⟩ : ByteArray) = ⟨(putL l ssh).toArray⟩ := by
  have hs : (⟨(putL l bsh).toArray⟩ : ByteArray).size = 4 * l.length := by
    show (putL l bsh).toArray.size = _; rw [List.size_toArray, putL_length]
  have hs' : (⟨(putL l ssh).toArray⟩ : ByteArray).size = 4 * l.length := by
    show (putL l ssh).toArray.size = _; rw [List.size_toArray, putL_length]
  apply bytes_eq
  · unfold turnL; rw [bytesOf_length, hs, hs']; omega
  · intro j hj
    rw [hs'] at hj
    rw [← bt_mk, turn_bt _ j (by rw [hs]; omega), putL_bt l ssh j hj]
    unfold tp
    rw [putL_bt l bsh _ (by omega)]
    unfold pb
    rw [show (4 * (j / 4) + (3 - j % 4)) / 4 = j / 4 by omega, show bsh (4 * (j / 4) + (3 - j % 4)) = ssh j by unfold bsh ssh; omega]

set_option maxHeartbeats 400000 in
theorem rsmall_odd (s : ByteArray) (w : World) (hs : s.size ≤ 1048576) (h : ¬ s.size % 4 = 0) :
    Calls Try.prog 19 #[.string s] w fun e w' => e = .returned (.tuple #[.slice none 0 0, .int .i64 1]) ∧ Below w.heap.size w w' := by
  have hn : ((((s.size : Int) % 4) != 0)) = true := by rw [bne_iff_ne]; omega
  go_enter Try.func19, Try.ntmps19
  go_wp2
  go_ret2
  exact ⟨rfl, Below.refl _ _⟩

set_option maxHeartbeats 400000 in
theorem rsmall_even (s : ByteArray) (w : World) (hs : s.size ≤ 1048576) (h : s.size % 4 = 0) :
    Calls Try.prog 19 #[.string s] w fun e w' => ∃ a c, e = .returned (.tuple #[.slice a (s.size / 4) c, .int .i64 0]) ∧
      IntsAt w' .i64 a (s.size / 4) (wordsL s ssh) ∧ Below w.heap.size w w' := by
  have hn : ((((s.size : Int) % 4) != 0)) = false := by rw [bne_eq_false_iff_eq]; omega
  have hsz := turn_size s
  have c2 := fun w => rbig_even ⟨(turnL s).toArray⟩ w (by rw [hsz]; omega) (by rw [hsz]; omega)
  rw [turn_words s h, hsz, show 4 * (s.size / 4) / 4 = s.size / 4 by omega] at c2
  have C2 : Hid (∀ w, _) := c2
  clear c2 hsz
  go_enter Try.func19, Try.ntmps19
  go_wp2_with fail
  refine (turned_any s _ hs).mono ?_
  rintro e w1 ⟨rfl, hb1⟩
  go_wp2_with fail
  refine (C2.out _).mono ?_
  rintro e w2 ⟨a, c, rfl, hI, hb2⟩
  have HI : Hid (IntsAt w2 _ _ _ _) := hI
  clear hI
  go_wp2_with fail
  go_ret2
  exact ⟨a, c, rfl, HI.out, below_step hb1 (Nat.le_refl _) hb2⟩

set_option maxHeartbeats 400000 in
theorem rputSmall_any (a : Option Addr) (n c : Nat) (l : List Int) (w : World) (hn : n ≤ 262144) (hI : IntsAt w .i64 a n l) :
    Calls Try.prog 21 #[.slice a n c] w fun e w' => e = .returned (.string ⟨(putL l ssh).toArray⟩) ∧ Below w.heap.size w w' := by
  have HI : Hid (IntsAt w .i64 a n l) := hI
  have c2 := fun w => turned_any ⟨(putL l bsh).toArray⟩ w (by show (putL l bsh).toArray.size ≤ _; rw [List.size_toArray, putL_length, hI.1]; omega)
  rw [turn_put l] at c2
  have C2 : Hid (∀ w, _) := c2
  clear c2 hI
  go_enter Try.func21, Try.ntmps21
  go_wp2_with fail
  refine (rputBig_any a n c l _ hn HI.out).mono ?_
  rintro e w1 ⟨rfl, hb1⟩
  go_wp2_with fail
  refine (C2.out _).mono ?_
  rintro e w2 ⟨rfl, hb2⟩
  go_wp2_with fail
  go_ret
  exact ⟨rfl, below_step hb1 (Nat.le_refl _) hb2⟩
end Go.Proofs.Ytaefhdegldphhaa
