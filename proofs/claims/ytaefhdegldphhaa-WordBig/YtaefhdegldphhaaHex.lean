import Derived.Test.YtaefhdegldphhaaRUnhex
namespace Go.Proofs.Ytaefhdegldphhaa
open Go.RowKit

/-- The digits. -/
def digs : ByteArray := ⟨#[48, 49, 50, 51, 52, 53, 54, 55, 56, 57, 97, 98, 99, 100, 101, 102]⟩
def hexd (n : Nat) : Nat := bt digs n
/-- The digit at a place. -/
def hexPlace (s : ByteArray) (i : Nat) : Nat := if i % 2 = 0 then hexd (bt s (i / 2) / 16) else hexd (bt s (i / 2) % 16)
def hexL (s : ByteArray) : List UInt8 := bytesOf (2 * s.size) (hexPlace s)
def hexAt (s : ByteArray) (k : Nat) (i : Nat) : Int := if i < k then (hexPlace s i : Int) else 0
theorem hexAt_zero (s : ByteArray) (i : Nat) : hexAt s 0 i = 0 := by simp [hexAt]
theorem hexPlace_lt (s : ByteArray) (i : Nat) : hexPlace s i < 256 := by unfold hexPlace hexd; split <;> exact bt_lt _ _

theorem hexPlace_even (s : ByteArray) (k : Nat) : hexPlace s (2 * k) = hexd (bt s k / 16) := by
  unfold hexPlace; rw [if_pos (by omega), show 2 * k / 2 = k by omega]
theorem hexPlace_odd (s : ByteArray) (k : Nat) : hexPlace s (2 * k + 1) = hexd (bt s k % 16) := by
  unfold hexPlace; rw [if_neg (by omega), show (2 * k + 1) / 2 = k by omega]
theorem hexAt_set (s : ByteArray) (n j : Nat) : (tab n (hexAt s j)).set j (hexPlace s j : Int) = tab n (hexAt s (j + 1)) := by
  refine tab_set _ _ _ _ _ (by unfold hexAt; rw [if_pos (by omega)]) (fun i _ hne => ?_)
  unfold hexAt
  by_cases h : i < j
  · rw [if_pos h, if_pos (by omega)]
  · rw [if_neg h, if_neg (by omega)]
theorem hexAt_end (s : ByteArray) : tab (2 * s.size) (hexAt s (2 * s.size)) = nums (hexL s) := by
  unfold hexL
  rw [nums_bytesOf _ _ (fun i _ => hexPlace_lt s i)]
  exact tab_congr _ _ _ (fun i hi => by unfold hexAt; rw [if_pos hi])

set_option maxHeartbeats 400000 in
theorem hex_any (s : ByteArray) (w : World) (hs : s.size ≤ 1048576) :
    Calls Try.prog 28 #[.string s] w fun e w' => e = .returned (.string ⟨(hexL s).toArray⟩) ∧ Below w.heap.size w w' := by
  obtain ⟨i0, hi, hz0, hz1, hz2⟩ := info_parts Try.info5
  go_enter Try.func28, Try.ntmps28
  go_wp2_with (at_make; refine wpList_make_full _ rfl _ _ 43 rfl w.heap.size 5 i0 (.int .u8 0) 1 Try.underlying43 hi hz0 hz1 _ _ _ _ (2 * s.size) rfl rfl ?b4 ?b5 ?b1 ?b2 ?b3 ?_)
  case b1 => rw [hz2]; omega
  case b2 => unfold maxLen; omega
  case b3 => omega
  case b4 => omega
  case b5 => omega
  intro w1 hown0 hgrow
  have hown : Own w1 w.heap.size 5 .u8 w.heap.size (2 * s.size) (tab (2 * s.size) (hexAt s 0)) := Own.made' _ (fun i _ => hexAt_zero s i) hown0
  have hbl : Below w.heap.size w w1 := (Below.refl _ _).grown hgrow (Nat.le_refl _) (fun k hk => by cases hk)
  clear hown0 hgrow hi hz0 hz1 hz2
  go_wp2
  go_loopw [11] (fun i wr => ∃ k : Nat, k ≤ s.size ∧ i = .int .i64 k ∧ Own wr w.heap.size 5 .u8 w.heap.size (2 * s.size) (tab (2 * s.size) (hexAt s (2 * k))) ∧ Below w.heap.size w wr) (fun i _ => s.size - (intOf i).toNat)
  case atStart => exact ⟨0, Nat.zero_le _, rfl, hown, hbl⟩
  case round =>
    clear hown hbl
    obtain ⟨k, hk, rfl, hown, hbl⟩ := hrel
    by_cases hlt : k < s.size
    · have hb := byte_lt s[k]
      have hc := hown.cell (2 * k) (by omega)
      have hf := hown.free (2 * k)
      have hc1 := hown.cell (2 * k + 1) (by omega)
      have hf1 := hown.free (2 * k + 1)
      go_wp2
      go_roundw
      case rel =>
        simp only [bt_get]
        have HO := (hown.set (2 * k) (hexPlace s (2 * k) : Int)).set (2 * k + 1) (hexPlace s (2 * k + 1) : Int)
        rw [hexAt_set, hexAt_set] at HO
        have HB := (hbl.setCell (p := ⟨w.heap.size, 2 * k, none⟩) (Nat.le_refl _) (Value.int .u8 (hexPlace s (2 * k) : Int))).setCell (p := ⟨w.heap.size, 2 * k + 1, none⟩) (Nat.le_refl _) (Value.int .u8 (hexPlace s (2 * k + 1) : Int))
        rw [hexPlace_even, hexPlace_odd] at HO HB
        exact ⟨k + 1, by omega, by go_num, HO, HB⟩
      case measure => simp [intOf]; omega
    · have hk' : k = s.size := by omega
      subst hk'
      rw [hexAt_end] at hown
      have hcv := Own.conv (P := Try.prog) 43 9 hown Try.underlying43 Try.underlying5 Try.underlying9
      clear hown
      go_wp2
      go_ret
      exact ⟨rfl, hbl⟩

theorem hexL_len (s : ByteArray) : (nums (hexL s)).length = 2 * s.size := by rw [nums_length]; unfold hexL; rw [bytesOf_length]
theorem hexL_get (s : ByteArray) (i : Nat) (h : i < (nums (hexL s)).length) : (nums (hexL s))[i] = (hexPlace s i : Int) := by
  have hk : i < 2 * s.size := by rw [hexL_len] at h; exact h
  have e : nums (hexL s) = tab (2 * s.size) (fun i => (hexPlace s i : Int)) := nums_bytesOf _ _ (fun i _ => hexPlace_lt s i)
  simp only [e, tab_get _ _ i hk]

set_option maxHeartbeats 1000000 in
theorem rhex_any (s : ByteArray) (w : World) (hs : s.size ≤ 1048576) :
    Calls Try.prog 29 #[.string s] w fun e w' => e = .returned (.string ⟨(hexL s).toArray⟩) ∧ Below w.heap.size w w' := by
  obtain ⟨i0, hi, hz0, hz1, hz2⟩ := info_parts Try.info5
  go_enter Try.func29, Try.ntmps29
  go_wp2
  go_loopw [4, 5] (fun v i wr => ∃ k : Nat, k ≤ s.size ∧ i = .int .i64 k ∧ OwnV wr w.heap.size 5 .u8 v (2 * k) ((nums (hexL s)).take (2 * k)) ∧ Below w.heap.size w wr) (fun _ i _ => s.size - (intOf i).toNat)
  case atStart => exact ⟨0, Nat.zero_le _, rfl, OwnV.nil _ _ _ _, Below.refl _ _⟩
  case round =>
    obtain ⟨k, hk, rfl, hown, hbl⟩ := hrel
    by_cases hlt : k < s.size
    · have hb := byte_lt s[k]
      have hsz := hbl.size
      have hl := hexL_len s
      have HL : Hid ((nums (hexL s)).length = 2 * s.size) := hl
      clear hl
      go_wp2_with (at_builtin; refine wpList_app1 rfl (.tmp 12) (.tmp 19) 43 rfl w.heap.size 5 i0 .u8 1 Try.underlying43 hi hz0 hz1 hz2 wr u4 (2 * k) _ rfl hown _ rfl (by omega) (by omega) hsz ?_)
      intro v1 w1 hown1 hbl1
      simp only [bt_get] at hown1
      rw [take_snoc_int _ _ (by rw [HL.out]; omega) _ (by rw [hexL_get, hexPlace_even]; rfl)] at hown1
      have hbl2 := hbl.trans hbl1
      have hsz2 := hbl2.size
      clear hbl1 hown hbl hsz
      go_wp2_with (at_builtin; refine wpList_app1 rfl (.tmp 21) (.tmp 28) 43 rfl w.heap.size 5 i0 .u8 1 Try.underlying43 hi hz0 hz1 hz2 w1 v1 (2 * k + 1) _ rfl hown1 _ rfl (by omega) (by omega) hsz2 ?_)
      intro v2 w2 hown2 hbl3
      simp only [bt_get] at hown2
      rw [take_snoc_int _ _ (by rw [HL.out]; omega) _ (by rw [hexL_get, hexPlace_odd]; rfl)] at hown2
      have hbl4 := hbl2.trans hbl3
      clear hbl2 hown1 hsz2
      go_wp2
      go_roundw
      case rel => exact ⟨k + 1, by omega, by go_num, hown2, hbl4⟩
      case measure => simp [intOf]; omega
    · have hk' : k = s.size := by omega
      rw [List.take_of_length_le (by rw [hexL_len]; omega)] at hown
      have hcv := own_conv (P := Try.prog) 43 9 hown Try.underlying43 Try.underlying5 Try.underlying9
      clear hk' hown hi hz0 hz1 hz2
      go_wp2
      go_ret
      exact ⟨rfl, hbl⟩
end Go.Proofs.Ytaefhdegldphhaa
