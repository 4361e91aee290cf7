import Derived.Test.YtaefhdegldphhaaRows
import Derived.WalkKit
import Derived.WalkSpells
import Derived.WalkLawsBesides
import Derived.Deep.QuietTactic
import Derived.BigQuiet
import Derived.Deep.RegionHeld3
import Derived.Deep.AppendLies
import Derived.Test.YtaefhdegldphhaaDigit
import Derived.Test.YtaefhdegldphhaaXor
namespace Go.Proofs.Ytaefhdegldphhaa
open Go.RowKit

/-- The byte at a place, as a number. -/
def bt (s : ByteArray) (j : Nat) : Nat := (s.data.toList.getD j 0).toNat
theorem bt_get (s : ByteArray) (k : Nat) (h : k < s.size) : s[k].toNat = bt s k := by
  unfold bt
  have : s.data.toList.getD k 0 = s[k] := by
    simp [List.getD, List.getElem?_eq_getElem (show k < s.data.toList.length by simpa using h)]; rfl
  rw [this]
theorem bt_lt (s : ByteArray) (k : Nat) : bt s k < 256 := byte_lt _

def hexOk (s : ByteArray) : Bool := decide (s.size % 2 = 0) && (List.range s.size).all (fun j => isDig (bt s j))
/-- The byte of two digits. -/
def hexByte (s : ByteArray) (i : Nat) : Nat := 16 * digVal (bt s (2 * i)) + digVal (bt s (2 * i + 1))
theorem hexByte_lt (s : ByteArray) (i : Nat) : hexByte s i < 256 := by
  have h1 := digVal_lt (bt s (2 * i)); have h2 := digVal_lt (bt s (2 * i + 1)); unfold hexByte; omega
def unhexL (s : ByteArray) : List UInt8 := bytesOf (s.size / 2) (hexByte s)
def unhexR (s : ByteArray) : Value := if hexOk s then .tuple #[.string ⟨(unhexL s).toArray⟩, .int .i64 0] else .tuple #[.string ⟨#[]⟩, .int .i64 1]
theorem unhexR_odd (s : ByteArray) (h : ¬ s.size % 2 = 0) : unhexR s = .tuple #[.string ⟨#[]⟩, .int .i64 1] := by
  unfold unhexR hexOk; simp [h]
theorem unhexR_no (s : ByteArray) (k : Nat) (h : k < s.size) (hd : isDig (bt s k) = false) : unhexR s = .tuple #[.string ⟨#[]⟩, .int .i64 1] := by
  unfold unhexR
  rw [if_neg]
  unfold hexOk
  simp
  intro _
  exact ⟨k, h, hd⟩
theorem unhexR_yes (s : ByteArray) (h : s.size % 2 = 0) (hd : ∀ j, j < s.size → isDig (bt s j) = true) : unhexR s = .tuple #[.string ⟨(unhexL s).toArray⟩, .int .i64 0] := by
  unfold unhexR
  rw [if_pos]
  unfold hexOk
  simp [h]
  exact hd

/-- word.Unhex's row behind k rounds. -/
def unAt (s : ByteArray) (k : Nat) (i : Nat) : Int :=
  if 2 * i + 1 < k then (hexByte s i : Int) else if 2 * i < k then (digVal (bt s (2 * i)) : Int) else 0
theorem unAt_zero (s : ByteArray) (i : Nat) : unAt s 0 i = 0 := by simp [unAt]

theorem or16 (a d : Nat) (ha : a < 16) (hd : d < 16) : bits .or .u8 ((a : Int) * 16 % 256) (d : Int) = ((16 * a + d : Nat) : Int) := by
  have e : ((a : Int) * 16 % 256) = ((16 * a : Nat) : Int) := by omega
  rw [e, u8_or_nat _ _ (by omega) (by omega), nat_join 4 (16 * a) d (by omega) (by omega)]
theorem unAt_step (s : ByteArray) (k : Nat) (h : k < s.size) : bits .or .u8 (unAt s k (k / 2) * 16 % 256) (digVal s[k].toNat : Int) = unAt s (k + 1) (k / 2) := by
  rw [bt_get s k h]
  by_cases e : k % 2 = 0
  · have h0 : unAt s k (k / 2) = ((0 : Nat) : Int) := by unfold unAt; rw [if_neg (by omega), if_neg (by omega)]; rfl
    rw [h0, or16 0 _ (by omega) (digVal_lt _)]
    unfold unAt; rw [if_neg (by omega), if_pos (by omega), show 2 * (k / 2) = k by omega]; simp
  · have h0 : unAt s k (k / 2) = (digVal (bt s (2 * (k / 2))) : Int) := by unfold unAt; rw [if_neg (by omega), if_pos (by omega)]
    rw [h0, or16 _ _ (digVal_lt _) (digVal_lt _)]
    unfold unAt; rw [if_pos (by omega)]; unfold hexByte; rw [show 2 * (k / 2) + 1 = k by omega]
theorem unAt_other (s : ByteArray) (k i : Nat) (h : i ≠ k / 2) : unAt s k i = unAt s (k + 1) i := by
  unfold unAt
  by_cases h1 : 2 * i + 1 < k
  · rw [if_pos h1, if_pos (by omega)]
  · rw [if_neg h1, if_neg (by omega), if_neg (by omega), if_neg (by omega)]
theorem unAt_end (s : ByteArray) (h : s.size % 2 = 0) : tab (s.size / 2) (unAt s s.size) = nums (unhexL s) := by
  unfold unhexL
  rw [nums_bytesOf _ _ (fun i _ => hexByte_lt s i)]
  exact tab_congr _ _ _ (fun i hi => by unfold unAt; rw [if_pos (by omega)])

set_option maxHeartbeats 400000 in
theorem unhex_odd (s : ByteArray) (w : World) (hs : s.size ≤ 1048576) (h : ¬ s.size % 2 = 0) :
    Calls Try.prog 26 #[.string s] w fun e w' => e = .returned (unhexR s) ∧ Below w.heap.size w w' := by
  rw [unhexR_odd s h]
  have hn : ((((s.size : Int) % 2) != 0)) = true := by rw [bne_iff_ne]; omega
  go_enter Try.func26, Try.ntmps26
  go_wp2
  go_ret2
  exact ⟨rfl, Below.refl _ _⟩

set_option maxHeartbeats 400000 in
theorem unhex_even (s : ByteArray) (w : World) (hs : s.size ≤ 1048576) (h : s.size % 2 = 0) :
    Calls Try.prog 26 #[.string s] w fun e w' => e = .returned (unhexR s) ∧ Below w.heap.size w w' := by
  have hn : ((((s.size : Int) % 2) != 0)) = false := by rw [bne_eq_false_iff_eq]; omega
  obtain ⟨i0, hi, hz0, hz1, hz2⟩ := info_parts Try.info5
  go_enter Try.func26, Try.ntmps26
  go_wp2_with (at_make; refine wpList_make_full _ rfl _ _ 43 rfl w.heap.size 5 i0 (.int .u8 0) 1 Try.underlying43 hi hz0 hz1 _ _ _ _ (s.size / 2) rfl rfl ?b4 ?b5 ?b1 ?b2 ?b3 ?_)
  case b1 => rw [hz2]; omega
  case b2 => unfold maxLen; omega
  case b3 => omega
  case b4 => omega
  case b5 => omega
  intro w1 hown0 hgrow
  have hown : Own w1 w.heap.size 5 .u8 w.heap.size (s.size / 2) (tab (s.size / 2) (unAt s 0)) := Own.made' _ (fun i _ => unAt_zero s i) hown0
  have hbl : Below w.heap.size w w1 := (Below.refl _ _).grown hgrow (Nat.le_refl _) (fun k hk => by cases hk)
  clear hown0 hgrow hi hz0 hz1 hz2
  go_wp2
  go_loopw [18] (fun i wr => ∃ k : Nat, k ≤ s.size ∧ i = .int .i64 k ∧ (∀ j, j < k → isDig (bt s j) = true) ∧ Own wr w.heap.size 5 .u8 w.heap.size (s.size / 2) (tab (s.size / 2) (unAt s k)) ∧ Below w.heap.size w wr) (fun i _ => s.size - (intOf i).toNat)
  case atStart => exact ⟨0, Nat.zero_le _, rfl, (fun j hj => absurd hj (Nat.not_lt_zero _)), hown, hbl⟩
  case round =>
    clear hown hbl
    obtain ⟨k, hk, rfl, hall, hown, hbl⟩ := hrel
    by_cases hlt : k < s.size
    · by_cases hd : isDig s[k].toNat = true
      · have hc := hown.cell (k / 2) (by omega)
        rw [tab_getD _ _ _ (by omega)] at hc
        have hf := hown.free (k / 2)
        have Hall : Hid (∀ j, j < k → isDig (bt s j) = true) := hall
        clear hall
        go_wp2_with (go_at_call 36; refine (digit_any s[k].toNat _ (byte_lt _)).mono ?_; rintro e w' ⟨rfl, rfl⟩)
        have HB := hbl.setCell (p := ⟨w.heap.size, k / 2, none⟩) (Nat.le_refl _) (Value.int .u8 (bits .or .u8 (unAt s k (k / 2) * 16 % 256) (digVal s[k].toNat : Int)))
        have HO := hown.set (k / 2) (bits .or .u8 (unAt s k (k / 2) * 16 % 256) (digVal s[k].toNat : Int))
        rw [tab_set _ _ (unAt s (k + 1)) _ _ (unAt_step s k hlt).symm (fun i _ hne => unAt_other s k i hne)] at HO
        go_roundw
        case rel =>
          refine ⟨k + 1, by omega, by go_num, fun j hj => ?_, HO, HB⟩
          by_cases e : j = k
          · rw [e, ← bt_get s k hlt]; exact hd
          · exact Hall.out j (by omega)
        case measure => simp [intOf]; omega
      · have hd' : isDig s[k].toNat = false := by simpa using hd
        have HR : Hid (unhexR s = _) := unhexR_no s k hlt (by rw [← bt_get s k hlt]; exact hd')
        clear hall hown hd
        go_wp2_with (go_at_call 36; refine (digit_any s[k].toNat _ (byte_lt _)).mono ?_; rintro e w' ⟨rfl, rfl⟩)
        go_ret2
        exact ⟨by rw [HR.out]; rfl, hbl⟩
    · have hk' : k = s.size := by omega
      subst hk'
      have HR : Hid (unhexR s = _) := unhexR_yes s h hall
      rw [unAt_end s h] at hown
      have hcv := Own.conv (P := Try.prog) 43 9 hown Try.underlying43 Try.underlying5 Try.underlying9
      clear hall hown
      go_wp2
      go_ret2
      exact ⟨by rw [HR.out]; rfl, hbl⟩

/-- word.Unhex: the bytes of digits, or that they are none. -/
theorem unhex_any (s : ByteArray) (w : World) (hs : s.size ≤ 1048576) :
    Calls Try.prog 26 #[.string s] w fun e w' => e = .returned (unhexR s) ∧ Below w.heap.size w w' := by
  by_cases h : s.size % 2 = 0
  · exact unhex_even s w hs h
  · exact unhex_odd s w hs h
end Go.Proofs.Ytaefhdegldphhaa
