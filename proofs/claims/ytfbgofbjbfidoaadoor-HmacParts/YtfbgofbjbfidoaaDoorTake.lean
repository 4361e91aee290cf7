import Derived.Test.YtfbgofbjbfidoaaDoorRUnhex
import Derived.Test.YtfbgofbjbfidoaaDoorRot
namespace Go.Proofs.YtfbgofbjbfidoaaDoor
open Go.RowKit

theorem Tryd.info3 : (Tryd.prog.info? 3).map (fun i => (i.zero, i.size, i.bytes)) = some (some (.int .i64 0), 1, 8) := by kernel_rfl

set_option maxHeartbeats 400000 in
theorem bigShift_any (i : Nat) (w : World) (hi : i ≤ 1048576) :
    Calls Tryd.prog 40 #[.int .i64 i] w fun e w' => e = .returned (.int .i64 ((24 - 8 * (i % 4) : Nat) : Int)) ∧ w' = w := by
  go_enter Tryd.func40, Tryd.ntmps40
  go_wp2
  go_ret
  refine ⟨?_, rfl⟩
  exact ret_int (by omega)

/-- A word of four bytes, the first one the highest. -/
def bigW (a b c d : Nat) : Nat := ((a * 2 ^ 24 ||| b * 2 ^ 16) ||| c * 2 ^ 8) ||| d
/-- The word at a place, of bytes that stand as far up as sh says, as far as k bytes are there. -/
def part (s : ByteArray) (sh : Nat → Nat) (k j : Nat) : Nat := if j < k then bt s j * 2 ^ sh j else 0
def wAt (s : ByteArray) (sh : Nat → Nat) (k i : Nat) : Nat := ((part s sh k (4 * i) ||| part s sh k (4 * i + 1)) ||| part s sh k (4 * i + 2)) ||| part s sh k (4 * i + 3)

theorem part_lt (s : ByteArray) (sh : Nat → Nat) (hsh : ∀ j, sh j ≤ 24) (k j : Nat) : part s sh k j < 2 ^ 32 := by
  unfold part
  split
  · have h1 := bt_lt s j
    have h2 : 2 ^ sh j ≤ 2 ^ 24 := Nat.pow_le_pow_right (by decide) (hsh j)
    have := Nat.mul_lt_mul_of_lt_of_le h1 h2 (by decide)
    exact this
  · decide
theorem wAt_lt (s : ByteArray) (sh : Nat → Nat) (hsh : ∀ j, sh j ≤ 24) (k i : Nat) : wAt s sh k i < 2 ^ 32 := by
  unfold wAt
  exact Nat.or_lt_two_pow (Nat.or_lt_two_pow (Nat.or_lt_two_pow (part_lt s sh hsh _ _) (part_lt s sh hsh _ _)) (part_lt s sh hsh _ _)) (part_lt s sh hsh _ _)
theorem wAt_zero (s : ByteArray) (sh : Nat → Nat) (i : Nat) : wAt s sh 0 i = 0 := by unfold wAt part; simp
theorem part_same (s : ByteArray) (sh : Nat → Nat) (k j : Nat) (h : j ≠ k) : part s sh (k + 1) j = part s sh k j := by
  unfold part
  by_cases h1 : j < k
  · rw [if_pos h1, if_pos (by omega)]
  · rw [if_neg h1, if_neg (by omega)]
theorem part_new (s : ByteArray) (sh : Nat → Nat) (k : Nat) : part s sh (k + 1) k = bt s k * 2 ^ sh k := by unfold part; rw [if_pos (by omega)]
theorem part_old (s : ByteArray) (sh : Nat → Nat) (k : Nat) : part s sh k k = 0 := by unfold part; rw [if_neg (by omega)]
theorem wAt_other (s : ByteArray) (sh : Nat → Nat) (k i : Nat) (h : i ≠ k / 4) : wAt s sh k i = wAt s sh (k + 1) i := by
  unfold wAt
  rw [part_same _ _ _ _ (by omega), part_same _ _ _ _ (by omega), part_same _ _ _ _ (by omega), part_same _ _ _ _ (by omega)]
theorem wAt_step (s : ByteArray) (sh : Nat → Nat) (k : Nat) : wAt s sh k (k / 4) ||| bt s k * 2 ^ sh k = wAt s sh (k + 1) (k / 4) := by
  unfold wAt
  rcases (show k % 4 = 0 ∨ k % 4 = 1 ∨ k % 4 = 2 ∨ k % 4 = 3 by omega) with h | h | h | h
  · rw [show 4 * (k / 4) = k by omega, part_new, part_old, part_same _ _ _ _ (by omega), part_same _ _ _ _ (by omega), part_same _ _ _ _ (by omega)]
    unfold part; rw [if_neg (by omega), if_neg (by omega), if_neg (by omega)]; simp
  · rw [show 4 * (k / 4) + 1 = k by omega, part_new, part_old, part_same _ _ _ _ (by omega), part_same _ _ _ _ (by omega), part_same _ _ _ _ (by omega)]
    unfold part; rw [if_neg (show ¬ 4 * (k / 4) + 2 < k by omega), if_neg (show ¬ 4 * (k / 4) + 3 < k by omega)]; simp
  · rw [show 4 * (k / 4) + 2 = k by omega, part_new, part_old, part_same _ _ _ _ (by omega), part_same _ _ _ _ (by omega), part_same _ _ _ _ (by omega)]
    unfold part; rw [if_neg (show ¬ 4 * (k / 4) + 3 < k by omega)]; simp
  · rw [show 4 * (k / 4) + 3 = k by omega, part_new, part_old, part_same _ _ _ _ (by omega), part_same _ _ _ _ (by omega), part_same _ _ _ _ (by omega)]
    simp

theorem take_bits (s : ByteArray) (sh : Nat → Nat) (hsh : ∀ j, sh j ≤ 24) (k : Nat) (h : k < s.size) :
    bits .or .i64 ((wAt s sh k (k / 4) : Nat) : Int) (wrap64 (wrap64 (s[k].toNat : Int) * 2 ^ sh k)) = ((wAt s sh (k + 1) (k / 4) : Nat) : Int) := by
  rw [show wrap64 (s[k].toNat : Int) = (s[k].toNat : Int) by have := byte_lt s[k]; unfold wrap64; omega]
  rw [bt_get s k h]
  have h1 := bt_lt s k
  have h2 : 2 ^ sh k ≤ 16777216 := Nat.le_trans (Nat.pow_le_pow_right (by decide) (hsh k)) (by decide)
  have hm : bt s k * 2 ^ sh k < 4294967296 := by
    have := Nat.mul_le_mul (show bt s k ≤ 255 by omega) h2
    omega
  have e1 : wrap64 ((bt s k : Int) * 2 ^ sh k) = ((bt s k * 2 ^ sh k : Nat) : Int) := by
    have e0 : ((bt s k : Int) * 2 ^ sh k) = ((bt s k * 2 ^ sh k : Nat) : Int) := by simp
    rw [e0]
    generalize bt s k * 2 ^ sh k = z at *
    unfold wrap64
    omega
  have hw : wAt s sh k (k / 4) < 4294967296 := wAt_lt s sh hsh k (k / 4)
  rw [e1, i64_or_nat _ _ (by omega) (by omega), wAt_step]

def bsh (j : Nat) : Nat := 24 - 8 * (j % 4)
def ssh (j : Nat) : Nat := 8 * (j % 4)
theorem bsh_le (j : Nat) : bsh j ≤ 24 := by unfold bsh; omega
theorem ssh_le (j : Nat) : ssh j ≤ 24 := by unfold ssh; omega
/-- The words of bytes. -/
def wordsL (s : ByteArray) (sh : Nat → Nat) : List Int := tab (s.size / 4) (fun i => (wAt s sh s.size i : Int))

set_option maxHeartbeats 400000 in
theorem take_odd (s : ByteArray) (f : Value) (w : World) (hs : s.size ≤ 1048576) (h : ¬ s.size % 4 = 0) :
    Calls Tryd.prog 53 #[.string s, f] w fun e w' => e = .returned (.tuple #[.slice none 0 0, .int .i64 1]) ∧ Below w.heap.size w w' := by
  have hn : ((((s.size : Int) % 4) != 0)) = true := by rw [bne_iff_ne]; omega
  go_enter Tryd.func53, Tryd.ntmps53
  go_wp2
  go_ret2
  exact ⟨rfl, Below.refl _ _⟩

set_option maxHeartbeats 2000000 in
theorem take_big (s : ByteArray) (w : World) (hs : s.size ≤ 1048576) (h : s.size % 4 = 0) :
    Calls Tryd.prog 53 #[.string s, .func (Fn.func 40) #[] #[]] w fun e w' => e = .returned (.tuple #[.slice (some ⟨w.heap.size, 0, none⟩) (s.size / 4) (s.size / 4), .int .i64 0]) ∧
      Own w' w.heap.size 3 .i64 w.heap.size (s.size / 4) (wordsL s bsh) ∧ Below w.heap.size w w' := by
  have hn : ((((s.size : Int) % 4) != 0)) = false := by rw [bne_eq_false_iff_eq]; omega
  obtain ⟨i0, hi, hz0, hz1, hz2⟩ := info_parts Tryd.info3
  go_enter Tryd.func53, Tryd.ntmps53
  go_wp2_with (at_make; refine wpList_make_full _ rfl _ _ 47 rfl w.heap.size 3 i0 (.int .i64 0) 1 Tryd.underlying47 hi hz0 hz1 _ _ _ _ (s.size / 4) rfl rfl ?b4 ?b5 ?b1 ?b2 ?b3 ?_)
  case b1 => rw [hz2]; omega
  case b2 => unfold maxLen; omega
  case b3 => omega
  case b4 => omega
  case b5 => omega
  intro w1 hown0 hgrow
  have hown : Own w1 w.heap.size 3 .i64 w.heap.size (s.size / 4) (tab (s.size / 4) (fun i => (wAt s bsh 0 i : Int))) := Own.made' _ (fun i _ => by rw [wAt_zero]; rfl) hown0
  have hbl : Below w.heap.size w w1 := (Below.refl _ _).grown hgrow (Nat.le_refl _) (fun k hk => by cases hk)
  clear hown0 hgrow hi hz0 hz1 hz2
  go_wp2
  go_loopw [18] (fun i wr => ∃ k : Nat, k ≤ s.size ∧ i = .int .i64 k ∧ Own wr w.heap.size 3 .i64 w.heap.size (s.size / 4) (tab (s.size / 4) (fun i => (wAt s bsh k i : Int))) ∧ Below w.heap.size w wr) (fun i _ => s.size - (intOf i).toNat)
  case atStart => exact ⟨0, Nat.zero_le _, rfl, hown, hbl⟩
  case round =>
    clear hown hbl
    obtain ⟨k, hk, rfl, hown, hbl⟩ := hrel
    by_cases hlt : k < s.size
    · have hc := hown.cell (k / 4) (by omega)
      rw [tab_getD _ _ _ (by omega)] at hc
      have hf := hown.free (k / 4)
      have hq0 : (0 : Int) ≤ (k : Int) / 4 := by omega
      have hq1 : (k : Int) / 4 < (s.size : Int) / 4 := by omega
      have hq2 : IntKind.i64.wrap ((k : Int) / 4) = (k : Int) / 4 := wrap_nat (k / 4) (by omega)
      have hq4 : ((k : Int) / 4).toNat = k / 4 := by omega
      go_wp2
      go_region_with (go_at_call 40; refine (bigShift_any k _ (by omega)).mono ?_; rintro e w' ⟨rfl, rfl⟩)
      all_goals
        have HO := hown.set (k / 4) ((wAt s bsh (k + 1) (k / 4) : Nat) : Int)
        rw [tab_set _ _ (fun i => (wAt s bsh (k + 1) i : Int)) _ _ rfl (fun i _ hne => by rw [wAt_other s bsh k i hne])] at HO
        have HB := hbl.setCell (p := ⟨w.heap.size, k / 4, none⟩) (Nat.le_refl _) (Value.int .i64 ((wAt s bsh (k + 1) (k / 4) : Nat) : Int))
        have TB : Hid (bits .or .i64 ((wAt s bsh k (k / 4) : Nat) : Int) (wrap64 (wrap64 (s[k].toNat : Int) * 2 ^ (24 - 8 * (k % 4)))) = ((wAt s bsh (k + 1) (k / 4) : Nat) : Int)) := take_bits s bsh bsh_le k hlt
        go_wp2
        go_roundw
        case rel =>
          rw [TB.out]
          exact ⟨k + 1, by omega, by go_num, HO, HB.drew⟩
        case measure => simp [intOf]; omega
    · have hk' : k = s.size := by omega
      subst hk'
      go_wp2
      go_ret2
      exact ⟨rfl, hown, hbl⟩

end Go.Proofs.YtfbgofbjbfidoaaDoor
