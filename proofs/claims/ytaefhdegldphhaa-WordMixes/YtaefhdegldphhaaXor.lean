import Derived.Test.YtaefhdegldphhaaRows
import Derived.WalkKit
import Derived.WalkSpells
import Derived.WalkLawsBesides
import Derived.Deep.QuietTactic
import Derived.BigQuiet
import Derived.Deep.RegionHeld3
import Derived.Deep.AppendLies
import Derived.Test.YtaefhdegldphhaaBuf
namespace Go.Proofs.Ytaefhdegldphhaa
open Go.RowKit

theorem Try.info5 : (Try.prog.info? 5).map (fun i => (i.zero, i.size, i.bytes)) = some (some (.int .u8 0), 1, 1) := by kernel_rfl

/-- Two texts, turned into one another. -/
def xorL (a b : ByteArray) : List UInt8 := List.zipWith (· ^^^ ·) a.data.toList b.data.toList
theorem xorL_length (a b : ByteArray) (h : b.size = a.size) : (xorL a b).length = a.size := by simp [xorL, h]
theorem xorL_get (a b : ByteArray) (k : Nat) (ha : k < a.size) (hb : k < b.size) (h : k < (xorL a b).length) : (xorL a b)[k] = a[k] ^^^ b[k] := by
  simp [xorL]; rfl

set_option maxHeartbeats 400000 in
theorem xor_len (a b : ByteArray) (w : World) (ha : a.size ≤ 1048576) (h : b.size = a.size) :
    Calls Try.prog 23 #[.string a, .string b] w fun e w' => e = .returned (.tuple #[.string ⟨(xorL a b).toArray⟩, .int .i64 0]) ∧ Below w.heap.size w w' := by
  have hl := xorL_length a b h
  obtain ⟨i0, hi, hz0, hz1, hz2⟩ := info_parts Try.info5
  go_enter Try.func23, Try.ntmps23
  go_wp2_with (at_make; refine wpList_make_full _ rfl _ _ 43 rfl w.heap.size 5 i0 (.int .u8 0) 1 Try.underlying43 hi hz0 hz1 _ _ _ _ a.size rfl rfl rfl rfl ?b1 ?b2 ?b3 ?_)
  case b1 => rw [hz2]; omega
  case b2 => unfold maxLen; omega
  case b3 => omega
  intro w1 hown0 hgrow
  have hown : Own w1 w.heap.size 5 .u8 w.heap.size a.size (bufAt (nums (xorL a b)) 0) := Own.made _ (by rw [nums_length, hl]) hown0
  have hbl : Below w.heap.size w w1 := (Below.refl _ _).grown hgrow (Nat.le_refl _) (fun k hk => by cases hk)
  clear hown0 hgrow hi hz0 hz1 hz2
  go_wp2
  go_loopw [18] (fun i wr => ∃ k : Nat, k ≤ a.size ∧ i = .int .i64 k ∧ Own wr w.heap.size 5 .u8 w.heap.size a.size (bufAt (nums (xorL a b)) k) ∧ Below w.heap.size w wr) (fun i _ => a.size - (intOf i).toNat)
  case atStart => exact ⟨0, Nat.zero_le _, rfl, hown, hbl⟩
  case round =>
    clear hown hbl
    obtain ⟨k, hk, rfl, hown, hbl⟩ := hrel
    by_cases hlt : k < a.size
    · have hlb : k < b.size := by omega
      have hc := hown.cell k hlt
      have hf := hown.free k
      have hx := bufAt_succ (nums (xorL a b)) k (by rw [nums_length, hl]; exact hlt) ((a[k] ^^^ b[k]).toNat : Int) (by rw [nums_get _ _ (by rw [hl]; exact hlt), xorL_get a b k hlt hlb])
      have H := hown.set k ((a[k] ^^^ b[k]).toNat : Int)
      rw [hx] at H
      have HB : Below w.heap.size w (wr.setCell ⟨w.heap.size, k, none⟩ (.int .u8 ((a[k] ^^^ b[k]).toNat : Int))) := hbl.setCell (Nat.le_refl _) _
      clear hx
      go_wp2
      go_region
      all_goals go_wp2
      all_goals go_roundw
      case rel => rw [bits_xor_byte]; exact ⟨k + 1, by omega, by go_num, H, HB.drew⟩
      case measure => simp [intOf]; omega
    · have hk' : k = a.size := by omega
      rw [bufAt_all _ _ (by rw [nums_length, hl]; omega)] at hown
      have hcv := Own.conv (P := Try.prog) 43 9 hown Try.underlying43 Try.underlying5 Try.underlying9
      clear hk' hown
      go_wp2
      go_ret2
      exact ⟨rfl, hbl⟩

set_option maxHeartbeats 400000 in
theorem xor_unlike (a b : ByteArray) (w : World) (h : ¬ b.size = a.size) :
    Calls Try.prog 23 #[.string a, .string b] w fun e w' => e = .returned (.tuple #[.string ⟨#[]⟩, .int .i64 1]) ∧ Below w.heap.size w w' := by
  have hn : (((a.size : Int) != (b.size : Int))) = true := by rw [bne_iff_ne]; omega
  go_enter Try.func23, Try.ntmps23
  go_wp2
  go_ret2
  exact ⟨rfl, Below.refl _ _⟩

set_option maxHeartbeats 400000 in
theorem rxor_unlike (a b : ByteArray) (w : World) (h : ¬ b.size = a.size) :
    Calls Try.prog 24 #[.string a, .string b] w fun e w' => e = .returned (.tuple #[.string ⟨#[]⟩, .int .i64 1]) ∧ Below w.heap.size w w' := by
  have hn : (((a.size : Int) != (b.size : Int))) = true := by rw [bne_iff_ne]; omega
  go_enter Try.func24, Try.ntmps24
  go_wp2
  go_ret2
  exact ⟨rfl, Below.refl _ _⟩

set_option maxHeartbeats 400000 in
theorem rxor_len (a b : ByteArray) (w : World) (ha : a.size ≤ 1048576) (h : b.size = a.size) :
    Calls Try.prog 24 #[.string a, .string b] w fun e w' => e = .returned (.tuple #[.string ⟨(xorL a b).toArray⟩, .int .i64 0]) ∧ Below w.heap.size w w' := by
  have hl := xorL_length a b h
  obtain ⟨i0, hi, hz0, hz1, hz2⟩ := info_parts Try.info5
  go_enter Try.func24, Try.ntmps24
  go_wp2
  go_loopw [6, 7] (fun v i wr => ∃ k : Nat, k ≤ a.size ∧ i = .int .i64 k ∧ OwnV wr w.heap.size 5 .u8 v k ((nums (xorL a b)).take k) ∧ Below w.heap.size w wr) (fun _ i _ => a.size - (intOf i).toNat)
  case atStart => exact ⟨0, Nat.zero_le _, rfl, OwnV.nil _ _ _ _, Below.refl _ _⟩
  case round =>
    obtain ⟨k, hk, rfl, hown, hbl⟩ := hrel
    by_cases hlt : k < a.size
    · have hlb : k < b.size := by omega
      have hb0 : (0 : Int) ≤ (k : Int) := Int.natCast_nonneg _
      have hb1 : (k : Int) < (a.size : Int) := by omega
      have hb2 : (k : Int) < (b.size : Int) := by omega
      have hsz := hbl.size
      go_wp2
      go_region_held3 (fun _ => True) (trivial) ((refine step_app1 rfl rfl _ _ 43 rfl w.heap.size 5 i0 .u8 1 Try.underlying43 hi hz0 hz1 hz2 wr u6 k _ rfl hown _ rfl (by omega) (by omega) (by exact hsz) ?_; intro v' w1 hown1 hbl1))
      all_goals
        have hx : (nums (xorL a b))[k]'(by rw [nums_length, hl]; exact hlt) = bits .xor .u8 (a[k].toNat : Int) (b[k].toNat : Int) := by
          rw [bits_xor_byte, nums_get _ _ (by rw [hl]; exact hlt), xorL_get a b k hlt hlb]
        rw [take_snoc_int _ _ (by rw [nums_length, hl]; exact hlt) _ hx] at hown1
        have HB := hbl.trans hbl1
        clear hbl1 hown hx
        go_wp2
        go_roundw
        case rel => exact ⟨k + 1, by omega, by go_num, hown1, HB⟩
        case measure => simp [intOf]; omega
    · have hk' : k = a.size := by omega
      rw [List.take_of_length_le (by rw [nums_length, hl]; omega)] at hown
      have hcv := own_conv (P := Try.prog) 43 9 hown Try.underlying43 Try.underlying5 Try.underlying9
      clear hk' hown hi hz0 hz1 hz2
      go_wp2
      go_ret2
      exact ⟨rfl, hbl⟩
end Go.Proofs.Ytaefhdegldphhaa
