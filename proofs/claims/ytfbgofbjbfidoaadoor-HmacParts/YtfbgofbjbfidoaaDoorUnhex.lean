import Derived.Test.YtfbgofbjbfidoaaDoorRows
import Derived.WalkKit
import Derived.WalkSpells
import Derived.WalkLawsBesides
import Derived.Deep.QuietTactic
import Derived.BigQuiet
import Derived.Deep.RegionHeld3
import Derived.Deep.AppendLies
import Derived.Test.YtfbgofbjbfidoaaDoorDigit
import Derived.Test.YtfbgofbjbfidoaaDoorXor
namespace Go.Proofs.YtfbgofbjbfidoaaDoor
open Go.RowKit

/-- The byte at a place, as a number. -/
def bt (s : ByteArray) (j : Nat) : Nat := (s.data.toList.getD j 0).toNat
theorem bt_get (s : ByteArray) (k : Nat) (h : k < s.size) : s[k].toNat = bt s k := by
  unfold bt
  have : s.data.toList.getD k 0 = s[k] := by
    simp [List.getD, List.getElem?_eq_getElem (show k < s.data.toList.length by simpa using h)]; rfl
  rw [this]
theorem bt_lt (s : ByteArray) (k : Nat) : bt s k < 256 := byte_lt _

def hexOk (s : ByteArray) : Bool := decide (s.size % 2 = 0) && (List.range s.size).all (fun j => isDig (bt s j))
/-- The byte of two digits. -/
def hexByte (s : ByteArray) (i : Nat) : Nat := 16 * digVal (bt s (2 * i)) + digVal (bt s (2 * i + 1))
theorem hexByte_lt (s : ByteArray) (i : Nat) : hexByte s i < 256 := by
  have h1 := digVal_lt (bt s (2 * i)); have h2 := digVal_lt (bt s (2 * i + 1)); unfold hexByte; omega
def unhexL (s : ByteArray) : List UInt8 := bytesOf (s.size / 2) (hexByte s)
def unhexR (s : ByteArray) : Value := if hexOk s then .tuple #[.string ⟨(unhexL s).toArray⟩, .int .i64 0] else .tuple #[.string ⟨#[]⟩, .int .i64 1]
theorem unhexR_odd (s : ByteArray) (h : ¬ s.size % 2 = 0) : unhexR s = .tuple #[.string ⟨#[]⟩, .int .i64 1] := by
  unfold unhexR hexOk; simp [h]
theorem unhexR_no (s : ByteArray) (k : Nat) (h : k < s.size) (hd : isDig (bt s k) = false) : unhexR s = .tuple #[.string ⟨#[]⟩, .int .i64 1] := by
  unfold unhexR
  rw [if_neg]
  unfold hexOk
  simp
  intro _
  exact ⟨k, h, hd⟩
theorem unhexR_yes (s : ByteArray) (h : s.size % 2 = 0) (hd : ∀ j, j < s.size → isDig (bt s j) = true) : unhexR s = .tuple #[.string ⟨(unhexL s).toArray⟩, .int .i64 0] := by
  unfold unhexR
  rw [if_pos]
  unfold hexOk
  simp [h]
  exact hd

/-- word.Unhex's row behind k rounds. -/
def unAt (s : ByteArray) (k : Nat) (i : Nat) : Int :=
  if 2 * i + 1 < k then (hexByte s i : Int) else if 2 * i < k then (digVal (bt s (2 * i)) : Int) else 0
theorem unAt_zero (s : ByteArray) (i : Nat) : unAt s 0 i = 0 := by simp [unAt]

theorem or16 (a d : Nat) (ha : a < 16) (hd : d < 16) : bits .or .u8 ((a : Int) * 16 % 256) (d : Int) = ((16 * a + d : Nat) : Int) := by
  have e : ((a : Int) * 16 % 256) = ((16 * a : Nat) : Int) := by omega
  rw [e, u8_or_nat _ _ (by omega) (by omega), nat_join 4 (16 * a) d (by omega) (by omega)]
theorem unAt_step (s : ByteArray) (k : Nat) (h : k < s.size) : bits .or .u8 (unAt s k (k / 2) * 16 % 256) (digVal s[k].toNat : Int) = unAt s (k + 1) (k / 2) := by
  rw [bt_get s k h]
  by_cases e : k % 2 = 0
  · have h0 : unAt s k (k / 2) = ((0 : Nat) : Int) := by unfold unAt; rw [if_neg (by omega), if_neg (by omega)]; rfl
    rw [h0, or16 0 _ (by omega) (digVal_lt _)]
    unfold unAt; rw [if_neg (by omega), if_pos (by omega), show 2 * (k / 2) = k by omega]; simp
  · have h0 : unAt s k (k / 2) = (digVal (bt s (2 * (k / 2))) : Int) := by unfold unAt; rw [if_neg (by omega), if_pos (by omega)]
    rw [h0, or16 _ _ (digVal_lt _) (digVal_lt _)]
    unfold unAt; rw [if_pos (by omega)]; unfold hexByte; rw [show 2 * (k / 2) + 1 = k by omega]
theorem unAt_other (s : ByteArray) (k i : Nat) (h : i ≠ k / 2) : unAt s k i = unAt s (k + 1) i := by
  unfold unAt
  by_cases h1 : 2 * i + 1 < k
  · rw [if_pos h1, if_pos (by omega)]
  · rw [if_neg h1, if_neg (by omega), if_neg (by omega), if_neg (by omega)]
theorem unAt_end (s : ByteArray) (h : s.size % 2 = 0) : tab (s.size / 2) (unAt s s.size) = nums (unhexL s) := by
  unfold unhexL
  rw [nums_bytesOf _ _ (fun i _ => hexByte_lt s i)]
  exact tab_congr _ _ _ (fun i hi => by unfold unAt; rw [if_pos (by omega)])

end Go.Proofs.YtfbgofbjbfidoaaDoor
