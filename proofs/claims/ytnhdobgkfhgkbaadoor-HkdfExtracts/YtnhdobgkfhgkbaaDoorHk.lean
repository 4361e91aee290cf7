/- HKDF on plain texts: the parts, one behind the other. -/
import Derived.Test.YtnhdobgkfhgkbaaDoorL3
import Derived.Test.YtnhdobgkfhgkbaaDoorZero
import Derived.Room.AppendFits
namespace Go.Proofs.YtnhdobgkfhgkbaaDoor
open Go.RowKit
set_option linter.unusedSimpArgs false

theorem bt_ext (a b : ByteArray) (h : a.size = b.size) (hb : ∀ i, i < a.size → bt a i = bt b i) : a = b := by
  rw [← bytesOf_bt a a.size rfl, ← bytesOf_bt b a.size h.symm, bytesOf_congr a.size (bt a) (bt b) hb]

def oneByte (i : Nat) : ByteArray := ⟨#[UInt8.ofNat i]⟩
theorem oneByte_size (i : Nat) : (oneByte i).size = 1 := rfl
/-- Part i; part 0 is empty. -/
def partB (key p : ByteArray) : Nat → ByteArray
  | 0 => ⟨#[]⟩
  | i + 1 => macB key (partB key p i ++ p ++ oneByte (i + 1))
/-- The first i parts. -/
def partsB (key p : ByteArray) : Nat → ByteArray
  | 0 => ⟨#[]⟩
  | i + 1 => partsB key p i ++ partB key p (i + 1)
def expandB (key p : ByteArray) (n : Nat) : ByteArray := (partsB key p ((n + 31) / 32)).extract 0 n

theorem partB_succ (key p : ByteArray) (i : Nat) : partB key p (i + 1) = macB key (partB key p i ++ p ++ oneByte (i + 1)) := rfl
theorem partsB_succ (key p : ByteArray) (i : Nat) : partsB key p (i + 1) = partsB key p i ++ partB key p (i + 1) := rfl
theorem partB_size (key p : ByteArray) (i : Nat) : (partB key p (i + 1)).size = 32 := macB_size _ _
theorem partB_le (key p : ByteArray) (i : Nat) : (partB key p i).size ≤ 32 := by
  cases i with
  | zero => exact Nat.zero_le _
  | succ i => rw [partB_size]; omega
theorem partsB_size (key p : ByteArray) (i : Nat) : (partsB key p i).size = 32 * i := by
  induction i with
  | zero => rfl
  | succ i ih => rw [partsB_succ, ByteArray.size_append, ih, partB_size]; omega
theorem expandB_size (key p : ByteArray) (n : Nat) : (expandB key p n).size = n := by
  unfold expandB; rw [ByteArray.size_extract, partsB_size]; omega

theorem bt_parts (key p : ByteArray) (i j : Nat) (h : j < 32 * i) : bt (partsB key p i) j = bt (partB key p (j / 32 + 1)) (j % 32) := by
  induction i with
  | zero => omega
  | succ i ih =>
    rw [partsB_succ]
    by_cases h1 : j < 32 * i
    · rw [bt_append_left _ _ _ (by rw [partsB_size]; exact h1), ih h1]
    · have e : j = (partsB key p i).size + (j - 32 * i) := by rw [partsB_size]; omega
      rw [e, bt_append_right, ← e, show j / 32 = i by omega, show j - 32 * i = j % 32 by omega]
theorem bt_expand (key p : ByteArray) (n j : Nat) (h : j < n) : bt (expandB key p n) j = bt (partB key p (j / 32 + 1)) (j % 32) := by
  unfold expandB
  rw [bt_extract _ 0 n j (by omega) (by rw [partsB_size]; omega), Nat.zero_add, bt_parts _ _ _ _ (by omega)]
/-- Fewer bytes are the first ones of more. -/
theorem expand_fewer (key p : ByteArray) (n m : Nat) (h : n ≤ m) : (expandB key p m).extract 0 n = expandB key p n := by
  apply bt_ext
  · rw [ByteArray.size_extract, expandB_size, expandB_size]; omega
  · intro i hi
    have hi' : i < n := by rw [ByteArray.size_extract, expandB_size] at hi; omega
    rw [bt_extract _ 0 n i (by omega) (by rw [expandB_size]; exact h), Nat.zero_add, bt_expand _ _ _ _ (by omega), bt_expand _ _ _ _ hi']
/-- A part of them. -/
theorem expand_part (key p : ByteArray) (n i : Nat) (h : 32 * i + 32 ≤ n) : (expandB key p n).extract (32 * i) (32 * i + 32) = partB key p (i + 1) := by
  apply bt_ext
  · rw [ByteArray.size_extract, expandB_size, partB_size]; omega
  · intro j hj
    have hj' : j < 32 := by rw [ByteArray.size_extract, expandB_size] at hj; omega
    rw [bt_extract _ (32 * i) (32 * i + 32) j (by omega) (by rw [expandB_size]; exact h), bt_expand _ _ _ _ (by omega), show (32 * i + j) / 32 = i by omega, show (32 * i + j) % 32 = j by omega]
theorem bytesOf_extract (s : ByteArray) (n : Nat) (h : n ≤ s.size) : (⟨(bytesOf n (bt s)).toArray⟩ : ByteArray) = s.extract 0 n := by
  have hs : (s.extract 0 n).size = n := by rw [ByteArray.size_extract]; omega
  rw [← bytesOf_bt (s.extract 0 n) n hs]
  rw [bytesOf_congr n (bt s) (bt (s.extract 0 n)) (fun i hi => by rw [bt_extract _ 0 n i (by omega) h, Nat.zero_add])]

/-! ### A row of bytes that the call appends texts to, within its room. -/

theorem strCells_append (s t : ByteArray) : Lib.strCells (s ++ t) = Lib.strCells s ++ Lib.strCells t := by
  unfold Lib.strCells; simp [ByteArray.data_append]
theorem strCells_bt (s : ByteArray) (j : Nat) (h : j < s.size) : (Lib.strCells s)[j]? = some (.int .u8 ((bt s j : Nat) : Int)) := by
  have h' : j < s.data.size := h
  unfold Lib.strCells
  rw [List.getElem?_map, Array.getElem?_toList, Array.getElem?_eq_getElem h', ← bt_get s j h]
  rfl
theorem row_of_owns {w : World} {B g n c : Nat} {e : TypeId} {s : ByteArray} (h : w.ownsRow B e 1 (.slice (some ⟨g, 0, none⟩) n c) n (Lib.strCells s)) : Row8 w g s.size (bt s) := by
  obtain ⟨hl, h | ⟨g', cap, cur, hv, hb, hg, hn, hm, hs, ht⟩⟩ := h
  · cases h.1
  · cases hv
    refine ⟨cur, e, (0, 0), hg, Or.inr rfl, fun j hj => ?_⟩
    rw [Lib.strCells_length] at hl
    rw [← strCells_bt s j hj, ← ht, List.getElem?_take, if_pos (by omega), Array.getElem?_toList]

theorem owns_lt {w : World} {B g n c : Nat} {e : TypeId} {xs : List Value} (h : w.ownsRow B e 1 (.slice (some ⟨g, 0, none⟩) n c) n xs) : g < w.heap.size := by
  obtain ⟨hl, h | ⟨g', cap, cur, hv, hb, hg, r⟩⟩ := h
  · cases h.1
  · cases hv
    exact (Array.getElem?_eq_some_iff.1 hg).1
theorem owns_below {w w' : World} {B B' g n c : Nat} {e : TypeId} {xs : List Value} (h : w.ownsRow B e 1 (.slice (some ⟨g, 0, none⟩) n c) n xs) (hb : Below B' w w') (hg : g < B') : w'.ownsRow B e 1 (.slice (some ⟨g, 0, none⟩) n c) n xs := by
  obtain ⟨hl, h | ⟨g', cap, cur, hv, hB, hc, r⟩⟩ := h
  · cases h.1
  · cases hv
    exact ⟨hl, .inr ⟨g, c, cur, rfl, hB, by rw [hb.block g hg]; exact hc, r⟩⟩

/-- 'string(make([]byte, n))' -/
theorem zeros_conv {P : Program} {w : World} {B g n c : Nat} {e : TypeId} (h : w.ownsRow B e 1 (.slice (some ⟨g, 0, none⟩) n c) n (madeCells (Value.int .u8 0).cells (n * 1)).toList) (src dst : TypeId)
    (hs : P.underlying src = some (.slice e)) (he : P.underlying e = some (.int .u8)) (hd : P.underlying dst = some .string) :
    (convert src dst (.slice (some ⟨g, 0, none⟩) n c)).run P w = .ok (.string (zeroB n)) w := by
  have hc := toList_madeCells_one (Value.int .u8 0) (n * 1)
  have hr : Row8 w g n (fun _ => 0) := by
    obtain ⟨hl, h | ⟨g', cap, cur, hv, hb, hg, hn, hm, hs, ht⟩⟩ := h
    · cases h.1
    · cases hv
      refine ⟨cur, e, (0, 0), hg, Or.inr rfl, fun j hj => ?_⟩
      have h2 : cur.toList.take (n * 1) = List.replicate (n * 1) (Value.int .u8 0) := ht.trans hc
      have h1 : (cur.toList.take (n * 1))[j]? = some (Value.int .u8 0) := by rw [h2, List.getElem?_replicate, if_pos (by omega)]
      rw [List.getElem?_take, if_pos (by omega), Array.getElem?_toList] at h1
      exact h1
  have h3 := hr.conv (P := P) (fun _ => by decide) n c (Nat.le_refl _) src dst hs he hd
  rw [h3]
  congr 2
  apply bytes_ext
  show (bytesOf n fun _ => 0).toArray.toList = (List.replicate n 0).toArray.toList
  rw [List.toList_toArray, List.toList_toArray]
  unfold bytesOf
  rw [List.map_const', List.length_range]
  rfl

/-- 'string([]byte{x})' -/
theorem one_conv {P : Program} (w : World) (x : Nat) (hx : x < 256) (e src dst : TypeId) (hs : P.underlying src = some (.slice e)) (he : P.underlying e = some (.int .u8)) (hd : P.underlying dst = some .string) :
    (convert src dst (.slice (some ⟨w.heap.size, 0, none⟩) 1 1)).run P (w.alloc (.cells #[.int .u8 (x : Int)] e)) = .ok (.string (oneByte x)) (w.alloc (.cells #[.int .u8 (x : Int)] e)) := by
  have hr : Row8 (w.alloc (.cells #[.int .u8 (x : Int)] e)) w.heap.size 1 (fun _ => x) := by
    refine ⟨_, e, _, heap_alloc_last w _, Or.inr rfl, fun j hj => ?_⟩
    have : j = 0 := by omega
    subst this; rfl
  exact hr.conv (fun _ => hx) 1 1 (Nat.le_refl _) src dst hs he hd
end Go.Proofs.YtnhdobgkfhgkbaaDoor
