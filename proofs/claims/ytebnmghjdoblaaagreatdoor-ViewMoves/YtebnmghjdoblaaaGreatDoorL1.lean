import Derived.Laws.BitsAllLaws
import Derived.Laws.BytesArg
import Derived.Below
import Derived.Laws.Strings
import Derived.Test.YtebnmghjdoblaaaGreatDoorRows
import Derived.WalkKit
import Derived.WalkSpells
import Derived.WalkLawsBesides
import Derived.Deep.QuietTactic
import Derived.BigQuiet
import Derived.Deep.RegionHeld3
import Derived.Deep.AppendLies
import Derived.OpenShut
/- Plain facts on bytes and lists of bytes; nothing of the program. -/
namespace Go.Proofs.YtebnmghjdoblaaaGreatDoor
open Go.RowKit

theorem byte_lt (x : UInt8) : x.toNat < 256 := x.toNat_lt

theorem toList_data (s : ByteArray) : s.toList = s.data.toList := by
  exact ByteArray.toList_eq s

theorem bytes_ext {a b : ByteArray} (h : a.data.toList = b.data.toList) : a = b := by
  cases a; cases b; simp at h; simp [h]
end Go.Proofs.YtebnmghjdoblaaaGreatDoor

namespace Go.Proofs.YtebnmghjdoblaaaGreatDoor
open Go.RowKit

end Go.Proofs.YtebnmghjdoblaaaGreatDoor

/- Rows of integers that a call itself makes and fills place by place: plain facts, nothing of the program. -/
namespace Go.Proofs.YtebnmghjdoblaaaGreatDoor
open Go.RowKit

/-- In a region that draws its order: an operation that yields its value is taken first (the library's law, its slot written out). -/
theorem take_at {P : Program} {md : Region.Mode} {ops : Array Oper} {Q : Exit → Act → World → Prop} {S : World → Prop} {i : Nat} {oi : Oper} {v : Value} {d : Tmp} {fuel : Nat} {listed : Array Bool} {a : Act} {w : World} (hi : ops[i]? = some oi)
    (hd : oi.dst = some d) (hs : Region.noSelect ops = true) (hf : Region.free md ops listed i = true) (hr : (Region.ready md ops listed).contains i = true)
    (hQ : ∀ c a w, Q (.panic c) (a.put (some d) v) w → Q (.panic c) a w) (hy : YieldsIf P ops S oi v a) (hS : S w)
    (h : wpAnyH P md ops Q S fuel (listed.setIfInBounds i true) (a.put (some d) v) w) : wpAnyH P md ops Q S (fuel + 1) listed a w :=
  wpAnyH_take hi hs hf hr (by rw [hd]; exact hQ) hy hS (by rw [hd]; exact h)

/-- Bytes as numbers. -/
def nums (l : List UInt8) : List Int := l.map fun x => (x.toNat : Int)
theorem nums_length (l : List UInt8) : (nums l).length = l.length := by simp [nums]
theorem str_nums (l : List UInt8) : strOfNums (nums l) = ⟨l.toArray⟩ := by
  have : (nums l).map (fun n => UInt8.ofNat n.toNat) = l := by
    unfold nums
    induction l with
    | nil => rfl
    | cons x l ih => simp only [List.map_cons, ih, Int.toNat_natCast]; simp
  unfold strOfNums; rw [this]

/-! ### Rows told place by place. -/
def tab (n : Nat) (f : Nat → Int) : List Int := (List.range n).map f
theorem tab_length (n : Nat) (f : Nat → Int) : (tab n f).length = n := by simp [tab]
theorem tab_get (n : Nat) (f : Nat → Int) (i : Nat) (_h : i < n) (h' : i < (tab n f).length) : (tab n f)[i] = f i := by simp [tab]
theorem tab_getD (n : Nat) (f : Nat → Int) (i : Nat) (h : i < n) : (tab n f).getD i 0 = f i := by
  simp [List.getD, List.getElem?_eq_getElem (show i < (tab n f).length by rw [tab_length]; exact h), tab_get n f i h]
theorem tab_congr (n : Nat) (f g : Nat → Int) (h : ∀ i, i < n → f i = g i) : tab n f = tab n g := by
  unfold tab; exact List.map_congr_left (fun i hi => h i (List.mem_range.1 hi))
theorem tab_set (n : Nat) (f g : Nat → Int) (j : Nat) (v : Int) (hj : g j = v) (h : ∀ i, i < n → i ≠ j → f i = g i) : (tab n f).set j v = tab n g := by
  apply List.ext_getElem (by simp [tab])
  intro i h1 h2
  have hi : i < n := by rw [tab_length] at h2; exact h2
  rw [List.getElem_set, tab_get n g i hi]
  by_cases e : j = i
  · rw [if_pos e, ← e, hj]
  · rw [if_neg e, tab_get n f i hi]; exact h i hi (fun h => e h.symm)
/-- A row of numbers that are bytes. -/
def bytesOf (n : Nat) (f : Nat → Nat) : List UInt8 := (List.range n).map fun i => UInt8.ofNat (f i)
theorem nums_bytesOf (n : Nat) (f : Nat → Nat) (h : ∀ i, i < n → f i < 256) : nums (bytesOf n f) = tab n (fun i => (f i : Int)) := by
  unfold nums bytesOf tab
  rw [List.map_map]
  apply List.map_congr_left
  intro i hi
  have := h i (List.mem_range.1 hi)
  simp [Nat.mod_eq_of_lt this]
theorem bytesOf_length (n : Nat) (f : Nat → Nat) : (bytesOf n f).length = n := by simp [bytesOf]

/-! ### A row that the call appends to, one number a time. -/

/-- A row of n numbers of the call's own, wherever it lies; nil where there are none. -/
def OwnV (w : World) (B : Nat) (e : TypeId) (K : IntKind) (v : Value) (n : Nat) (l : List Int) : Prop := w.ownsRow B e 1 v n (l.map (Value.int K))
theorem OwnV.nil (w : World) (B : Nat) (e : TypeId) (K : IntKind) : OwnV w B e K (.slice none 0 0) 0 [] := World.ownsRow_nil _ _ _ _
theorem OwnV.len {w : World} {B n : Nat} {e : TypeId} {K : IntKind} {v : Value} {l : List Int} (h : OwnV w B e K v n l) : l.length = n := by
  have := h.1; simpa using this

theorem own_conv {P : Program} {w : World} {B n : Nat} {e : TypeId} {v : Value} {l : List UInt8} (src dst : TypeId) (h : OwnV w B e .u8 v n (nums l))
    (hs : P.underlying src = some (.slice e)) (he : P.underlying e = some (.int .u8)) (hd : P.underlying dst = some .string) :
    (convert src dst v).run P w = .ok (.string ⟨l.toArray⟩) w := by
  have hl : (nums l).length = n := by have := h.1; simpa using this
  rcases h.2 with ⟨rfl, rfl⟩ | ⟨g, cap, cur, rfl, r⟩
  · have : l = [] := List.eq_nil_of_length_eq_zero (by rw [← nums_length]; exact hl)
    subst this
    exact run_convert_bytes_nil w src e hs he 0 0 dst hd
  · rw [← str_nums]
    refine run_convert_bytes_arg w src e hs he g 0 n cap (nums l) hl (fun i hi => ?_) dst hd
    rw [Nat.zero_add, World.ownsRow.cellAt (⟨h.1, .inr ⟨g, cap, cur, rfl, r⟩⟩ : w.ownsRow B e 1 (.slice (some ⟨g, 0, none⟩) n cap) n _) i (by omega)]
    simp [List.getD, List.getElem?_eq_getElem (show i < (nums l).length by omega)]
end Go.Proofs.YtebnmghjdoblaaaGreatDoor

namespace Go.Proofs.YtebnmghjdoblaaaGreatDoor
open Go.RowKit

theorem Tryz.info5 : (Tryz.prog.info? 5).map (fun i => (i.zero, i.size, i.bytes)) = some (some (.int .u8 0), 1, 1) := by kernel_rfl

end Go.Proofs.YtebnmghjdoblaaaGreatDoor

namespace Go.Proofs.YtebnmghjdoblaaaGreatDoor
open Go.RowKit

end Go.Proofs.YtebnmghjdoblaaaGreatDoor

namespace Go.Proofs.YtebnmghjdoblaaaGreatDoor
open Go.RowKit

/-- The byte at a place, as a number. -/
def bt (s : ByteArray) (j : Nat) : Nat := (s.data.toList.getD j 0).toNat
theorem bt_get (s : ByteArray) (k : Nat) (h : k < s.size) : s[k].toNat = bt s k := by
  unfold bt
  have : s.data.toList.getD k 0 = s[k] := by
    simp [List.getD, List.getElem?_eq_getElem (show k < s.data.toList.length by simpa using h)]; rfl
  rw [this]
theorem bt_lt (s : ByteArray) (k : Nat) : bt s k < 256 := byte_lt _

end Go.Proofs.YtebnmghjdoblaaaGreatDoor

namespace Go.Proofs.YtebnmghjdoblaaaGreatDoor
open Go.RowKit

end Go.Proofs.YtebnmghjdoblaaaGreatDoor

namespace Go.Proofs.YtebnmghjdoblaaaGreatDoor
open Go.RowKit

end Go.Proofs.YtebnmghjdoblaaaGreatDoor

namespace Go.Proofs.YtebnmghjdoblaaaGreatDoor
open Go.RowKit

theorem below_step {B : Nat} {w w1 w2 : World} (h : Below B w w1) (hB : B ≤ w.heap.size) (h2 : Below w1.heap.size w1 w2) : Below B w w2 :=
  h.trans (h2.mono (Nat.le_trans hB h.size))

end Go.Proofs.YtebnmghjdoblaaaGreatDoor

namespace Go.Proofs.YtebnmghjdoblaaaGreatDoor
open Go.RowKit

theorem i64_mask (n : Int) (j : Nat) (hj : j ≤ 32) (m : Int) (hm : (BitVec.ofInt 64 m).toNat = 2 ^ j - 1) : bits .and .i64 n m = n % ((2 ^ j : Nat) : Int) := by
  have key : (BitVec.ofInt 64 n &&& BitVec.ofInt 64 m).toNat = (n % ((2 ^ 64 : Nat) : Int)).toNat % 2 ^ j := by
    rw [BitVec.toNat_and, BitVec.toNat_ofInt, hm, Nat.and_two_pow_sub_one_eq_mod]
  show IntKind.i64.wrap ((BitVec.ofInt 64 n &&& BitVec.ofInt 64 m).toNat : Nat) = n % ((2 ^ j : Nat) : Int)
  rw [key, IntKind.wrap_i64]
  have hd : (2 ^ j : Nat) ∣ 2 ^ 64 := Nat.pow_dvd_pow 2 (by omega)
  have hp : 2 ^ j ≤ 4294967296 := Nat.le_trans (Nat.pow_le_pow_right (by decide) hj) (by decide)
  have hpos : 0 < 2 ^ j := Nat.two_pow_pos j
  have h1 : (((n % ((2 ^ 64 : Nat) : Int)).toNat % 2 ^ j : Nat) : Int) = n % ((2 ^ j : Nat) : Int) := by
    rw [Int.natCast_emod, Int.toNat_of_nonneg (Int.emod_nonneg _ (by decide))]
    exact Int.emod_emod_of_dvd n (Int.natCast_dvd_natCast.2 hd)
  rw [h1]
  generalize 2 ^ j = p at *
  have h2 := Int.emod_nonneg n (show (p : Int) ≠ 0 by omega)
  have h3 := Int.emod_lt_of_pos n (show (0 : Int) < (p : Int) by omega)
  generalize n % (p : Int) = z at *
  omega

theorem wraps_i64 (n : Int) (h₀ : 0 ≤ n) (h₁ : n < 2 ^ 63) : IntKind.i64.wrap n = n := by rw [IntKind.wrap_i64]; omega
theorem i64_or_nat (a b : Nat) (ha : a < 9223372036854775808) (hb : b < 9223372036854775808) : bits .or .i64 (a : Int) (b : Int) = ((a ||| b : Nat) : Int) :=
  (bits_nat .i64 63 (by decide) wraps_i64 a b ha hb).2
/-! ### What turning does, bit by bit. -/
end Go.Proofs.YtebnmghjdoblaaaGreatDoor

namespace Go.Proofs.YtebnmghjdoblaaaGreatDoor
open Go.RowKit

def bsh (j : Nat) : Nat := 24 - 8 * (j % 4)
def ssh (j : Nat) : Nat := 8 * (j % 4)
end Go.Proofs.YtebnmghjdoblaaaGreatDoor

namespace Go.Proofs.YtebnmghjdoblaaaGreatDoor
open Go.RowKit

/-- A slice of n numbers that can be read. -/
def IntsAt (w : World) (K : IntKind) (a : Option Addr) (n : Nat) (l : List Int) : Prop :=
  l.length = n ∧ (n = 0 ∨ ∃ b off, a = some ⟨b, off, none⟩ ∧ ∀ i, i < n → w.cell? ⟨b, off + i, none⟩ = some (.int K (l.getD i 0)))

theorem IntsAt.below {w w' : World} {K : IntKind} {a : Option Addr} {n : Nat} {l : List Int} (h : IntsAt w K a n l) (hb : Below w.heap.size w w') : IntsAt w' K a n l := by
  refine ⟨h.1, ?_⟩
  rcases h.2 with h0 | ⟨b, off, ha, hc⟩
  · exact .inl h0
  · refine .inr ⟨b, off, ha, fun i hi => ?_⟩
    have h1 := hc i hi
    have hlt := World.block_lt_of_cell? w _ h1
    rw [hb.cell (p := ⟨b, off + i, none⟩) hlt]; exact h1

theorem OwnV.ints {w : World} {B n : Nat} {e : TypeId} {K : IntKind} {v : Value} {l : List Int} (h : OwnV w B e K v n l) : ∃ a c, v = .slice a n c ∧ IntsAt w K a n l := by
  have hl := h.len
  rcases h.2 with ⟨rfl, rfl⟩ | ⟨g, cap, cur, rfl, r⟩
  · exact ⟨none, 0, rfl, hl, .inl rfl⟩
  · refine ⟨some ⟨g, 0, none⟩, cap, rfl, hl, .inr ⟨g, 0, rfl, fun i hi => ?_⟩⟩
    rw [Nat.zero_add, World.ownsRow.cellAt (⟨h.1, .inr ⟨g, cap, cur, rfl, r⟩⟩ : w.ownsRow B e 1 (.slice (some ⟨g, 0, none⟩) n cap) n _) i (by omega)]
    simp [List.getD, List.getElem?_eq_getElem (show i < l.length by omega)]

end Go.Proofs.YtebnmghjdoblaaaGreatDoor

namespace Go.Proofs.YtebnmghjdoblaaaGreatDoor
open Go.RowKit

/-- The byte at a place of words, from as far up as sh says. -/
def pb (l : List Int) (sh : Nat → Nat) (j : Nat) : Nat := (l.getD (j / 4) 0 / ((2 ^ sh j : Nat) : Int) % 256).toNat
theorem pb_int (l : List Int) (sh : Nat → Nat) (j : Nat) : ((pb l sh j : Nat) : Int) = l.getD (j / 4) 0 / ((2 ^ sh j : Nat) : Int) % 256 := by unfold pb; omega
end Go.Proofs.YtebnmghjdoblaaaGreatDoor

namespace Go.Proofs.YtebnmghjdoblaaaGreatDoor
open Go.RowKit

theorem below_new (w : World) (o : Obj) : Below w.heap.size w (w.alloc o) := (Below.refl _ _).alloc (Nat.le_refl _) o

end Go.Proofs.YtebnmghjdoblaaaGreatDoor

namespace Go.Proofs.YtebnmghjdoblaaaGreatDoor
open Go.RowKit

theorem bt_mk (l : List UInt8) (j : Nat) : bt ⟨l.toArray⟩ j = (l.getD j 0).toNat := rfl
theorem four (j : Nat) : (bsh j = 24 ∧ ssh j = 0 ∧ j = 4 * (j / 4)) ∨ (bsh j = 16 ∧ ssh j = 8 ∧ j = 4 * (j / 4) + 1) ∨ (bsh j = 8 ∧ ssh j = 16 ∧ j = 4 * (j / 4) + 2) ∨ (bsh j = 0 ∧ ssh j = 24 ∧ j = 4 * (j / 4) + 3) := by
  unfold bsh ssh; omega

end Go.Proofs.YtebnmghjdoblaaaGreatDoor

namespace Go.Proofs.YtebnmghjdoblaaaGreatDoor
open Go.RowKit

end Go.Proofs.YtebnmghjdoblaaaGreatDoor

namespace Go.Proofs.YtebnmghjdoblaaaGreatDoor
open Go.RowKit
set_option linter.unusedSimpArgs false

end Go.Proofs.YtebnmghjdoblaaaGreatDoor

namespace Go.Proofs.YtebnmghjdoblaaaGreatDoor
open Go.RowKit

theorem pb1 (l : List Int) (k X : Nat) (h : l.getD k 0 % 4294967296 = (X : Int)) : ((pb l bsh (4 * k + 1) : Nat) : Int) = (X : Int) / 65536 % 256 := by
  rw [pb_int, show (4 * k + 1) / 4 = k by omega, show bsh (4 * k + 1) = 16 by unfold bsh; omega, show (2 ^ 16 : Nat) = 65536 from rfl]; omega
theorem pb2 (l : List Int) (k X : Nat) (h : l.getD k 0 % 4294967296 = (X : Int)) : ((pb l bsh (4 * k + 2) : Nat) : Int) = (X : Int) / 256 % 256 := by
  rw [pb_int, show (4 * k + 2) / 4 = k by omega, show bsh (4 * k + 2) = 8 by unfold bsh; omega, show (2 ^ 8 : Nat) = 256 from rfl]; omega
end Go.Proofs.YtebnmghjdoblaaaGreatDoor

namespace Go.Proofs.YtebnmghjdoblaaaGreatDoor
open Go.RowKit

end Go.Proofs.YtebnmghjdoblaaaGreatDoor
