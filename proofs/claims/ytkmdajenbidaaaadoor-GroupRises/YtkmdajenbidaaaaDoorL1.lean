import Derived.Laws.BitsAllLaws
import Derived.Laws.BytesArg
import Derived.Below
import Derived.Laws.Strings
import Derived.Test.YtkmdajenbidaaaaDoorRows
import Derived.WalkKit
import Derived.WalkSpells
import Derived.WalkLawsBesides
import Derived.Deep.QuietTactic
import Derived.BigQuiet
import Derived.Deep.RegionHeld3
import Derived.Deep.AppendLies
import Derived.OpenShut
/- Plain facts on bytes and lists of bytes; nothing of the program. -/
namespace Go.Proofs.YtkmdajenbidaaaaDoor
open Go.RowKit
set_option maxRecDepth 100000

theorem take_snoc (s : ByteArray) (k : Nat) (h : k < s.size) : s.data.toList.take (k + 1) = s.data.toList.take k ++ [s[k]] := by
  rw [List.take_succ_eq_append_getElem (by simpa using h)]; rfl

theorem byte_lt (x : UInt8) : x.toNat < 256 := x.toNat_lt

theorem bits_xor_byte (x y : UInt8) : bits .xor .u8 (x.toNat : Int) (y.toNat : Int) = ((x ^^^ y).toNat : Int) := by
  rw [u8_xor_nat _ _ (byte_lt x) (byte_lt y)]; simp

theorem bits_or_byte (x y : UInt8) : bits .or .u8 (x.toNat : Int) (y.toNat : Int) = ((x ||| y).toNat : Int) := by
  rw [u8_or_nat _ _ (byte_lt x) (byte_lt y)]; simp

theorem or_zero (x y : UInt8) : x ||| y = 0 ↔ x = 0 ∧ y = 0 := by
  constructor
  · intro h
    have h1 : ∀ i, (x.toBitVec ||| y.toBitVec).getLsbD i = (0 : BitVec 8).getLsbD i := fun i => by
      have := congrArg UInt8.toBitVec h
      rw [UInt8.toBitVec_or] at this; rw [this]; rfl
    constructor
    · apply UInt8.toBitVec_inj.1; apply BitVec.eq_of_getLsbD_eq; intro i hi; have := h1 i; simp at this ⊢; exact this.1
    · apply UInt8.toBitVec_inj.1; apply BitVec.eq_of_getLsbD_eq; intro i hi; have := h1 i; simp at this ⊢; exact this.2
  · rintro ⟨rfl, rfl⟩; rfl

theorem xor_zero (x y : UInt8) : x ^^^ y = 0 ↔ x = y := by
  constructor
  · intro h
    have : (x ^^^ y) ^^^ y = 0 ^^^ y := by rw [h]
    simpa [UInt8.xor_assoc] using this
  · rintro rfl; simp

theorem toList_data (s : ByteArray) : s.toList = s.data.toList := by
  exact ByteArray.toList_eq s

theorem bytes_ext {a b : ByteArray} (h : a.data.toList = b.data.toList) : a = b := by
  cases a; cases b; simp at h; simp [h]
end Go.Proofs.YtkmdajenbidaaaaDoor

namespace Go.Proofs.YtkmdajenbidaaaaDoor
open Go.RowKit
set_option maxRecDepth 100000

/-- What the loop of Same holds behind k rounds. -/
def sameAt (a b : ByteArray) (k : Nat) (m : UInt8) : Prop := m = 0 ↔ a.data.toList.take k = b.data.toList.take k

theorem sameAt_succ (a b : ByteArray) (k : Nat) (m : UInt8) (ha : k < a.size) (hb : k < b.size) (h : sameAt a b k m) : sameAt a b (k + 1) (m ||| (a[k] ^^^ b[k])) := by
  unfold sameAt at *
  rw [or_zero, xor_zero, take_snoc a k ha, take_snoc b k hb, h]
  constructor
  · rintro ⟨h1, h2⟩; rw [h1, h2]
  · intro h1
    have := List.append_inj h1 (by simp; omega)
    exact ⟨this.1, by simpa using this.2⟩

theorem sameAt_end (a b : ByteArray) (m : UInt8) (h : b.size = a.size) (hs : sameAt a b a.size m) : ((m.toNat : Int) == 0) = (a.toList == b.toList) := by
  unfold sameAt at hs
  rw [List.take_of_length_le (by simp), List.take_of_length_le (by simp [h])] at hs
  rw [Bool.eq_iff_iff]
  simp only [beq_iff_eq]
  rw [toList_data, toList_data, ← hs]
  constructor
  · intro h1; exact UInt8.toNat_inj.1 (by simpa using h1)
  · rintro rfl; rfl

end Go.Proofs.YtkmdajenbidaaaaDoor

/- Rows of integers that a call itself makes and fills place by place: plain facts, nothing of the program. -/
namespace Go.Proofs.YtkmdajenbidaaaaDoor
open Go.RowKit
set_option maxRecDepth 100000

/-- In a region that draws its order: an operation that yields its value is taken first (the library's law, its slot written out). -/
theorem take_at {P : Program} {md : Region.Mode} {ops : Array Oper} {Q : Exit → Act → World → Prop} {S : World → Prop} {i : Nat} {oi : Oper} {v : Value} {d : Tmp} {fuel : Nat} {listed : Array Bool} {a : Act} {w : World} (hi : ops[i]? = some oi)
    (hd : oi.dst = some d) (hs : Region.noSelect ops = true) (hf : Region.free md ops listed i = true) (hr : (Region.ready md ops listed).contains i = true)
    (hQ : ∀ c a w, Q (.panic c) (a.put (some d) v) w → Q (.panic c) a w) (hy : YieldsIf P ops S oi v a) (hS : S w)
    (h : wpAnyH P md ops Q S fuel (listed.setIfInBounds i true) (a.put (some d) v) w) : wpAnyH P md ops Q S (fuel + 1) listed a w :=
  wpAnyH_take hi hs hf hr (by rw [hd]; exact hQ) hy hS (by rw [hd]; exact h)

/-- A row of n numbers at the head of block g, of the call's own. -/
def Own (w : World) (B : Nat) (e : TypeId) (K : IntKind) (g n : Nat) (l : List Int) : Prop :=
  w.ownsRow B e 1 (.slice (some ⟨g, 0, none⟩) n n) n (l.map (Value.int K))

theorem Own.len {w : World} {B g n : Nat} {e : TypeId} {K : IntKind} {l : List Int} (h : Own w B e K g n l) : l.length = n := by
  have := h.1; simpa using this

theorem Own.cell {w : World} {B g n : Nat} {e : TypeId} {K : IntKind} {l : List Int} (h : Own w B e K g n l) (j : Nat) (hj : j < n) : w.cell? ⟨g, j, none⟩ = some (.int K (l.getD j 0)) := by
  have hl := h.len
  rw [World.ownsRow.cellAt h j (by omega)]
  simp [List.getD, List.getElem?_eq_getElem (show j < l.length by omega)]

theorem Own.free {w : World} {B g n : Nat} {e : TypeId} {K : IntKind} {l : List Int} (h : Own w B e K g n l) (j : Nat) : w.frozen? ⟨g, j, none⟩ = false :=
  World.ownsRow.frozenAt h j

theorem Own.set {w : World} {B g n : Nat} {e : TypeId} {K : IntKind} {l : List Int} (h : Own w B e K g n l) (j : Nat) (x : Int) : Own (w.setCell ⟨g, j, none⟩ (.int K x)) B e K g n (l.set j x) := by
  have := (World.ownsRow.stored h j (.int K x)).1
  unfold Own; rw [List.map_set]; exact this

theorem Own.base {w : World} {B g n : Nat} {e : TypeId} {K : IntKind} {l : List Int} (h : Own w B e K g n l) : B ≤ g ∧ g < w.heap.size :=
  World.ownsRow.lt h g rfl

/-- The row behind k rounds: the first k numbers of l, zeros behind them. -/
def bufAt (l : List Int) (k : Nat) : List Int := l.take k ++ List.replicate (l.length - k) 0

theorem bufAt_zero (l : List Int) : bufAt l 0 = List.replicate l.length 0 := by simp [bufAt]
theorem bufAt_all (l : List Int) (k : Nat) (h : l.length ≤ k) : bufAt l k = l := by
  unfold bufAt; rw [List.take_of_length_le h, Nat.sub_eq_zero_of_le h]; simp
theorem bufAt_succ (l : List Int) (k : Nat) (h : k < l.length) (x : Int) (hx : l[k] = x) : (bufAt l k).set k x = bufAt l (k + 1) := by
  unfold bufAt
  rw [List.take_succ_eq_append_getElem h, hx]
  have h1 : (l.take k).length = k := by simp; omega
  rw [List.set_append_right _ _ (by omega), h1]
  have : l.length - k = (l.length - (k + 1)) + 1 := by omega
  rw [this, List.replicate_succ]; simp

/-- Bytes as numbers. -/
def nums (l : List UInt8) : List Int := l.map fun x => (x.toNat : Int)
theorem nums_length (l : List UInt8) : (nums l).length = l.length := by simp [nums]
theorem nums_get (l : List UInt8) (k : Nat) (h : k < l.length) (h' : k < (nums l).length) : (nums l)[k] = (l[k].toNat : Int) := by simp [nums]
theorem str_nums (l : List UInt8) : strOfNums (nums l) = ⟨l.toArray⟩ := by
  have : (nums l).map (fun n => UInt8.ofNat n.toNat) = l := by
    unfold nums
    induction l with
    | nil => rfl
    | cons x l ih => simp only [List.map_cons, ih, Int.toNat_natCast]; simp
  unfold strOfNums; rw [this]

theorem Own.conv {P : Program} {w : World} {B g n : Nat} {e : TypeId} {l : List UInt8} (src dst : TypeId) (h : Own w B e .u8 g n (nums l))
    (hs : P.underlying src = some (.slice e)) (he : P.underlying e = some (.int .u8)) (hd : P.underlying dst = some .string) :
    (convert src dst (.slice (some ⟨g, 0, none⟩) n n)).run P w = .ok (.string ⟨l.toArray⟩) w := by
  rw [← str_nums]
  exact run_convert_bytes_arg w src e hs he g 0 n n (nums l) h.len (fun i hi => by rw [Nat.zero_add]; exact h.cell i hi) dst hd

theorem Own.made {w : World} {B n : Nat} {e : TypeId} {K : IntKind} {g : Nat} (l : List Int) (hl : l.length = n)
    (h : w.ownsRow B e 1 (.slice (some ⟨g, 0, none⟩) n n) n (madeCells #[Value.int K 0] n).toList) : Own w B e K g n (bufAt l 0) := by
  have e1 : (madeCells #[Value.int K 0] n).toList = (bufAt l 0).map (Value.int K) := by
    rw [bufAt_zero, hl, List.map_replicate]; exact toList_madeCells_one _ _
  rw [e1] at h; exact h

/-! ### Rows told place by place. -/
def tab (n : Nat) (f : Nat → Int) : List Int := (List.range n).map f
theorem tab_length (n : Nat) (f : Nat → Int) : (tab n f).length = n := by simp [tab]
theorem tab_get (n : Nat) (f : Nat → Int) (i : Nat) (_h : i < n) (h' : i < (tab n f).length) : (tab n f)[i] = f i := by simp [tab]
theorem tab_getD (n : Nat) (f : Nat → Int) (i : Nat) (h : i < n) : (tab n f).getD i 0 = f i := by
  simp [List.getD, List.getElem?_eq_getElem (show i < (tab n f).length by rw [tab_length]; exact h), tab_get n f i h]
theorem tab_congr (n : Nat) (f g : Nat → Int) (h : ∀ i, i < n → f i = g i) : tab n f = tab n g := by
  unfold tab; exact List.map_congr_left (fun i hi => h i (List.mem_range.1 hi))
theorem tab_set (n : Nat) (f g : Nat → Int) (j : Nat) (v : Int) (hj : g j = v) (h : ∀ i, i < n → i ≠ j → f i = g i) : (tab n f).set j v = tab n g := by
  apply List.ext_getElem (by simp [tab])
  intro i h1 h2
  have hi : i < n := by rw [tab_length] at h2; exact h2
  rw [List.getElem_set, tab_get n g i hi]
  by_cases e : j = i
  · rw [if_pos e, ← e, hj]
  · rw [if_neg e, tab_get n f i hi]; exact h i hi (fun h => e h.symm)
theorem tab_zero (n : Nat) : tab n (fun _ => 0) = List.replicate n 0 := by
  unfold tab; rw [List.map_const']; simp
theorem Own.made' {w : World} {B n : Nat} {e : TypeId} {K : IntKind} {g : Nat} (f : Nat → Int) (hf : ∀ i, i < n → f i = 0)
    (h : w.ownsRow B e 1 (.slice (some ⟨g, 0, none⟩) n n) n (madeCells #[Value.int K 0] n).toList) : Own w B e K g n (tab n f) := by
  have e1 : (madeCells #[Value.int K 0] n).toList = (tab n f).map (Value.int K) := by
    rw [tab_congr n f (fun _ => 0) hf, tab_zero, List.map_replicate]; exact toList_madeCells_one _ _
  rw [e1] at h; exact h
/-- A row of numbers that are bytes. -/
def bytesOf (n : Nat) (f : Nat → Nat) : List UInt8 := (List.range n).map fun i => UInt8.ofNat (f i)
theorem nums_bytesOf (n : Nat) (f : Nat → Nat) (h : ∀ i, i < n → f i < 256) : nums (bytesOf n f) = tab n (fun i => (f i : Int)) := by
  unfold nums bytesOf tab
  rw [List.map_map]
  apply List.map_congr_left
  intro i hi
  have := h i (List.mem_range.1 hi)
  simp [Nat.mod_eq_of_lt this]
theorem bytesOf_length (n : Nat) (f : Nat → Nat) : (bytesOf n f).length = n := by simp [bytesOf]

/-! ### A row that the call appends to, one number a time. -/

theorem below_append {B : Nat} {w wr w1 : World} {e : TypeId} {size n : Nat} {v : Value} {xs : List Value} (hbl : Below B w wr) (hB : B ≤ w.heap.size) (hown : wr.ownsRow B e size v n xs) (o : Obj)
    (hg : (wr.alloc o).drew.grownBy w1 v.ownBlock) : Below B w w1 := by
  have hs := hbl.size
  exact ((hbl.alloc (by omega) o).drew).grown hg (by simp; omega) (fun k hk => (hown.lt k hk).1)

theorem below_append' {B : Nat} {w wr w1 : World} {e : TypeId} {size n : Nat} {v : Value} {xs : List Value} (hbl : Below B w wr) (hB : B ≤ w.heap.size) (hown : wr.ownsRow B e size v n xs) (o : Obj)
    (hg : (wr.alloc o).grownBy w1 v.ownBlock) : Below B w w1 := by
  have hs := hbl.size
  exact (hbl.alloc (by omega) o).grown hg (by simp; omega) (fun k hk => (hown.lt k hk).1)

/-- A row of n numbers of the call's own, wherever it lies; nil where there are none. -/
def OwnV (w : World) (B : Nat) (e : TypeId) (K : IntKind) (v : Value) (n : Nat) (l : List Int) : Prop := w.ownsRow B e 1 v n (l.map (Value.int K))
theorem OwnV.nil (w : World) (B : Nat) (e : TypeId) (K : IntKind) : OwnV w B e K (.slice none 0 0) 0 [] := World.ownsRow_nil _ _ _ _
theorem OwnV.len {w : World} {B n : Nat} {e : TypeId} {K : IntKind} {v : Value} {l : List Int} (h : OwnV w B e K v n l) : l.length = n := by
  have := h.1; simpa using this

/-- One number appended to a row of the call's own, in a plain region. -/
theorem wpList_app1 {P : Program} {ops : Array Oper} {rest : List Oper} {o : Oper} {a : Act} {Q : Exit → Act → World → Prop} (hgd : o.guard = none) (s x : Operand) (t : TypeId)
    (ho : o.op = .call { callee := .builtin .append, args := #[s, x], argTypes := #[t, t] })
    (B : Nat) (e : TypeId) (i : TypeInfo) (K : IntKind) (bytes : Nat) (ht : P.underlying t = some (.slice e)) (hi : P.info? e = some i) (hz : i.zero = some (.int K 0)) (hsize : i.size = 1) (hby : i.bytes = bytes)
    (W : World) (v : Value) (n : Nat) (l : List Int) (hs : a.eval s = v) (hown : OwnV W B e K v n l) (y : Int) (hx : a.eval x = .slice (some ⟨W.heap.size, 0, none⟩) 1 1)
    (hn : (n + 1) * bytes ≤ 140737488355328) (hn' : n + 1 ≤ 9223372036854775807) (hB : B ≤ W.heap.size)
    (h : ∀ v' w', OwnV w' B e K v' (n + 1) (l ++ [y]) → Below B W w' → wpList P ops Q rest (a.put o.dst v') w') :
    wpList P ops Q (o :: rest) a (W.alloc (.cells #[.int K y] e)) := by
  refine wpList_append_own _ hgd s x t ho B e i (.int K 0) 1 bytes ht hi hz hsize hby rfl (by decide) v n _ hs (World.ownsRow.alloc hown _) ⟨W.heap.size, 0, none⟩ 1 1 [.int K y] hx rfl (cell_one_new _ _ _) ?_ (by unfold maxLen; omega) hn (by simp; omega) ?_
  · intro u hu; simp at hu; subst hu; rfl
  · intro v' w' h1 h2 _
    refine h v' w' (by unfold OwnV; rw [List.map_append]; exact h1) ?_
    exact ((Below.refl B W).alloc hB _).grown h2 (by simp; omega) (fun k hk => (World.ownsRow.lt hown k hk).1)

/-- The same at a step of a region that draws its order. -/
theorem step_app1 {P : Program} {ops : Array Oper} {o : Oper} {a : Act} {K' : Act → World → Prop} {Q : Exit → Act → World → Prop} {E : Prop} {d : Tmp} (hgd : o.guard = none) (hd : o.dst = some d) (s x : Operand) (t : TypeId)
    (ho : o.op = .call { callee := .builtin .append, args := #[s, x], argTypes := #[t, t] })
    (B : Nat) (e : TypeId) (i : TypeInfo) (K : IntKind) (bytes : Nat) (ht : P.underlying t = some (.slice e)) (hi : P.info? e = some i) (hz : i.zero = some (.int K 0)) (hsize : i.size = 1) (hby : i.bytes = bytes)
    (W : World) (v : Value) (n : Nat) (l : List Int) (hs : a.eval s = v) (hown : OwnV W B e K v n l) (y : Int) (hx : a.eval x = .slice (some ⟨W.heap.size, 0, none⟩) 1 1)
    (hn : (n + 1) * bytes ≤ 140737488355328) (hn' : n + 1 ≤ 9223372036854775807) (hB : B ≤ W.heap.size)
    (h : ∀ v' w', OwnV w' B e K v' (n + 1) (l ++ [y]) → Below B W w' → K' (a.put (some d) v') w') :
    if Region.wanted o (yielded ops a.tmps) = true then Oper.wp P o a (W.alloc (.cells #[.int K y] e)).drew K' Q else E := by
  have hw : Region.wanted o (yielded ops a.tmps) = true := by simp [Region.wanted, hgd]
  rw [if_pos hw]
  refine wp_append_own _ s x t ho B e i (.int K 0) 1 bytes ht hi hz hsize hby rfl (by decide) v n _ hs ((World.ownsRow.alloc hown _).drew) ⟨W.heap.size, 0, none⟩ 1 1 [.int K y] hx rfl (cell_one_new _ _ _) ?_ (by unfold maxLen; omega) hn (by simp; omega) ?_
  · intro u hu; simp at hu; subst hu; rfl
  · intro v' w' h1 h2 _
    rw [hd]
    refine h v' w' (by unfold OwnV; rw [List.map_append]; exact h1) ?_
    exact (((Below.refl B W).alloc hB _).drew).grown h2 (by simp; omega) (fun k hk => (World.ownsRow.lt hown k hk).1)

theorem take_snoc_int (l : List Int) (k : Nat) (h : k < l.length) (x : Int) (hx : l[k] = x) : l.take k ++ [x] = l.take (k + 1) := by
  rw [List.take_succ_eq_append_getElem h, hx]

theorem take_map_snoc (K : IntKind) (l : List Int) (k : Nat) (h : k < l.length) (x : Int) (hx : l[k] = x) : (l.take k).map (Value.int K) ++ [.int K x] = (l.take (k + 1)).map (Value.int K) := by
  rw [List.take_succ_eq_append_getElem h, hx]; simp

theorem own_conv {P : Program} {w : World} {B n : Nat} {e : TypeId} {v : Value} {l : List UInt8} (src dst : TypeId) (h : OwnV w B e .u8 v n (nums l))
    (hs : P.underlying src = some (.slice e)) (he : P.underlying e = some (.int .u8)) (hd : P.underlying dst = some .string) :
    (convert src dst v).run P w = .ok (.string ⟨l.toArray⟩) w := by
  have hl : (nums l).length = n := by have := h.1; simpa using this
  rcases h.2 with ⟨rfl, rfl⟩ | ⟨g, cap, cur, rfl, r⟩
  · have : l = [] := List.eq_nil_of_length_eq_zero (by rw [← nums_length]; exact hl)
    subst this
    exact run_convert_bytes_nil w src e hs he 0 0 dst hd
  · rw [← str_nums]
    refine run_convert_bytes_arg w src e hs he g 0 n cap (nums l) hl (fun i hi => ?_) dst hd
    rw [Nat.zero_add, World.ownsRow.cellAt (⟨h.1, .inr ⟨g, cap, cur, rfl, r⟩⟩ : w.ownsRow B e 1 (.slice (some ⟨g, 0, none⟩) n cap) n _) i (by omega)]
    simp [List.getD, List.getElem?_eq_getElem (show i < (nums l).length by omega)]
end Go.Proofs.YtkmdajenbidaaaaDoor

namespace Go.Proofs.YtkmdajenbidaaaaDoor
open Go.RowKit
set_option maxRecDepth 100000

theorem Tryd.info5 : (Tryd.prog.info? 5).map (fun i => (i.zero, i.size, i.bytes)) = some (some (.int .u8 0), 1, 1) := by kernel_rfl

/-- Two texts, turned into one another. -/
def xorL (a b : ByteArray) : List UInt8 := List.zipWith (· ^^^ ·) a.data.toList b.data.toList
theorem xorL_length (a b : ByteArray) (h : b.size = a.size) : (xorL a b).length = a.size := by simp [xorL, h]
theorem xorL_get (a b : ByteArray) (k : Nat) (ha : k < a.size) (hb : k < b.size) (h : k < (xorL a b).length) : (xorL a b)[k] = a[k] ^^^ b[k] := by
  simp [xorL]; rfl

end Go.Proofs.YtkmdajenbidaaaaDoor

namespace Go.Proofs.YtkmdajenbidaaaaDoor
open Go.RowKit
set_option maxRecDepth 100000

/-- Is the byte a digit? -/
def isDig (c : Nat) : Bool := decide (48 ≤ c ∧ c ≤ 57) || decide (97 ≤ c ∧ c ≤ 102) || decide (65 ≤ c ∧ c ≤ 70)
/-- The number of a digit; 0 of another byte. -/
def digVal (c : Nat) : Nat := if 48 ≤ c ∧ c ≤ 57 then c - 48 else if 97 ≤ c ∧ c ≤ 102 then c - 87 else if 65 ≤ c ∧ c ≤ 70 then c - 55 else 0
theorem digVal_lt (c : Nat) : digVal c < 16 := by unfold digVal; split <;> (try split) <;> (try split) <;> omega

theorem dig_ways (c : Nat) : (c < 48 ∨ (48 ≤ c ∧ c ≤ 57)) ∨ ((57 < c ∧ c < 65) ∨ (65 ≤ c ∧ c ≤ 70)) ∨ ((70 < c ∧ c < 97) ∨ (97 ≤ c ∧ c ≤ 102) ∨ 102 < c) := by omega

theorem ret_dig {a b : Int} {p q : Bool} (h1 : a = b) (h2 : p = q) : Ending.returned (.tuple #[.int .u8 a, .bool p]) = .returned (.tuple #[.int .u8 b, .bool q]) := by rw [h1, h2]
theorem ret_int {k : IntKind} {a b : Int} (h : a = b) : Ending.returned (.int k a) = .returned (.int k b) := by rw [h]

theorem isDig_val (c : Nat) (h : isDig c = false) : digVal c = 0 := by
  unfold isDig at h; unfold digVal
  simp at h
  (repeat' split) <;> omega

/-- A digit's number; -1: it is none. -/
def rdig (c : Nat) : Int := if isDig c then (digVal c : Int) else -1
theorem isDig_no (c : Nat) (h : c < 48 ∨ (57 < c ∧ c < 65) ∨ (70 < c ∧ c < 97) ∨ 102 < c) : isDig c = false := by unfold isDig; simp; omega
theorem isDig_yes (c : Nat) (h : (48 ≤ c ∧ c ≤ 57) ∨ (65 ≤ c ∧ c ≤ 70) ∨ (97 ≤ c ∧ c ≤ 102)) : isDig c = true := by unfold isDig; simp; omega

end Go.Proofs.YtkmdajenbidaaaaDoor

namespace Go.Proofs.YtkmdajenbidaaaaDoor
open Go.RowKit
set_option maxRecDepth 100000

/-- The byte at a place, as a number. -/
def bt (s : ByteArray) (j : Nat) : Nat := (s.data.toList.getD j 0).toNat
theorem bt_get (s : ByteArray) (k : Nat) (h : k < s.size) : s[k].toNat = bt s k := by
  unfold bt
  have : s.data.toList.getD k 0 = s[k] := by
    simp [List.getD, List.getElem?_eq_getElem (show k < s.data.toList.length by simpa using h)]; rfl
  rw [this]
theorem bt_lt (s : ByteArray) (k : Nat) : bt s k < 256 := byte_lt _

def hexOk (s : ByteArray) : Bool := decide (s.size % 2 = 0) && (List.range s.size).all (fun j => isDig (bt s j))
/-- The byte of two digits. -/
def hexByte (s : ByteArray) (i : Nat) : Nat := 16 * digVal (bt s (2 * i)) + digVal (bt s (2 * i + 1))
theorem hexByte_lt (s : ByteArray) (i : Nat) : hexByte s i < 256 := by
  have h1 := digVal_lt (bt s (2 * i)); have h2 := digVal_lt (bt s (2 * i + 1)); unfold hexByte; omega
def unhexL (s : ByteArray) : List UInt8 := bytesOf (s.size / 2) (hexByte s)
def unhexR (s : ByteArray) : Value := if hexOk s then .tuple #[.string ⟨(unhexL s).toArray⟩, .int .i64 0] else .tuple #[.string ⟨#[]⟩, .int .i64 1]
theorem unhexR_odd (s : ByteArray) (h : ¬ s.size % 2 = 0) : unhexR s = .tuple #[.string ⟨#[]⟩, .int .i64 1] := by
  unfold unhexR hexOk; simp [h]
theorem unhexR_no (s : ByteArray) (k : Nat) (h : k < s.size) (hd : isDig (bt s k) = false) : unhexR s = .tuple #[.string ⟨#[]⟩, .int .i64 1] := by
  unfold unhexR
  rw [if_neg]
  unfold hexOk
  simp
  intro _
  exact ⟨k, h, hd⟩
theorem unhexR_yes (s : ByteArray) (h : s.size % 2 = 0) (hd : ∀ j, j < s.size → isDig (bt s j) = true) : unhexR s = .tuple #[.string ⟨(unhexL s).toArray⟩, .int .i64 0] := by
  unfold unhexR
  rw [if_pos]
  unfold hexOk
  simp [h]
  exact hd

/-- word.Unhex's row behind k rounds. -/
def unAt (s : ByteArray) (k : Nat) (i : Nat) : Int :=
  if 2 * i + 1 < k then (hexByte s i : Int) else if 2 * i < k then (digVal (bt s (2 * i)) : Int) else 0
theorem unAt_zero (s : ByteArray) (i : Nat) : unAt s 0 i = 0 := by simp [unAt]

theorem or16 (a d : Nat) (ha : a < 16) (hd : d < 16) : bits .or .u8 ((a : Int) * 16 % 256) (d : Int) = ((16 * a + d : Nat) : Int) := by
  have e : ((a : Int) * 16 % 256) = ((16 * a : Nat) : Int) := by omega
  rw [e, u8_or_nat _ _ (by omega) (by omega), nat_join 4 (16 * a) d (by omega) (by omega)]
theorem unAt_step (s : ByteArray) (k : Nat) (h : k < s.size) : bits .or .u8 (unAt s k (k / 2) * 16 % 256) (digVal s[k].toNat : Int) = unAt s (k + 1) (k / 2) := by
  rw [bt_get s k h]
  by_cases e : k % 2 = 0
  · have h0 : unAt s k (k / 2) = ((0 : Nat) : Int) := by unfold unAt; rw [if_neg (by omega), if_neg (by omega)]; rfl
    rw [h0, or16 0 _ (by omega) (digVal_lt _)]
    unfold unAt; rw [if_neg (by omega), if_pos (by omega), show 2 * (k / 2) = k by omega]; simp
  · have h0 : unAt s k (k / 2) = (digVal (bt s (2 * (k / 2))) : Int) := by unfold unAt; rw [if_neg (by omega), if_pos (by omega)]
    rw [h0, or16 _ _ (digVal_lt _) (digVal_lt _)]
    unfold unAt; rw [if_pos (by omega)]; unfold hexByte; rw [show 2 * (k / 2) + 1 = k by omega]
theorem unAt_other (s : ByteArray) (k i : Nat) (h : i ≠ k / 2) : unAt s k i = unAt s (k + 1) i := by
  unfold unAt
  by_cases h1 : 2 * i + 1 < k
  · rw [if_pos h1, if_pos (by omega)]
  · rw [if_neg h1, if_neg (by omega), if_neg (by omega), if_neg (by omega)]
theorem unAt_end (s : ByteArray) (h : s.size % 2 = 0) : tab (s.size / 2) (unAt s s.size) = nums (unhexL s) := by
  unfold unhexL
  rw [nums_bytesOf _ _ (fun i _ => hexByte_lt s i)]
  exact tab_congr _ _ _ (fun i hi => by unfold unAt; rw [if_pos (by omega)])

end Go.Proofs.YtkmdajenbidaaaaDoor

namespace Go.Proofs.YtkmdajenbidaaaaDoor
open Go.RowKit
set_option maxRecDepth 100000

theorem rdig_yes (c : Nat) (h : isDig c = true) : rdig c = (digVal c : Int) := by unfold rdig; rw [if_pos h]
theorem rdig_no (c : Nat) (h : isDig c = false) : rdig c = -1 := by unfold rdig; rw [h]; rfl

theorem wrap_nat (n : Nat) (h : n ≤ 9223372036854775807) : IntKind.i64.wrap (n : Int) = (n : Int) := by
  rw [IntKind.wrap_i64]; omega

theorem below_of_drewN {B n : Nat} {w w' : World} (h : Below B (w.drewN n) w') : Below B w w' := ⟨h.os, h.tape, h.output, h.size, h.block⟩

theorem unhexL_get (s : ByteArray) (k j : Nat) (hj : j = 2 * k) (h : k < (nums (unhexL s)).length) (h0 : j < s.size) (h1 : j + 1 < s.size) :
    (nums (unhexL s))[k] = 16 * (digVal s[j].toNat : Int) + (digVal s[j + 1].toNat : Int) := by
  have hk : k < s.size / 2 := by rw [nums_length] at h; unfold unhexL at h; rw [bytesOf_length] at h; exact h
  have e : nums (unhexL s) = tab (s.size / 2) (fun i => (hexByte s i : Int)) := nums_bytesOf _ _ (fun i _ => hexByte_lt s i)
  rw [bt_get s j h0, bt_get s (j + 1) h1]
  simp only [e, tab_get _ _ k hk]
  unfold hexByte; rw [hj]; omega

end Go.Proofs.YtkmdajenbidaaaaDoor

namespace Go.Proofs.YtkmdajenbidaaaaDoor
open Go.RowKit
set_option maxRecDepth 100000

/-- The digits. -/
def digs : ByteArray := ⟨#[48, 49, 50, 51, 52, 53, 54, 55, 56, 57, 97, 98, 99, 100, 101, 102]⟩
def hexd (n : Nat) : Nat := bt digs n
/-- The digit at a place. -/
def hexPlace (s : ByteArray) (i : Nat) : Nat := if i % 2 = 0 then hexd (bt s (i / 2) / 16) else hexd (bt s (i / 2) % 16)
def hexL (s : ByteArray) : List UInt8 := bytesOf (2 * s.size) (hexPlace s)
def hexAt (s : ByteArray) (k : Nat) (i : Nat) : Int := if i < k then (hexPlace s i : Int) else 0
theorem hexAt_zero (s : ByteArray) (i : Nat) : hexAt s 0 i = 0 := by simp [hexAt]
theorem hexPlace_lt (s : ByteArray) (i : Nat) : hexPlace s i < 256 := by unfold hexPlace hexd; split <;> exact bt_lt _ _

theorem hexPlace_even (s : ByteArray) (k : Nat) : hexPlace s (2 * k) = hexd (bt s k / 16) := by
  unfold hexPlace; rw [if_pos (by omega), show 2 * k / 2 = k by omega]
theorem hexPlace_odd (s : ByteArray) (k : Nat) : hexPlace s (2 * k + 1) = hexd (bt s k % 16) := by
  unfold hexPlace; rw [if_neg (by omega), show (2 * k + 1) / 2 = k by omega]
theorem hexAt_set (s : ByteArray) (n j : Nat) : (tab n (hexAt s j)).set j (hexPlace s j : Int) = tab n (hexAt s (j + 1)) := by
  refine tab_set _ _ _ _ _ (by unfold hexAt; rw [if_pos (by omega)]) (fun i _ hne => ?_)
  unfold hexAt
  by_cases h : i < j
  · rw [if_pos h, if_pos (by omega)]
  · rw [if_neg h, if_neg (by omega)]
theorem hexAt_end (s : ByteArray) : tab (2 * s.size) (hexAt s (2 * s.size)) = nums (hexL s) := by
  unfold hexL
  rw [nums_bytesOf _ _ (fun i _ => hexPlace_lt s i)]
  exact tab_congr _ _ _ (fun i hi => by unfold hexAt; rw [if_pos hi])

theorem hexL_len (s : ByteArray) : (nums (hexL s)).length = 2 * s.size := by rw [nums_length]; unfold hexL; rw [bytesOf_length]
theorem hexL_get (s : ByteArray) (i : Nat) (h : i < (nums (hexL s)).length) : (nums (hexL s))[i] = (hexPlace s i : Int) := by
  have hk : i < 2 * s.size := by rw [hexL_len] at h; exact h
  have e : nums (hexL s) = tab (2 * s.size) (fun i => (hexPlace s i : Int)) := nums_bytesOf _ _ (fun i _ => hexPlace_lt s i)
  simp only [e, tab_get _ _ i hk]

end Go.Proofs.YtkmdajenbidaaaaDoor

namespace Go.Proofs.YtkmdajenbidaaaaDoor
open Go.RowKit
set_option maxRecDepth 100000

theorem below_step {B : Nat} {w w1 w2 : World} (h : Below B w w1) (hB : B ≤ w.heap.size) (h2 : Below w1.heap.size w1 w2) : Below B w w2 :=
  h.trans (h2.mono (Nat.le_trans hB h.size))

end Go.Proofs.YtkmdajenbidaaaaDoor

namespace Go.Proofs.YtkmdajenbidaaaaDoor
open Go.RowKit
set_option maxRecDepth 100000

theorem i64_mask (n : Int) (j : Nat) (hj : j ≤ 32) (m : Int) (hm : (BitVec.ofInt 64 m).toNat = 2 ^ j - 1) : bits .and .i64 n m = n % ((2 ^ j : Nat) : Int) := by
  have key : (BitVec.ofInt 64 n &&& BitVec.ofInt 64 m).toNat = (n % ((2 ^ 64 : Nat) : Int)).toNat % 2 ^ j := by
    rw [BitVec.toNat_and, BitVec.toNat_ofInt, hm, Nat.and_two_pow_sub_one_eq_mod]
  show IntKind.i64.wrap ((BitVec.ofInt 64 n &&& BitVec.ofInt 64 m).toNat : Nat) = n % ((2 ^ j : Nat) : Int)
  rw [key, IntKind.wrap_i64]
  have hd : (2 ^ j : Nat) ∣ 2 ^ 64 := Nat.pow_dvd_pow 2 (by omega)
  have hp : 2 ^ j ≤ 4294967296 := Nat.le_trans (Nat.pow_le_pow_right (by decide) hj) (by decide)
  have hpos : 0 < 2 ^ j := Nat.two_pow_pos j
  have h1 : (((n % ((2 ^ 64 : Nat) : Int)).toNat % 2 ^ j : Nat) : Int) = n % ((2 ^ j : Nat) : Int) := by
    rw [Int.natCast_emod, Int.toNat_of_nonneg (Int.emod_nonneg _ (by decide))]
    exact Int.emod_emod_of_dvd n (Int.natCast_dvd_natCast.2 hd)
  rw [h1]
  generalize 2 ^ j = p at *
  have h2 := Int.emod_nonneg n (show (p : Int) ≠ 0 by omega)
  have h3 := Int.emod_lt_of_pos n (show (0 : Int) < (p : Int) by omega)
  generalize n % (p : Int) = z at *
  omega

theorem i64_and31 (n : Int) : bits .and .i64 n 31 = n % 32 := i64_mask n 5 (by decide) 31 (by decide)
theorem i64_and32 (n : Int) : bits .and .i64 n 4294967295 = n % 4294967296 := i64_mask n 32 (by decide) 4294967295 (by decide)

/-- The word X, turned left by k bits. -/
def rotN (X k : Nat) : Nat := (X * 2 ^ k % 4294967296) ||| (X / 2 ^ (32 - k))
theorem div_lt32 (X k : Nat) (hX : X < 4294967296) : X / 2 ^ k < 4294967296 := Nat.lt_of_le_of_lt (Nat.div_le_self _ _) hX
theorem rotN_lt (X k : Nat) (hX : X < 4294967296) : rotN X k < 4294967296 := by
  unfold rotN
  have := Nat.or_lt_two_pow (n := 32) (Nat.mod_lt (X * 2 ^ k) (by decide)) (div_lt32 X (32 - k) hX)
  exact this
theorem rot_bits (X k : Nat) (hX : X < 4294967296) : bits .or .u32 ((X : Int) * 2 ^ k % 4294967296) ((X : Int) / 2 ^ (32 - k)) = (rotN X k : Int) := by
  have e1 : ((X : Int) * 2 ^ k % 4294967296) = ((X * 2 ^ k % 4294967296 : Nat) : Int) := by simp
  have e2 : ((X : Int) / 2 ^ (32 - k)) = ((X / 2 ^ (32 - k) : Nat) : Int) := by simp
  rw [e1, e2, u32_or_nat _ _ (Nat.mod_lt _ (by decide)) (div_lt32 _ _ hX)]
  rfl

theorem wraps_i64 (n : Int) (h₀ : 0 ≤ n) (h₁ : n < 2 ^ 63) : IntKind.i64.wrap n = n := by rw [IntKind.wrap_i64]; omega
theorem i64_or_nat (a b : Nat) (ha : a < 9223372036854775808) (hb : b < 9223372036854775808) : bits .or .i64 (a : Int) (b : Int) = ((a ||| b : Nat) : Int) :=
  (bits_nat .i64 63 (by decide) wraps_i64 a b ha hb).2
theorem rrot_bits (X k : Nat) (hX : X < 4294967296) (hk : k < 32) : bits .or .i64 (wrap64 ((X : Int) * 2 ^ k)) ((X : Int) / 2 ^ (32 - k)) % 4294967296 = (rotN X k : Int) := by
  have hp : 2 ^ k ≤ 2147483648 := Nat.le_trans (Nat.pow_le_pow_right (by decide) (show k ≤ 31 by omega)) (by decide)
  have hm : X * 2 ^ k < 9223372036854775808 := by
    have := Nat.mul_le_mul (show X ≤ 4294967295 by omega) hp
    omega
  have e1 : wrap64 ((X : Int) * 2 ^ k) = ((X * 2 ^ k : Nat) : Int) := by
    have e0 : ((X : Int) * 2 ^ k) = ((X * 2 ^ k : Nat) : Int) := by simp
    rw [e0]
    generalize X * 2 ^ k = z at *
    unfold wrap64
    omega
  have e2 : ((X : Int) / 2 ^ (32 - k)) = ((X / 2 ^ (32 - k) : Nat) : Int) := by simp
  have hd := div_lt32 X (32 - k) hX
  rw [e1, e2, i64_or_nat _ _ hm (by omega)]
  have e3 : ((X * 2 ^ k ||| X / 2 ^ (32 - k)) % 2 ^ 32 : Nat) = rotN X k := by
    rw [Nat.or_mod_two_pow]
    unfold rotN
    rw [Nat.mod_eq_of_lt (show X / 2 ^ (32 - k) < 2 ^ 32 from hd)]
  rw [← e3]
  simp

/-! ### What turning does, bit by bit. -/
theorem rotN_bit (X k i : Nat) (hX : X < 4294967296) (hk : k < 32) : (rotN X k).testBit i = (decide (i < 32) && X.testBit ((i + 32 - k) % 32)) := by
  unfold rotN
  have e : X * 2 ^ k % 4294967296 = X * 2 ^ k % 2 ^ 32 := rfl
  rw [e, Nat.testBit_or, Nat.testBit_mod_two_pow, Nat.testBit_mul_two_pow, Nat.testBit_div_two_pow]
  have hz : ∀ j, 32 ≤ j → X.testBit j = false := fun j hj => Nat.testBit_lt_two_pow (Nat.lt_of_lt_of_le hX (Nat.pow_le_pow_right (n := 2) (by decide) hj))
  by_cases hi : i < 32
  · by_cases hk' : k ≤ i
    · rw [hz (i + (32 - k)) (by omega), show (i + 32 - k) % 32 = i - k by omega]
      simp [hi, hk']
    · rw [show (i + 32 - k) % 32 = i + (32 - k) by omega]
      simp [hi, hk']
  · rw [hz (i + (32 - k)) (by omega)]
    simp [hi]

theorem rotN_rotN (X a b : Nat) (hX : X < 4294967296) (ha : a < 32) (hb : b < 32) : rotN (rotN X a) b = rotN X ((a + b) % 32) := by
  apply Nat.eq_of_testBit_eq
  intro i
  rw [rotN_bit _ _ _ (rotN_lt X a hX) hb, rotN_bit _ _ _ hX ha, rotN_bit _ _ _ hX (Nat.mod_lt _ (by decide))]
  by_cases hi : i < 32
  · rw [show ((i + 32 - b) % 32 + 32 - a) % 32 = (i + 32 - (a + b) % 32) % 32 by omega]
    simp [hi, Nat.mod_lt]
  · simp [hi]

theorem rotN_zero (X : Nat) (hX : X < 4294967296) : rotN X 0 = X := by
  apply Nat.eq_of_testBit_eq
  intro i
  rw [rotN_bit _ _ _ hX (by decide)]
  by_cases hi : i < 32
  · simp [hi, Nat.mod_eq_of_lt hi]
  · have : X.testBit i = false := Nat.testBit_lt_two_pow (Nat.lt_of_lt_of_le hX (Nat.pow_le_pow_right (n := 2) (by decide) (show 32 ≤ i by omega)))
    simp [hi, this]

theorem rotN_xor (X Y k : Nat) (hX : X < 4294967296) (hY : Y < 4294967296) (hk : k < 32) : rotN (X ^^^ Y) k = rotN X k ^^^ rotN Y k := by
  apply Nat.eq_of_testBit_eq
  intro i
  rw [Nat.testBit_xor, rotN_bit _ _ _ (Nat.xor_lt_two_pow (n := 32) hX hY) hk, rotN_bit _ _ _ hX hk, rotN_bit _ _ _ hY hk, Nat.testBit_xor]
  by_cases hi : i < 32 <;> simp [hi]
end Go.Proofs.YtkmdajenbidaaaaDoor

namespace Go.Proofs.YtkmdajenbidaaaaDoor
open Go.RowKit
set_option maxRecDepth 100000

theorem Tryd.info3 : (Tryd.prog.info? 3).map (fun i => (i.zero, i.size, i.bytes)) = some (some (.int .i64 0), 1, 8) := by kernel_rfl

/-- A word of four bytes, the first one the highest. -/
def bigW (a b c d : Nat) : Nat := ((a * 2 ^ 24 ||| b * 2 ^ 16) ||| c * 2 ^ 8) ||| d
/-- The word at a place, of bytes that stand as far up as sh says, as far as k bytes are there. -/
def part (s : ByteArray) (sh : Nat → Nat) (k j : Nat) : Nat := if j < k then bt s j * 2 ^ sh j else 0
def wAt (s : ByteArray) (sh : Nat → Nat) (k i : Nat) : Nat := ((part s sh k (4 * i) ||| part s sh k (4 * i + 1)) ||| part s sh k (4 * i + 2)) ||| part s sh k (4 * i + 3)

theorem part_lt (s : ByteArray) (sh : Nat → Nat) (hsh : ∀ j, sh j ≤ 24) (k j : Nat) : part s sh k j < 2 ^ 32 := by
  unfold part
  split
  · have h1 := bt_lt s j
    have h2 : 2 ^ sh j ≤ 2 ^ 24 := Nat.pow_le_pow_right (by decide) (hsh j)
    have := Nat.mul_lt_mul_of_lt_of_le h1 h2 (by decide)
    exact this
  · decide
theorem wAt_lt (s : ByteArray) (sh : Nat → Nat) (hsh : ∀ j, sh j ≤ 24) (k i : Nat) : wAt s sh k i < 2 ^ 32 := by
  unfold wAt
  exact Nat.or_lt_two_pow (Nat.or_lt_two_pow (Nat.or_lt_two_pow (part_lt s sh hsh _ _) (part_lt s sh hsh _ _)) (part_lt s sh hsh _ _)) (part_lt s sh hsh _ _)
theorem wAt_zero (s : ByteArray) (sh : Nat → Nat) (i : Nat) : wAt s sh 0 i = 0 := by unfold wAt part; simp
theorem part_same (s : ByteArray) (sh : Nat → Nat) (k j : Nat) (h : j ≠ k) : part s sh (k + 1) j = part s sh k j := by
  unfold part
  by_cases h1 : j < k
  · rw [if_pos h1, if_pos (by omega)]
  · rw [if_neg h1, if_neg (by omega)]
theorem part_new (s : ByteArray) (sh : Nat → Nat) (k : Nat) : part s sh (k + 1) k = bt s k * 2 ^ sh k := by unfold part; rw [if_pos (by omega)]
theorem part_old (s : ByteArray) (sh : Nat → Nat) (k : Nat) : part s sh k k = 0 := by unfold part; rw [if_neg (by omega)]
theorem wAt_other (s : ByteArray) (sh : Nat → Nat) (k i : Nat) (h : i ≠ k / 4) : wAt s sh k i = wAt s sh (k + 1) i := by
  unfold wAt
  rw [part_same _ _ _ _ (by omega), part_same _ _ _ _ (by omega), part_same _ _ _ _ (by omega), part_same _ _ _ _ (by omega)]
theorem wAt_step (s : ByteArray) (sh : Nat → Nat) (k : Nat) : wAt s sh k (k / 4) ||| bt s k * 2 ^ sh k = wAt s sh (k + 1) (k / 4) := by
  unfold wAt
  rcases (show k % 4 = 0 ∨ k % 4 = 1 ∨ k % 4 = 2 ∨ k % 4 = 3 by omega) with h | h | h | h
  · rw [show 4 * (k / 4) = k by omega, part_new, part_old, part_same _ _ _ _ (by omega), part_same _ _ _ _ (by omega), part_same _ _ _ _ (by omega)]
    unfold part; rw [if_neg (by omega), if_neg (by omega), if_neg (by omega)]; simp
  · rw [show 4 * (k / 4) + 1 = k by omega, part_new, part_old, part_same _ _ _ _ (by omega), part_same _ _ _ _ (by omega), part_same _ _ _ _ (by omega)]
    unfold part; rw [if_neg (show ¬ 4 * (k / 4) + 2 < k by omega), if_neg (show ¬ 4 * (k / 4) + 3 < k by omega)]; simp
  · rw [show 4 * (k / 4) + 2 = k by omega, part_new, part_old, part_same _ _ _ _ (by omega), part_same _ _ _ _ (by omega), part_same _ _ _ _ (by omega)]
    unfold part; rw [if_neg (show ¬ 4 * (k / 4) + 3 < k by omega)]; simp
  · rw [show 4 * (k / 4) + 3 = k by omega, part_new, part_old, part_same _ _ _ _ (by omega), part_same _ _ _ _ (by omega), part_same _ _ _ _ (by omega)]
    simp

theorem take_bits (s : ByteArray) (sh : Nat → Nat) (hsh : ∀ j, sh j ≤ 24) (k : Nat) (h : k < s.size) :
    bits .or .i64 ((wAt s sh k (k / 4) : Nat) : Int) (wrap64 (wrap64 (s[k].toNat : Int) * 2 ^ sh k)) = ((wAt s sh (k + 1) (k / 4) : Nat) : Int) := by
  rw [show wrap64 (s[k].toNat : Int) = (s[k].toNat : Int) by have := byte_lt s[k]; unfold wrap64; omega]
  rw [bt_get s k h]
  have h1 := bt_lt s k
  have h2 : 2 ^ sh k ≤ 16777216 := Nat.le_trans (Nat.pow_le_pow_right (by decide) (hsh k)) (by decide)
  have hm : bt s k * 2 ^ sh k < 4294967296 := by
    have := Nat.mul_le_mul (show bt s k ≤ 255 by omega) h2
    omega
  have e1 : wrap64 ((bt s k : Int) * 2 ^ sh k) = ((bt s k * 2 ^ sh k : Nat) : Int) := by
    have e0 : ((bt s k : Int) * 2 ^ sh k) = ((bt s k * 2 ^ sh k : Nat) : Int) := by simp
    rw [e0]
    generalize bt s k * 2 ^ sh k = z at *
    unfold wrap64
    omega
  have hw : wAt s sh k (k / 4) < 4294967296 := wAt_lt s sh hsh k (k / 4)
  rw [e1, i64_or_nat _ _ (by omega) (by omega), wAt_step]

def bsh (j : Nat) : Nat := 24 - 8 * (j % 4)
def ssh (j : Nat) : Nat := 8 * (j % 4)
theorem bsh_le (j : Nat) : bsh j ≤ 24 := by unfold bsh; omega
theorem ssh_le (j : Nat) : ssh j ≤ 24 := by unfold ssh; omega
/-- The words of bytes. -/
def wordsL (s : ByteArray) (sh : Nat → Nat) : List Int := tab (s.size / 4) (fun i => (wAt s sh s.size i : Int))

end Go.Proofs.YtkmdajenbidaaaaDoor

namespace Go.Proofs.YtkmdajenbidaaaaDoor
open Go.RowKit
set_option maxRecDepth 100000

/-- A slice of n numbers that can be read. -/
def IntsAt (w : World) (K : IntKind) (a : Option Addr) (n : Nat) (l : List Int) : Prop :=
  l.length = n ∧ (n = 0 ∨ ∃ b off, a = some ⟨b, off, none⟩ ∧ ∀ i, i < n → w.cell? ⟨b, off + i, none⟩ = some (.int K (l.getD i 0)))

theorem IntsAt.below {w w' : World} {K : IntKind} {a : Option Addr} {n : Nat} {l : List Int} (h : IntsAt w K a n l) (hb : Below w.heap.size w w') : IntsAt w' K a n l := by
  refine ⟨h.1, ?_⟩
  rcases h.2 with h0 | ⟨b, off, ha, hc⟩
  · exact .inl h0
  · refine .inr ⟨b, off, ha, fun i hi => ?_⟩
    have h1 := hc i hi
    have hlt := World.block_lt_of_cell? w _ h1
    rw [hb.cell (p := ⟨b, off + i, none⟩) hlt]; exact h1

theorem Own.ints {w : World} {B g n : Nat} {e : TypeId} {K : IntKind} {l : List Int} (h : Own w B e K g n l) : IntsAt w K (some ⟨g, 0, none⟩) n l :=
  ⟨h.len, .inr ⟨g, 0, rfl, fun i hi => by rw [Nat.zero_add]; exact h.cell i hi⟩⟩

theorem OwnV.ints {w : World} {B n : Nat} {e : TypeId} {K : IntKind} {v : Value} {l : List Int} (h : OwnV w B e K v n l) : ∃ a c, v = .slice a n c ∧ IntsAt w K a n l := by
  have hl := h.len
  rcases h.2 with ⟨rfl, rfl⟩ | ⟨g, cap, cur, rfl, r⟩
  · exact ⟨none, 0, rfl, hl, .inl rfl⟩
  · refine ⟨some ⟨g, 0, none⟩, cap, rfl, hl, .inr ⟨g, 0, rfl, fun i hi => ?_⟩⟩
    rw [Nat.zero_add, World.ownsRow.cellAt (⟨h.1, .inr ⟨g, cap, cur, rfl, r⟩⟩ : w.ownsRow B e 1 (.slice (some ⟨g, 0, none⟩) n cap) n _) i (by omega)]
    simp [List.getD, List.getElem?_eq_getElem (show i < l.length by omega)]

theorem ints_lit (w : World) (K : IntKind) (x : Int) (e : TypeId) : IntsAt (w.alloc (.cells #[.int K x] e)) K (some ⟨w.heap.size, 0, none⟩) 1 [x] := by
  refine ⟨rfl, .inr ⟨w.heap.size, 0, rfl, fun i hi => ?_⟩⟩
  obtain rfl : i = 0 := by omega
  simp

/-- A slice of numbers that came in. -/
theorem ints_row {w : World} {K : IntKind} {a : Option Addr} {len cap : Nat} {zs : List Int}
    (h : (a = none ∧ len = 0 ∧ cap = 0 ∧ zs = []) ∨ ∃ x, a = some x ∧ len ≤ cap ∧ cap ≤ maxLen ∧ zs.length = cap ∧ (∀ i, i < zs.length → w.cell? (x.add i) = some (.int K (zs.getD i 0))) ∧ ∀ n ∈ zs, (Lit.int K n).wf = true) :
    len ≤ maxLen ∧ IntsAt w K a len (zs.take len) := by
  rcases h with ⟨rfl, rfl, rfl, rfl⟩ | ⟨x, rfl, hl, hm, hz, hc, _⟩
  · exact ⟨Nat.zero_le _, rfl, .inl rfl⟩
  · refine ⟨Nat.le_trans hl hm, by simp; omega, ?_⟩
    by_cases h0 : len = 0
    · exact .inl h0
    · obtain ⟨b, off, rfl, hc'⟩ := ints_at hc (by omega)
      refine .inr ⟨b, off, rfl, fun i hi => ?_⟩
      rw [hc' i (by omega)]
      simp [List.getD, hi]

end Go.Proofs.YtkmdajenbidaaaaDoor

namespace Go.Proofs.YtkmdajenbidaaaaDoor
open Go.RowKit
set_option maxRecDepth 100000

/-- The byte at a place of words, from as far up as sh says. -/
def pb (l : List Int) (sh : Nat → Nat) (j : Nat) : Nat := (l.getD (j / 4) 0 / ((2 ^ sh j : Nat) : Int) % 256).toNat
theorem pb_lt (l : List Int) (sh : Nat → Nat) (j : Nat) : pb l sh j < 256 := by unfold pb; omega
theorem pb_int (l : List Int) (sh : Nat → Nat) (j : Nat) : ((pb l sh j : Nat) : Int) = l.getD (j / 4) 0 / ((2 ^ sh j : Nat) : Int) % 256 := by unfold pb; omega
def putL (l : List Int) (sh : Nat → Nat) : List UInt8 := bytesOf (4 * l.length) (pb l sh)
def putAt (l : List Int) (sh : Nat → Nat) (k j : Nat) : Int := if j < k then (pb l sh j : Int) else 0
theorem putAt_zero (l : List Int) (sh : Nat → Nat) (j : Nat) : putAt l sh 0 j = 0 := by simp [putAt]
theorem putAt_set (l : List Int) (sh : Nat → Nat) (n j : Nat) : (tab n (putAt l sh j)).set j (pb l sh j : Int) = tab n (putAt l sh (j + 1)) := by
  refine tab_set _ _ _ _ _ (by unfold putAt; rw [if_pos (by omega)]) (fun i _ hne => ?_)
  unfold putAt
  by_cases h : i < j
  · rw [if_pos h, if_pos (by omega)]
  · rw [if_neg h, if_neg (by omega)]
theorem putAt_end (l : List Int) (sh : Nat → Nat) (n : Nat) (hn : l.length = n) : tab (4 * n) (putAt l sh (4 * n)) = nums (putL l sh) := by
  unfold putL
  rw [nums_bytesOf _ _ (fun i _ => pb_lt l sh i), hn]
  exact tab_congr _ _ _ (fun i hi => by unfold putAt; rw [if_pos hi])

end Go.Proofs.YtkmdajenbidaaaaDoor

namespace Go.Proofs.YtkmdajenbidaaaaDoor
open Go.RowKit
set_option maxRecDepth 100000

theorem wl_big : wordsL ⟨#[0, 0, 1, 2]⟩ bsh = [258] := by decide +kernel
theorem wl_small : wordsL ⟨#[2, 1, 0, 0]⟩ ssh = [258] := by decide +kernel
theorem rot_31 : rotN 1 31 = 2147483648 := by decide +kernel

theorem below_new (w : World) (o : Obj) : Below w.heap.size w (w.alloc o) := (Below.refl _ _).alloc (Nat.le_refl _) o

end Go.Proofs.YtkmdajenbidaaaaDoor

namespace Go.Proofs.YtkmdajenbidaaaaDoor
open Go.RowKit
set_option maxRecDepth 100000

theorem bigW_sum (a b c d : Nat) (hb : b < 256) (hc : c < 256) (hd : d < 256) : bigW a b c d = a * 16777216 + b * 65536 + c * 256 + d := by
  unfold bigW
  rw [nat_join 24 (a * 2 ^ 24) (b * 2 ^ 16) (Nat.mul_mod_left _ _) (by omega)]
  rw [nat_join 16 (a * 2 ^ 24 + b * 2 ^ 16) (c * 2 ^ 8) (by omega) (by omega)]
  rw [nat_join 8 (a * 2 ^ 24 + b * 2 ^ 16 + c * 2 ^ 8) d (by omega) (by omega)]

theorem bigW_xor (a b c d a' b' c' d' : Nat) (hb : b < 256) (hc : c < 256) (hd : d < 256) (hb' : b' < 256) (hc' : c' < 256) (hd' : d' < 256) :
    bigW (a ^^^ a') (b ^^^ b') (c ^^^ c') (d ^^^ d') = bigW a b c d ^^^ bigW a' b' c' d' := by
  apply Nat.eq_of_testBit_eq
  intro i
  have z : ∀ x : Nat, x < 256 → ∀ j, 8 ≤ j → x.testBit j = false := fun x hx j hj => Nat.testBit_lt_two_pow (Nat.lt_of_lt_of_le hx (Nat.pow_le_pow_right (n := 2) (by decide) hj))
  unfold bigW
  simp only [Nat.testBit_or, Nat.testBit_xor, Nat.testBit_mul_two_pow]
  by_cases h1 : i < 8
  · simp [show ¬ 24 ≤ i by omega, show ¬ 16 ≤ i by omega, show ¬ 8 ≤ i by omega]
  · by_cases h2 : i < 16
    · simp [show ¬ 24 ≤ i by omega, show ¬ 16 ≤ i by omega, show 8 ≤ i by omega, z d hd i (by omega), z d' hd' i (by omega)]
    · by_cases h3 : i < 24
      · simp [show ¬ 24 ≤ i by omega, show 16 ≤ i by omega, show 8 ≤ i by omega, z d hd i (by omega), z d' hd' i (by omega), z c hc (i - 8) (by omega), z c' hc' (i - 8) (by omega)]
      · simp [show 24 ≤ i by omega, show 16 ≤ i by omega, show 8 ≤ i by omega, z d hd i (by omega), z d' hd' i (by omega), z c hc (i - 8) (by omega), z c' hc' (i - 8) (by omega), z b hb (i - 16) (by omega), z b' hb' (i - 16) (by omega)]

theorem or4 (a b c d : Nat) : ((a ||| b) ||| c) ||| d = ((d ||| c) ||| b) ||| a := by
  apply Nat.eq_of_testBit_eq
  intro j
  simp only [Nat.testBit_or]
  generalize a.testBit j = A
  generalize b.testBit j = B
  generalize c.testBit j = C
  generalize d.testBit j = D
  cases A <;> cases B <;> cases C <;> cases D <;> rfl

theorem part_full (s : ByteArray) (sh : Nat → Nat) (j : Nat) (h : j < s.size) : part s sh s.size j = bt s j * 2 ^ sh j := by unfold part; rw [if_pos h]
theorem wAt_big (s : ByteArray) (i : Nat) (h : 4 * i + 3 < s.size) : wAt s bsh s.size i = bigW (bt s (4 * i)) (bt s (4 * i + 1)) (bt s (4 * i + 2)) (bt s (4 * i + 3)) := by
  unfold wAt bigW
  rw [part_full _ _ _ (by omega), part_full _ _ _ (by omega), part_full _ _ _ (by omega), part_full _ _ _ (by omega)]
  rw [show bsh (4 * i) = 24 by unfold bsh; omega, show bsh (4 * i + 1) = 16 by unfold bsh; omega, show bsh (4 * i + 2) = 8 by unfold bsh; omega, show bsh (4 * i + 3) = 0 by unfold bsh; omega, Nat.pow_zero, Nat.mul_one]
theorem wAt_small (s : ByteArray) (i : Nat) (h : 4 * i + 3 < s.size) : wAt s ssh s.size i = bigW (bt s (4 * i + 3)) (bt s (4 * i + 2)) (bt s (4 * i + 1)) (bt s (4 * i)) := by
  unfold wAt bigW
  rw [part_full _ _ _ (by omega), part_full _ _ _ (by omega), part_full _ _ _ (by omega), part_full _ _ _ (by omega)]
  rw [show ssh (4 * i) = 0 by unfold ssh; omega, show ssh (4 * i + 1) = 8 by unfold ssh; omega, show ssh (4 * i + 2) = 16 by unfold ssh; omega, show ssh (4 * i + 3) = 24 by unfold ssh; omega, Nat.pow_zero, Nat.mul_one]
  exact or4 _ _ _ _

theorem wordsL_length (s : ByteArray) (sh : Nat → Nat) : (wordsL s sh).length = s.size / 4 := by unfold wordsL; rw [tab_length]
theorem wordsL_getD (s : ByteArray) (sh : Nat → Nat) (i : Nat) (h : i < s.size / 4) : (wordsL s sh).getD i 0 = (wAt s sh s.size i : Int) := by unfold wordsL; rw [tab_getD _ _ _ h]

theorem putL_length (l : List Int) (sh : Nat → Nat) : (putL l sh).length = 4 * l.length := by unfold putL; rw [bytesOf_length]

theorem bt_mk (l : List UInt8) (j : Nat) : bt ⟨l.toArray⟩ j = (l.getD j 0).toNat := rfl
theorem putL_bt (l : List Int) (sh : Nat → Nat) (j : Nat) (h : j < 4 * l.length) : bt ⟨(putL l sh).toArray⟩ j = pb l sh j := by
  rw [bt_mk]
  unfold putL bytesOf
  simp [List.getD, List.getElem?_map, List.getElem?_range h, Nat.mod_eq_of_lt (pb_lt l sh j)]

theorem bytes_eq (l : List UInt8) (s : ByteArray) (hl : l.length = s.size) (h : ∀ j, j < s.size → (l.getD j 0).toNat = bt s j) : (⟨l.toArray⟩ : ByteArray) = s := by
  apply bytes_ext
  show l = s.data.toList
  apply List.ext_getElem (by rw [hl]; simp)
  intro i h1 h2
  have hi := h i (by omega)
  unfold bt at hi
  have e1 : l.getD i 0 = l[i] := by simp [List.getD, List.getElem?_eq_getElem h1]
  have e2 : s.data.toList.getD i 0 = s.data.toList[i] := by simp [List.getD, List.getElem?_eq_getElem h2]
  rw [e1, e2] at hi
  exact UInt8.toNat_inj.1 hi

theorem byte24 (a b c d : Nat) (ha : a < 256) (hb : b < 256) (hc : c < 256) (hd : d < 256) : (((a * 16777216 + b * 65536 + c * 256 + d : Nat) : Int) / ((2 ^ 24 : Nat) : Int) % 256).toNat = a := by
  rw [show (2 ^ 24 : Nat) = 16777216 from rfl]; omega
theorem byte16 (a b c d : Nat) (hb : b < 256) (hc : c < 256) (hd : d < 256) : (((a * 16777216 + b * 65536 + c * 256 + d : Nat) : Int) / ((2 ^ 16 : Nat) : Int) % 256).toNat = b := by
  rw [show (2 ^ 16 : Nat) = 65536 from rfl]; omega
theorem byte8 (a b c d : Nat) (hc : c < 256) (hd : d < 256) : (((a * 16777216 + b * 65536 + c * 256 + d : Nat) : Int) / ((2 ^ 8 : Nat) : Int) % 256).toNat = c := by
  rw [show (2 ^ 8 : Nat) = 256 from rfl]; omega
theorem byte0 (a b c d : Nat) (hd : d < 256) : (((a * 16777216 + b * 65536 + c * 256 + d : Nat) : Int) / ((2 ^ 0 : Nat) : Int) % 256).toNat = d := by
  rw [show (2 ^ 0 : Nat) = 1 from rfl]; omega

theorem four (j : Nat) : (bsh j = 24 ∧ ssh j = 0 ∧ j = 4 * (j / 4)) ∨ (bsh j = 16 ∧ ssh j = 8 ∧ j = 4 * (j / 4) + 1) ∨ (bsh j = 8 ∧ ssh j = 16 ∧ j = 4 * (j / 4) + 2) ∨ (bsh j = 0 ∧ ssh j = 24 ∧ j = 4 * (j / 4) + 3) := by
  unfold bsh ssh; omega

/-- The bytes of words, put again, are the bytes. -/
theorem pb_big (s : ByteArray) (h : s.size % 4 = 0) (j : Nat) (hj : j < s.size) : pb (wordsL s bsh) bsh j = bt s j := by
  unfold pb
  have hi : 4 * (j / 4) + 3 < s.size := by omega
  rw [wordsL_getD _ _ _ (by omega), wAt_big s (j / 4) hi, bigW_sum _ _ _ _ (bt_lt _ _) (bt_lt _ _) (bt_lt _ _)]
  rcases four j with ⟨e, _, e'⟩ | ⟨e, _, e'⟩ | ⟨e, _, e'⟩ | ⟨e, _, e'⟩
  · rw [e, byte24 _ _ _ _ (bt_lt _ _) (bt_lt _ _) (bt_lt _ _) (bt_lt _ _), ← e']
  · rw [e, byte16 _ _ _ _ (bt_lt _ _) (bt_lt _ _) (bt_lt _ _), ← e']
  · rw [e, byte8 _ _ _ _ (bt_lt _ _) (bt_lt _ _), ← e']
  · rw [e, byte0 _ _ _ _ (bt_lt _ _), ← e']
theorem pb_small (s : ByteArray) (h : s.size % 4 = 0) (j : Nat) (hj : j < s.size) : pb (wordsL s ssh) ssh j = bt s j := by
  unfold pb
  have hi : 4 * (j / 4) + 3 < s.size := by omega
  rw [wordsL_getD _ _ _ (by omega), wAt_small s (j / 4) hi, bigW_sum _ _ _ _ (bt_lt _ _) (bt_lt _ _) (bt_lt _ _)]
  rcases four j with ⟨_, e, e'⟩ | ⟨_, e, e'⟩ | ⟨_, e, e'⟩ | ⟨_, e, e'⟩
  · rw [e, byte0 _ _ _ _ (bt_lt _ _), ← e']
  · rw [e, byte8 _ _ _ _ (bt_lt _ _) (bt_lt _ _), ← e']
  · rw [e, byte16 _ _ _ _ (bt_lt _ _) (bt_lt _ _) (bt_lt _ _), ← e']
  · rw [e, byte24 _ _ _ _ (bt_lt _ _) (bt_lt _ _) (bt_lt _ _) (bt_lt _ _), ← e']
theorem put_words_big (s : ByteArray) (h : s.size % 4 = 0) : (⟨(putL (wordsL s bsh) bsh).toArray⟩ : ByteArray) = s := by
  apply bytes_eq
  · rw [putL_length, wordsL_length]; omega
  · intro j hj
    have h1 := putL_bt (wordsL s bsh) bsh j (by rw [wordsL_length]; omega)
    rw [bt_mk] at h1
    rw [h1, pb_big s h j hj]
theorem put_words_small (s : ByteArray) (h : s.size % 4 = 0) : (⟨(putL (wordsL s ssh) ssh).toArray⟩ : ByteArray) = s := by
  apply bytes_eq
  · rw [putL_length, wordsL_length]; omega
  · intro j hj
    have h1 := putL_bt (wordsL s ssh) ssh j (by rw [wordsL_length]; omega)
    rw [bt_mk] at h1
    rw [h1, pb_small s h j hj]
end Go.Proofs.YtkmdajenbidaaaaDoor

namespace Go.Proofs.YtkmdajenbidaaaaDoor
open Go.RowKit
set_option maxRecDepth 100000

theorem nat_mod (x : Int) (m : Nat) (hm : 0 < m) : ∃ X : Nat, X < m ∧ x % (m : Int) = (X : Int) := by
  have h1 := Int.emod_nonneg x (show (m : Int) ≠ 0 by omega)
  have h2 := Int.emod_lt_of_pos x (show (0 : Int) < (m : Int) by omega)
  exact ⟨(x % (m : Int)).toNat, by omega, by omega⟩

end Go.Proofs.YtkmdajenbidaaaaDoor

namespace Go.Proofs.YtkmdajenbidaaaaDoor
open Go.RowKit
set_option maxRecDepth 100000
set_option linter.unusedSimpArgs false

theorem wrap_byte (a : Nat) (h : a < 4294967296) : IntKind.i64.wrap (a : Int) = (a : Int) := wrap_nat a (by omega)
theorem rbig_bits (a b c d : Nat) (ha : a < 256) (hb : b < 256) (hc : c < 256) (hd : d < 256) :
    bits .or .i64 (bits .or .i64 (bits .or .i64 (IntKind.i64.wrap (IntKind.i64.wrap (a : Int) * 16777216)) (IntKind.i64.wrap (IntKind.i64.wrap (b : Int) * 65536))) (IntKind.i64.wrap (IntKind.i64.wrap (c : Int) * 256))) (IntKind.i64.wrap (d : Int)) = ((bigW a b c d : Nat) : Int) := by
  rw [wrap_byte a (by omega), wrap_byte b (by omega), wrap_byte c (by omega), wrap_byte d (by omega)]
  rw [show (a : Int) * 16777216 = ((a * 2 ^ 24 : Nat) : Int) by omega, show (b : Int) * 65536 = ((b * 2 ^ 16 : Nat) : Int) by omega, show (c : Int) * 256 = ((c * 2 ^ 8 : Nat) : Int) by omega]
  rw [wrap_byte (a * 2 ^ 24) (by omega), wrap_byte (b * 2 ^ 16) (by omega), wrap_byte (c * 2 ^ 8) (by omega)]
  have h1 : a * 2 ^ 24 ||| b * 2 ^ 16 < 2 ^ 32 := Nat.or_lt_two_pow (by omega) (by omega)
  have h2 : (a * 2 ^ 24 ||| b * 2 ^ 16) ||| c * 2 ^ 8 < 2 ^ 32 := Nat.or_lt_two_pow h1 (by omega)
  rw [i64_or_nat _ _ (by omega) (by omega), i64_or_nat _ _ (by omega) (by omega), i64_or_nat _ _ (by omega) (by omega)]
  rfl

end Go.Proofs.YtkmdajenbidaaaaDoor

namespace Go.Proofs.YtkmdajenbidaaaaDoor
open Go.RowKit
set_option maxRecDepth 100000

theorem i64_and255 (n : Int) : bits .and .i64 n 255 = n % 256 := i64_mask n 8 (by decide) 255 (by decide)
theorem putL_nums (l : List Int) (sh : Nat → Nat) (j : Nat) (h : j < (nums (putL l sh)).length) : (nums (putL l sh))[j] = ((pb l sh j : Nat) : Int) := by
  have hk : j < 4 * l.length := by rw [nums_length, putL_length] at h; exact h
  have e : nums (putL l sh) = tab (4 * l.length) (fun i => (pb l sh i : Int)) := nums_bytesOf _ _ (fun i _ => pb_lt l sh i)
  simp only [e, tab_get _ _ j hk]
theorem pb0 (l : List Int) (k X : Nat) (hX : X < 4294967296) (h : l.getD k 0 % 4294967296 = (X : Int)) : ((pb l bsh (4 * k) : Nat) : Int) = (X : Int) / 16777216 := by
  rw [pb_int, show 4 * k / 4 = k by omega, show bsh (4 * k) = 24 by unfold bsh; omega, show (2 ^ 24 : Nat) = 16777216 from rfl]; omega
theorem pb1 (l : List Int) (k X : Nat) (h : l.getD k 0 % 4294967296 = (X : Int)) : ((pb l bsh (4 * k + 1) : Nat) : Int) = (X : Int) / 65536 % 256 := by
  rw [pb_int, show (4 * k + 1) / 4 = k by omega, show bsh (4 * k + 1) = 16 by unfold bsh; omega, show (2 ^ 16 : Nat) = 65536 from rfl]; omega
theorem pb2 (l : List Int) (k X : Nat) (h : l.getD k 0 % 4294967296 = (X : Int)) : ((pb l bsh (4 * k + 2) : Nat) : Int) = (X : Int) / 256 % 256 := by
  rw [pb_int, show (4 * k + 2) / 4 = k by omega, show bsh (4 * k + 2) = 8 by unfold bsh; omega, show (2 ^ 8 : Nat) = 256 from rfl]; omega
theorem pb3 (l : List Int) (k X : Nat) (h : l.getD k 0 % 4294967296 = (X : Int)) : ((pb l bsh (4 * k + 3) : Nat) : Int) = (X : Int) % 256 := by
  rw [pb_int, show (4 * k + 3) / 4 = k by omega, show bsh (4 * k + 3) = 0 by unfold bsh; omega, show (2 ^ 0 : Nat) = 1 from rfl]; omega

end Go.Proofs.YtkmdajenbidaaaaDoor

namespace Go.Proofs.YtkmdajenbidaaaaDoor
open Go.RowKit
set_option maxRecDepth 100000

/-- Bytes, four by four the other way round. -/
def tp (s : ByteArray) (j : Nat) : Nat := bt s (4 * (j / 4) + (3 - j % 4))
def turnL (s : ByteArray) : List UInt8 := bytesOf (4 * (s.size / 4)) (tp s)
theorem tp_lt (s : ByteArray) (j : Nat) : tp s j < 256 := bt_lt _ _
theorem turnL_len (s : ByteArray) : (nums (turnL s)).length = 4 * (s.size / 4) := by rw [nums_length]; unfold turnL; rw [bytesOf_length]
theorem turnL_get (s : ByteArray) (j : Nat) (h : j < (nums (turnL s)).length) : (nums (turnL s))[j] = ((tp s j : Nat) : Int) := by
  have hk : j < 4 * (s.size / 4) := by rw [turnL_len] at h; exact h
  have e : nums (turnL s) = tab (4 * (s.size / 4)) (fun i => (tp s i : Int)) := nums_bytesOf _ _ (fun i _ => tp_lt s i)
  simp only [e, tab_get _ _ j hk]
theorem tp0 (s : ByteArray) (k : Nat) : tp s (4 * k) = bt s (4 * k + 3) := by unfold tp; rw [show 4 * (4 * k / 4) + (3 - 4 * k % 4) = 4 * k + 3 by omega]
theorem tp1 (s : ByteArray) (k : Nat) : tp s (4 * k + 1) = bt s (4 * k + 2) := by unfold tp; rw [show 4 * ((4 * k + 1) / 4) + (3 - (4 * k + 1) % 4) = 4 * k + 2 by omega]
theorem tp2 (s : ByteArray) (k : Nat) : tp s (4 * k + 2) = bt s (4 * k + 1) := by unfold tp; rw [show 4 * ((4 * k + 2) / 4) + (3 - (4 * k + 2) % 4) = 4 * k + 1 by omega]
theorem tp3 (s : ByteArray) (k : Nat) : tp s (4 * k + 3) = bt s (4 * k) := by unfold tp; rw [show 4 * ((4 * k + 3) / 4) + (3 - (4 * k + 3) % 4) = 4 * k by omega]

theorem turn_size (s : ByteArray) : (⟨(turnL s).toArray⟩ : ByteArray).size = 4 * (s.size / 4) := by
  show (turnL s).toArray.size = _
  rw [List.size_toArray]; unfold turnL; rw [bytesOf_length]
theorem turn_bt (s : ByteArray) (j : Nat) (h : j < 4 * (s.size / 4)) : bt ⟨(turnL s).toArray⟩ j = tp s j := by
  rw [bt_mk]
  unfold turnL bytesOf
  simp [List.getD, List.getElem?_map, List.getElem?_range h, Nat.mod_eq_of_lt (tp_lt s j)]
theorem turn_words (s : ByteArray) (h : s.size % 4 = 0) : wordsL ⟨(turnL s).toArray⟩ bsh = wordsL s ssh := by
  have e : (⟨(turnL s).toArray⟩ : ByteArray).size = s.size := by rw [turn_size]; omega
  have e2 : wordsL ⟨(turnL s).toArray⟩ bsh = tab (s.size / 4) (fun i => ((wAt ⟨(turnL s).toArray⟩ bsh (⟨(turnL s).toArray⟩ : ByteArray).size i : Nat) : Int)) := by
    unfold wordsL; rw [e]
  rw [e2]
  unfold wordsL
  refine tab_congr _ _ _ (fun i hi => ?_)
  rw [wAt_big _ i (by rw [e]; omega), wAt_small s i (by omega)]
  rw [turn_bt s _ (by omega), turn_bt s _ (by omega), turn_bt s _ (by omega), turn_bt s _ (by omega), tp0, tp1, tp2, tp3]
theorem turn_put (l : List Int) : (⟨(turnL ⟨(putL l bsh).toArray⟩).toArray⟩ : ByteArray) = ⟨(putL l ssh).toArray⟩ := by
  have hs : (⟨(putL l bsh).toArray⟩ : ByteArray).size = 4 * l.length := by
    show (putL l bsh).toArray.size = _; rw [List.size_toArray, putL_length]
  have hs' : (⟨(putL l ssh).toArray⟩ : ByteArray).size = 4 * l.length := by
    show (putL l ssh).toArray.size = _; rw [List.size_toArray, putL_length]
  apply bytes_eq
  · unfold turnL; rw [bytesOf_length, hs, hs']; omega
  · intro j hj
    rw [hs'] at hj
    rw [← bt_mk, turn_bt _ j (by rw [hs]; omega), putL_bt l ssh j hj]
    unfold tp
    rw [putL_bt l bsh _ (by omega)]
    unfold pb
    rw [show (4 * (j / 4) + (3 - j % 4)) / 4 = j / 4 by omega, show bsh (4 * (j / 4) + (3 - j % 4)) = ssh j by unfold bsh ssh; omega]

end Go.Proofs.YtkmdajenbidaaaaDoor
