/- Rows of integers that a call itself makes and fills place by place: plain facts, nothing of the program. -/
import Derived.WalkKit
import Derived.WalkSpells
import Derived.Laws.BytesArg
import Derived.Deep.RegionHeld3
import Derived.Test.YtfbgofbjbfidoaaDoorBytes
namespace Go.Proofs.YtfbgofbjbfidoaaDoor
open Go.RowKit

/-- In a region that draws its order: an operation that yields its value is taken first (the library's law, its slot written out). -/
theorem take_at {P : Program} {md : Region.Mode} {ops : Array Oper} {Q : Exit → Act → World → Prop} {S : World → Prop} {i : Nat} {oi : Oper} {v : Value} {d : Tmp} {fuel : Nat} {listed : Array Bool} {a : Act} {w : World} (hi : ops[i]? = some oi)
    (hd : oi.dst = some d) (hs : Region.noSelect ops = true) (hf : Region.free md ops listed i = true) (hr : (Region.ready md ops listed).contains i = true)
    (hQ : ∀ c a w, Q (.panic c) (a.put (some d) v) w → Q (.panic c) a w) (hy : YieldsIf P ops S oi v a) (hS : S w)
    (h : wpAnyH P md ops Q S fuel (listed.setIfInBounds i true) (a.put (some d) v) w) : wpAnyH P md ops Q S (fuel + 1) listed a w :=
  wpAnyH_take hi hs hf hr (by rw [hd]; exact hQ) hy hS (by rw [hd]; exact h)

/-- A row of n numbers at the head of block g, of the call's own. -/
def Own (w : World) (B : Nat) (e : TypeId) (K : IntKind) (g n : Nat) (l : List Int) : Prop :=
  w.ownsRow B e 1 (.slice (some ⟨g, 0, none⟩) n n) n (l.map (Value.int K))

theorem Own.len {w : World} {B g n : Nat} {e : TypeId} {K : IntKind} {l : List Int} (h : Own w B e K g n l) : l.length = n := by
  have := h.1; simpa using this

theorem Own.cell {w : World} {B g n : Nat} {e : TypeId} {K : IntKind} {l : List Int} (h : Own w B e K g n l) (j : Nat) (hj : j < n) : w.cell? ⟨g, j, none⟩ = some (.int K (l.getD j 0)) := by
  have hl := h.len
  rw [World.ownsRow.cellAt h j (by omega)]
  simp [List.getD, List.getElem?_eq_getElem (show j < l.length by omega)]

theorem Own.free {w : World} {B g n : Nat} {e : TypeId} {K : IntKind} {l : List Int} (h : Own w B e K g n l) (j : Nat) : w.frozen? ⟨g, j, none⟩ = false :=
  World.ownsRow.frozenAt h j

theorem Own.set {w : World} {B g n : Nat} {e : TypeId} {K : IntKind} {l : List Int} (h : Own w B e K g n l) (j : Nat) (x : Int) : Own (w.setCell ⟨g, j, none⟩ (.int K x)) B e K g n (l.set j x) := by
  have := (World.ownsRow.stored h j (.int K x)).1
  unfold Own; rw [List.map_set]; exact this

theorem Own.base {w : World} {B g n : Nat} {e : TypeId} {K : IntKind} {l : List Int} (h : Own w B e K g n l) : B ≤ g ∧ g < w.heap.size :=
  World.ownsRow.lt h g rfl

/-- The row behind k rounds: the first k numbers of l, zeros behind them. -/
def bufAt (l : List Int) (k : Nat) : List Int := l.take k ++ List.replicate (l.length - k) 0

theorem bufAt_zero (l : List Int) : bufAt l 0 = List.replicate l.length 0 := by simp [bufAt]
theorem bufAt_all (l : List Int) (k : Nat) (h : l.length ≤ k) : bufAt l k = l := by
  unfold bufAt; rw [List.take_of_length_le h, Nat.sub_eq_zero_of_le h]; simp
theorem bufAt_succ (l : List Int) (k : Nat) (h : k < l.length) (x : Int) (hx : l[k] = x) : (bufAt l k).set k x = bufAt l (k + 1) := by
  unfold bufAt
  rw [List.take_succ_eq_append_getElem h, hx]
  have h1 : (l.take k).length = k := by simp; omega
  rw [List.set_append_right _ _ (by omega), h1]
  have : l.length - k = (l.length - (k + 1)) + 1 := by omega
  rw [this, List.replicate_succ]; simp

/-- Bytes as numbers. -/
def nums (l : List UInt8) : List Int := l.map fun x => (x.toNat : Int)
theorem nums_length (l : List UInt8) : (nums l).length = l.length := by simp [nums]
theorem nums_get (l : List UInt8) (k : Nat) (h : k < l.length) (h' : k < (nums l).length) : (nums l)[k] = (l[k].toNat : Int) := by simp [nums]
theorem str_nums (l : List UInt8) : strOfNums (nums l) = ⟨l.toArray⟩ := by
  have : (nums l).map (fun n => UInt8.ofNat n.toNat) = l := by
    unfold nums
    induction l with
    | nil => rfl
    | cons x l ih => simp only [List.map_cons, ih, Int.toNat_natCast]; simp
  unfold strOfNums; rw [this]

theorem Own.conv {P : Program} {w : World} {B g n : Nat} {e : TypeId} {l : List UInt8} (src dst : TypeId) (h : Own w B e .u8 g n (nums l))
    (hs : P.underlying src = some (.slice e)) (he : P.underlying e = some (.int .u8)) (hd : P.underlying dst = some .string) :
    (convert src dst (.slice (some ⟨g, 0, none⟩) n n)).run P w = .ok (.string ⟨l.toArray⟩) w := by
  rw [← str_nums]
  exact run_convert_bytes_arg w src e hs he g 0 n n (nums l) h.len (fun i hi => by rw [Nat.zero_add]; exact h.cell i hi) dst hd

theorem Own.made {w : World} {B n : Nat} {e : TypeId} {K : IntKind} {g : Nat} (l : List Int) (hl : l.length = n)
    (h : w.ownsRow B e 1 (.slice (some ⟨g, 0, none⟩) n n) n (madeCells #[Value.int K 0] n).toList) : Own w B e K g n (bufAt l 0) := by
  have e1 : (madeCells #[Value.int K 0] n).toList = (bufAt l 0).map (Value.int K) := by
    rw [bufAt_zero, hl, List.map_replicate]; exact toList_madeCells_one _ _
  rw [e1] at h; exact h

/-! ### Rows told place by place. -/
def tab (n : Nat) (f : Nat → Int) : List Int := (List.range n).map f
theorem tab_length (n : Nat) (f : Nat → Int) : (tab n f).length = n := by simp [tab]
theorem tab_get (n : Nat) (f : Nat → Int) (i : Nat) (_h : i < n) (h' : i < (tab n f).length) : (tab n f)[i] = f i := by simp [tab]
theorem tab_getD (n : Nat) (f : Nat → Int) (i : Nat) (h : i < n) : (tab n f).getD i 0 = f i := by
  simp [List.getD, List.getElem?_eq_getElem (show i < (tab n f).length by rw [tab_length]; exact h), tab_get n f i h]
theorem tab_congr (n : Nat) (f g : Nat → Int) (h : ∀ i, i < n → f i = g i) : tab n f = tab n g := by
  unfold tab; exact List.map_congr_left (fun i hi => h i (List.mem_range.1 hi))
theorem tab_set (n : Nat) (f g : Nat → Int) (j : Nat) (v : Int) (hj : g j = v) (h : ∀ i, i < n → i ≠ j → f i = g i) : (tab n f).set j v = tab n g := by
  apply List.ext_getElem (by simp [tab])
  intro i h1 h2
  have hi : i < n := by rw [tab_length] at h2; exact h2
  rw [List.getElem_set, tab_get n g i hi]
  by_cases e : j = i
  · rw [if_pos e, ← e, hj]
  · rw [if_neg e, tab_get n f i hi]; exact h i hi (fun h => e h.symm)
theorem tab_zero (n : Nat) : tab n (fun _ => 0) = List.replicate n 0 := by
  unfold tab; rw [List.map_const']; simp
theorem Own.made' {w : World} {B n : Nat} {e : TypeId} {K : IntKind} {g : Nat} (f : Nat → Int) (hf : ∀ i, i < n → f i = 0)
    (h : w.ownsRow B e 1 (.slice (some ⟨g, 0, none⟩) n n) n (madeCells #[Value.int K 0] n).toList) : Own w B e K g n (tab n f) := by
  have e1 : (madeCells #[Value.int K 0] n).toList = (tab n f).map (Value.int K) := by
    rw [tab_congr n f (fun _ => 0) hf, tab_zero, List.map_replicate]; exact toList_madeCells_one _ _
  rw [e1] at h; exact h
/-- A row of numbers that are bytes. -/
def bytesOf (n : Nat) (f : Nat → Nat) : List UInt8 := (List.range n).map fun i => UInt8.ofNat (f i)
theorem nums_bytesOf (n : Nat) (f : Nat → Nat) (h : ∀ i, i < n → f i < 256) : nums (bytesOf n f) = tab n (fun i => (f i : Int)) := by
  unfold nums bytesOf tab
  rw [List.map_map]
  apply List.map_congr_left
  intro i hi
  have := h i (List.mem_range.1 hi)
  simp [Nat.mod_eq_of_lt this]
theorem bytesOf_length (n : Nat) (f : Nat → Nat) : (bytesOf n f).length = n := by simp [bytesOf]

/-! ### A row that the call appends to, one number a time. -/

theorem below_append {B : Nat} {w wr w1 : World} {e : TypeId} {size n : Nat} {v : Value} {xs : List Value} (hbl : Below B w wr) (hB : B ≤ w.heap.size) (hown : wr.ownsRow B e size v n xs) (o : Obj)
    (hg : (wr.alloc o).drew.grownBy w1 v.ownBlock) : Below B w w1 := by
  have hs := hbl.size
  exact ((hbl.alloc (by omega) o).drew).grown hg (by simp; omega) (fun k hk => (hown.lt k hk).1)

theorem below_append' {B : Nat} {w wr w1 : World} {e : TypeId} {size n : Nat} {v : Value} {xs : List Value} (hbl : Below B w wr) (hB : B ≤ w.heap.size) (hown : wr.ownsRow B e size v n xs) (o : Obj)
    (hg : (wr.alloc o).grownBy w1 v.ownBlock) : Below B w w1 := by
  have hs := hbl.size
  exact (hbl.alloc (by omega) o).grown hg (by simp; omega) (fun k hk => (hown.lt k hk).1)

/-- A row of n numbers of the call's own, wherever it lies; nil where there are none. -/
def OwnV (w : World) (B : Nat) (e : TypeId) (K : IntKind) (v : Value) (n : Nat) (l : List Int) : Prop := w.ownsRow B e 1 v n (l.map (Value.int K))
theorem OwnV.nil (w : World) (B : Nat) (e : TypeId) (K : IntKind) : OwnV w B e K (.slice none 0 0) 0 [] := World.ownsRow_nil _ _ _ _
theorem OwnV.len {w : World} {B n : Nat} {e : TypeId} {K : IntKind} {v : Value} {l : List Int} (h : OwnV w B e K v n l) : l.length = n := by
  have := h.1; simpa using this

/-- One number appended to a row of the call's own, in a plain region. -/
theorem wpList_app1 {P : Program} {ops : Array Oper} {rest : List Oper} {o : Oper} {a : Act} {Q : Exit → Act → World → Prop} (hgd : o.guard = none) (s x : Operand) (t : TypeId)
    (ho : o.op = .call { callee := .builtin .append, args := #[s, x], argTypes := #[t, t] })
    (B : Nat) (e : TypeId) (i : TypeInfo) (K : IntKind) (bytes : Nat) (ht : P.underlying t = some (.slice e)) (hi : P.info? e = some i) (hz : i.zero = some (.int K 0)) (hsize : i.size = 1) (hby : i.bytes = bytes)
    (W : World) (v : Value) (n : Nat) (l : List Int) (hs : a.eval s = v) (hown : OwnV W B e K v n l) (y : Int) (hx : a.eval x = .slice (some ⟨W.heap.size, 0, none⟩) 1 1)
    (hn : (n + 1) * bytes ≤ 140737488355328) (hn' : n + 1 ≤ 9223372036854775807) (hB : B ≤ W.heap.size)
    (h : ∀ v' w', OwnV w' B e K v' (n + 1) (l ++ [y]) → Below B W w' → wpList P ops Q rest (a.put o.dst v') w') :
    wpList P ops Q (o :: rest) a (W.alloc (.cells #[.int K y] e)) := by
  refine wpList_append_own _ hgd s x t ho B e i (.int K 0) 1 bytes ht hi hz hsize hby rfl (by decide) v n _ hs (World.ownsRow.alloc hown _) ⟨W.heap.size, 0, none⟩ 1 1 [.int K y] hx rfl (cell_one_new _ _ _) ?_ (by unfold maxLen; omega) hn (by simp; omega) ?_
  · intro u hu; simp at hu; subst hu; rfl
  · intro v' w' h1 h2 _
    refine h v' w' (by unfold OwnV; rw [List.map_append]; exact h1) ?_
    exact ((Below.refl B W).alloc hB _).grown h2 (by simp; omega) (fun k hk => (World.ownsRow.lt hown k hk).1)

/-- The same at a step of a region that draws its order. -/
theorem step_app1 {P : Program} {ops : Array Oper} {o : Oper} {a : Act} {K' : Act → World → Prop} {Q : Exit → Act → World → Prop} {E : Prop} {d : Tmp} (hgd : o.guard = none) (hd : o.dst = some d) (s x : Operand) (t : TypeId)
    (ho : o.op = .call { callee := .builtin .append, args := #[s, x], argTypes := #[t, t] })
    (B : Nat) (e : TypeId) (i : TypeInfo) (K : IntKind) (bytes : Nat) (ht : P.underlying t = some (.slice e)) (hi : P.info? e = some i) (hz : i.zero = some (.int K 0)) (hsize : i.size = 1) (hby : i.bytes = bytes)
    (W : World) (v : Value) (n : Nat) (l : List Int) (hs : a.eval s = v) (hown : OwnV W B e K v n l) (y : Int) (hx : a.eval x = .slice (some ⟨W.heap.size, 0, none⟩) 1 1)
    (hn : (n + 1) * bytes ≤ 140737488355328) (hn' : n + 1 ≤ 9223372036854775807) (hB : B ≤ W.heap.size)
    (h : ∀ v' w', OwnV w' B e K v' (n + 1) (l ++ [y]) → Below B W w' → K' (a.put (some d) v') w') :
    if Region.wanted o (yielded ops a.tmps) = true then Oper.wp P o a (W.alloc (.cells #[.int K y] e)).drew K' Q else E := by
  have hw : Region.wanted o (yielded ops a.tmps) = true := by simp [Region.wanted, hgd]
  rw [if_pos hw]
  refine wp_append_own _ s x t ho B e i (.int K 0) 1 bytes ht hi hz hsize hby rfl (by decide) v n _ hs ((World.ownsRow.alloc hown _).drew) ⟨W.heap.size, 0, none⟩ 1 1 [.int K y] hx rfl (cell_one_new _ _ _) ?_ (by unfold maxLen; omega) hn (by simp; omega) ?_
  · intro u hu; simp at hu; subst hu; rfl
  · intro v' w' h1 h2 _
    rw [hd]
    refine h v' w' (by unfold OwnV; rw [List.map_append]; exact h1) ?_
    exact (((Below.refl B W).alloc hB _).drew).grown h2 (by simp; omega) (fun k hk => (World.ownsRow.lt hown k hk).1)

theorem take_snoc_int (l : List Int) (k : Nat) (h : k < l.length) (x : Int) (hx : l[k] = x) : l.take k ++ [x] = l.take (k + 1) := by
  rw [List.take_succ_eq_append_getElem h, hx]

theorem take_map_snoc (K : IntKind) (l : List Int) (k : Nat) (h : k < l.length) (x : Int) (hx : l[k] = x) : (l.take k).map (Value.int K) ++ [.int K x] = (l.take (k + 1)).map (Value.int K) := by
  rw [List.take_succ_eq_append_getElem h, hx]; simp

theorem own_conv {P : Program} {w : World} {B n : Nat} {e : TypeId} {v : Value} {l : List UInt8} (src dst : TypeId) (h : OwnV w B e .u8 v n (nums l))
    (hs : P.underlying src = some (.slice e)) (he : P.underlying e = some (.int .u8)) (hd : P.underlying dst = some .string) :
    (convert src dst v).run P w = .ok (.string ⟨l.toArray⟩) w := by
  have hl : (nums l).length = n := by have := h.1; simpa using this
  rcases h.2 with ⟨rfl, rfl⟩ | ⟨g, cap, cur, rfl, r⟩
  · have : l = [] := List.eq_nil_of_length_eq_zero (by rw [← nums_length]; exact hl)
    subst this
    exact run_convert_bytes_nil w src e hs he 0 0 dst hd
  · rw [← str_nums]
    refine run_convert_bytes_arg w src e hs he g 0 n cap (nums l) hl (fun i hi => ?_) dst hd
    rw [Nat.zero_add, World.ownsRow.cellAt (⟨h.1, .inr ⟨g, cap, cur, rfl, r⟩⟩ : w.ownsRow B e 1 (.slice (some ⟨g, 0, none⟩) n cap) n _) i (by omega)]
    simp [List.getD, List.getElem?_eq_getElem (show i < (nums l).length by omega)]
end Go.Proofs.YtfbgofbjbfidoaaDoor
