import Derived.Laws.BitsAllLaws
import Derived.Laws.BytesArg
import Derived.Below
import Derived.Laws.Strings
import Derived.Test.YtglgppeloolbhaaGreatDoorRows
import Derived.WalkKit
import Derived.WalkSpells
import Derived.WalkLawsBesides
import Derived.Deep.QuietTactic
import Derived.BigQuiet
import Derived.Deep.RegionHeld3
import Derived.Deep.AppendLies
import Derived.OpenShut
/- Plain facts on bytes and lists of bytes; nothing of the program. -/
namespace Go.Proofs.YtglgppeloolbhaaGreatDoor
open Go.RowKit
set_option maxRecDepth 100000

theorem byte_lt (x : UInt8) : x.toNat < 256 := x.toNat_lt

theorem bits_xor_byte (x y : UInt8) : bits .xor .u8 (x.toNat : Int) (y.toNat : Int) = ((x ^^^ y).toNat : Int) := by
  rw [u8_xor_nat _ _ (byte_lt x) (byte_lt y)]; simp

theorem toList_data (s : ByteArray) : s.toList = s.data.toList := by
  exact ByteArray.toList_eq s

theorem bytes_ext {a b : ByteArray} (h : a.data.toList = b.data.toList) : a = b := by
  cases a; cases b; simp at h; simp [h]
end Go.Proofs.YtglgppeloolbhaaGreatDoor

namespace Go.Proofs.YtglgppeloolbhaaGreatDoor
open Go.RowKit
set_option maxRecDepth 100000

end Go.Proofs.YtglgppeloolbhaaGreatDoor

/- Rows of integers that a call itself makes and fills place by place: plain facts, nothing of the program. -/
namespace Go.Proofs.YtglgppeloolbhaaGreatDoor
open Go.RowKit
set_option maxRecDepth 100000

/-- In a region that draws its order: an operation that yields its value is taken first (the library's law, its slot written out). -/
theorem take_at {P : Program} {md : Region.Mode} {ops : Array Oper} {Q : Exit → Act → World → Prop} {S : World → Prop} {i : Nat} {oi : Oper} {v : Value} {d : Tmp} {fuel : Nat} {listed : Array Bool} {a : Act} {w : World} (hi : ops[i]? = some oi)
    (hd : oi.dst = some d) (hs : Region.noSelect ops = true) (hf : Region.free md ops listed i = true) (hr : (Region.ready md ops listed).contains i = true)
    (hQ : ∀ c a w, Q (.panic c) (a.put (some d) v) w → Q (.panic c) a w) (hy : YieldsIf P ops S oi v a) (hS : S w)
    (h : wpAnyH P md ops Q S fuel (listed.setIfInBounds i true) (a.put (some d) v) w) : wpAnyH P md ops Q S (fuel + 1) listed a w :=
  wpAnyH_take hi hs hf hr (by rw [hd]; exact hQ) hy hS (by rw [hd]; exact h)

/-- A row of n numbers at the head of block g, of the call's own. -/
def Own (w : World) (B : Nat) (e : TypeId) (K : IntKind) (g n : Nat) (l : List Int) : Prop :=
  w.ownsRow B e 1 (.slice (some ⟨g, 0, none⟩) n n) n (l.map (Value.int K))

theorem Own.len {w : World} {B g n : Nat} {e : TypeId} {K : IntKind} {l : List Int} (h : Own w B e K g n l) : l.length = n := by
  have := h.1; simpa using this

theorem Own.cell {w : World} {B g n : Nat} {e : TypeId} {K : IntKind} {l : List Int} (h : Own w B e K g n l) (j : Nat) (hj : j < n) : w.cell? ⟨g, j, none⟩ = some (.int K (l.getD j 0)) := by
  have hl := h.len
  rw [World.ownsRow.cellAt h j (by omega)]
  simp [List.getD, List.getElem?_eq_getElem (show j < l.length by omega)]

theorem Own.free {w : World} {B g n : Nat} {e : TypeId} {K : IntKind} {l : List Int} (h : Own w B e K g n l) (j : Nat) : w.frozen? ⟨g, j, none⟩ = false :=
  World.ownsRow.frozenAt h j

theorem Own.set {w : World} {B g n : Nat} {e : TypeId} {K : IntKind} {l : List Int} (h : Own w B e K g n l) (j : Nat) (x : Int) : Own (w.setCell ⟨g, j, none⟩ (.int K x)) B e K g n (l.set j x) := by
  have := (World.ownsRow.stored h j (.int K x)).1
  unfold Own; rw [List.map_set]; exact this

theorem Own.base {w : World} {B g n : Nat} {e : TypeId} {K : IntKind} {l : List Int} (h : Own w B e K g n l) : B ≤ g ∧ g < w.heap.size :=
  World.ownsRow.lt h g rfl

/-- The row behind k rounds: the first k numbers of l, zeros behind them. -/
def bufAt (l : List Int) (k : Nat) : List Int := l.take k ++ List.replicate (l.length - k) 0

theorem bufAt_zero (l : List Int) : bufAt l 0 = List.replicate l.length 0 := by simp [bufAt]
theorem bufAt_all (l : List Int) (k : Nat) (h : l.length ≤ k) : bufAt l k = l := by
  unfold bufAt; rw [List.take_of_length_le h, Nat.sub_eq_zero_of_le h]; simp
theorem bufAt_succ (l : List Int) (k : Nat) (h : k < l.length) (x : Int) (hx : l[k] = x) : (bufAt l k).set k x = bufAt l (k + 1) := by
  unfold bufAt
  rw [List.take_succ_eq_append_getElem h, hx]
  have h1 : (l.take k).length = k := by simp; omega
  rw [List.set_append_right _ _ (by omega), h1]
  have : l.length - k = (l.length - (k + 1)) + 1 := by omega
  rw [this, List.replicate_succ]; simp

/-- Bytes as numbers. -/
def nums (l : List UInt8) : List Int := l.map fun x => (x.toNat : Int)
theorem nums_length (l : List UInt8) : (nums l).length = l.length := by simp [nums]
theorem nums_get (l : List UInt8) (k : Nat) (h : k < l.length) (h' : k < (nums l).length) : (nums l)[k] = (l[k].toNat : Int) := by simp [nums]
theorem str_nums (l : List UInt8) : strOfNums (nums l) = ⟨l.toArray⟩ := by
  have : (nums l).map (fun n => UInt8.ofNat n.toNat) = l := by
    unfold nums
    induction l with
    | nil => rfl
    | cons x l ih => simp only [List.map_cons, ih, Int.toNat_natCast]; simp
  unfold strOfNums; rw [this]

theorem Own.conv {P : Program} {w : World} {B g n : Nat} {e : TypeId} {l : List UInt8} (src dst : TypeId) (h : Own w B e .u8 g n (nums l))
    (hs : P.underlying src = some (.slice e)) (he : P.underlying e = some (.int .u8)) (hd : P.underlying dst = some .string) :
    (convert src dst (.slice (some ⟨g, 0, none⟩) n n)).run P w = .ok (.string ⟨l.toArray⟩) w := by
  rw [← str_nums]
  exact run_convert_bytes_arg w src e hs he g 0 n n (nums l) h.len (fun i hi => by rw [Nat.zero_add]; exact h.cell i hi) dst hd

theorem Own.made {w : World} {B n : Nat} {e : TypeId} {K : IntKind} {g : Nat} (l : List Int) (hl : l.length = n)
    (h : w.ownsRow B e 1 (.slice (some ⟨g, 0, none⟩) n n) n (madeCells #[Value.int K 0] n).toList) : Own w B e K g n (bufAt l 0) := by
  have e1 : (madeCells #[Value.int K 0] n).toList = (bufAt l 0).map (Value.int K) := by
    rw [bufAt_zero, hl, List.map_replicate]; exact toList_madeCells_one _ _
  rw [e1] at h; exact h

/-! ### Rows told place by place. -/
def tab (n : Nat) (f : Nat → Int) : List Int := (List.range n).map f
theorem tab_length (n : Nat) (f : Nat → Int) : (tab n f).length = n := by simp [tab]
theorem tab_get (n : Nat) (f : Nat → Int) (i : Nat) (_h : i < n) (h' : i < (tab n f).length) : (tab n f)[i] = f i := by simp [tab]
theorem tab_getD (n : Nat) (f : Nat → Int) (i : Nat) (h : i < n) : (tab n f).getD i 0 = f i := by
  simp [List.getD, List.getElem?_eq_getElem (show i < (tab n f).length by rw [tab_length]; exact h), tab_get n f i h]
theorem tab_congr (n : Nat) (f g : Nat → Int) (h : ∀ i, i < n → f i = g i) : tab n f = tab n g := by
  unfold tab; exact List.map_congr_left (fun i hi => h i (List.mem_range.1 hi))
theorem tab_set (n : Nat) (f g : Nat → Int) (j : Nat) (v : Int) (hj : g j = v) (h : ∀ i, i < n → i ≠ j → f i = g i) : (tab n f).set j v = tab n g := by
  apply List.ext_getElem (by simp [tab])
  intro i h1 h2
  have hi : i < n := by rw [tab_length] at h2; exact h2
  rw [List.getElem_set, tab_get n g i hi]
  by_cases e : j = i
  · rw [if_pos e, ← e, hj]
  · rw [if_neg e, tab_get n f i hi]; exact h i hi (fun h => e h.symm)
theorem tab_zero (n : Nat) : tab n (fun _ => 0) = List.replicate n 0 := by
  unfold tab; rw [List.map_const']; simp
theorem Own.made' {w : World} {B n : Nat} {e : TypeId} {K : IntKind} {g : Nat} (f : Nat → Int) (hf : ∀ i, i < n → f i = 0)
    (h : w.ownsRow B e 1 (.slice (some ⟨g, 0, none⟩) n n) n (madeCells #[Value.int K 0] n).toList) : Own w B e K g n (tab n f) := by
  have e1 : (madeCells #[Value.int K 0] n).toList = (tab n f).map (Value.int K) := by
    rw [tab_congr n f (fun _ => 0) hf, tab_zero, List.map_replicate]; exact toList_madeCells_one _ _
  rw [e1] at h; exact h
/-- A row of numbers that are bytes. -/
def bytesOf (n : Nat) (f : Nat → Nat) : List UInt8 := (List.range n).map fun i => UInt8.ofNat (f i)
theorem nums_bytesOf (n : Nat) (f : Nat → Nat) (h : ∀ i, i < n → f i < 256) : nums (bytesOf n f) = tab n (fun i => (f i : Int)) := by
  unfold nums bytesOf tab
  rw [List.map_map]
  apply List.map_congr_left
  intro i hi
  have := h i (List.mem_range.1 hi)
  simp [Nat.mod_eq_of_lt this]
theorem bytesOf_length (n : Nat) (f : Nat → Nat) : (bytesOf n f).length = n := by simp [bytesOf]

/-! ### A row that the call appends to, one number a time. -/

/-- A row of n numbers of the call's own, wherever it lies; nil where there are none. -/
def OwnV (w : World) (B : Nat) (e : TypeId) (K : IntKind) (v : Value) (n : Nat) (l : List Int) : Prop := w.ownsRow B e 1 v n (l.map (Value.int K))
theorem OwnV.nil (w : World) (B : Nat) (e : TypeId) (K : IntKind) : OwnV w B e K (.slice none 0 0) 0 [] := World.ownsRow_nil _ _ _ _
theorem OwnV.len {w : World} {B n : Nat} {e : TypeId} {K : IntKind} {v : Value} {l : List Int} (h : OwnV w B e K v n l) : l.length = n := by
  have := h.1; simpa using this

/-- One number appended to a row of the call's own, in a plain region. -/
theorem wpList_app1 {P : Program} {ops : Array Oper} {rest : List Oper} {o : Oper} {a : Act} {Q : Exit → Act → World → Prop} (hgd : o.guard = none) (s x : Operand) (t : TypeId)
    (ho : o.op = .call { callee := .builtin .append, args := #[s, x], argTypes := #[t, t] })
    (B : Nat) (e : TypeId) (i : TypeInfo) (K : IntKind) (bytes : Nat) (ht : P.underlying t = some (.slice e)) (hi : P.info? e = some i) (hz : i.zero = some (.int K 0)) (hsize : i.size = 1) (hby : i.bytes = bytes)
    (W : World) (v : Value) (n : Nat) (l : List Int) (hs : a.eval s = v) (hown : OwnV W B e K v n l) (y : Int) (hx : a.eval x = .slice (some ⟨W.heap.size, 0, none⟩) 1 1)
    (hn : (n + 1) * bytes ≤ 140737488355328) (hn' : n + 1 ≤ 9223372036854775807) (hB : B ≤ W.heap.size)
    (h : ∀ v' w', OwnV w' B e K v' (n + 1) (l ++ [y]) → Below B W w' → wpList P ops Q rest (a.put o.dst v') w') :
    wpList P ops Q (o :: rest) a (W.alloc (.cells #[.int K y] e)) := by
  refine wpList_append_own _ hgd s x t ho B e i (.int K 0) 1 bytes ht hi hz hsize hby rfl (by decide) v n _ hs (World.ownsRow.alloc hown _) ⟨W.heap.size, 0, none⟩ 1 1 [.int K y] hx rfl (cell_one_new _ _ _) ?_ (by unfold maxLen; omega) hn (by simp; omega) ?_
  · intro u hu; simp at hu; subst hu; rfl
  · intro v' w' h1 h2 _
    refine h v' w' (by unfold OwnV; rw [List.map_append]; exact h1) ?_
    exact ((Below.refl B W).alloc hB _).grown h2 (by simp; omega) (fun k hk => (World.ownsRow.lt hown k hk).1)

/-- The same at a step of a region that draws its order. -/
theorem step_app1 {P : Program} {ops : Array Oper} {o : Oper} {a : Act} {K' : Act → World → Prop} {Q : Exit → Act → World → Prop} {E : Prop} {d : Tmp} (hgd : o.guard = none) (hd : o.dst = some d) (s x : Operand) (t : TypeId)
    (ho : o.op = .call { callee := .builtin .append, args := #[s, x], argTypes := #[t, t] })
    (B : Nat) (e : TypeId) (i : TypeInfo) (K : IntKind) (bytes : Nat) (ht : P.underlying t = some (.slice e)) (hi : P.info? e = some i) (hz : i.zero = some (.int K 0)) (hsize : i.size = 1) (hby : i.bytes = bytes)
    (W : World) (v : Value) (n : Nat) (l : List Int) (hs : a.eval s = v) (hown : OwnV W B e K v n l) (y : Int) (hx : a.eval x = .slice (some ⟨W.heap.size, 0, none⟩) 1 1)
    (hn : (n + 1) * bytes ≤ 140737488355328) (hn' : n + 1 ≤ 9223372036854775807) (hB : B ≤ W.heap.size)
    (h : ∀ v' w', OwnV w' B e K v' (n + 1) (l ++ [y]) → Below B W w' → K' (a.put (some d) v') w') :
    if Region.wanted o (yielded ops a.tmps) = true then Oper.wp P o a (W.alloc (.cells #[.int K y] e)).drew K' Q else E := by
  have hw : Region.wanted o (yielded ops a.tmps) = true := by simp [Region.wanted, hgd]
  rw [if_pos hw]
  refine wp_append_own _ s x t ho B e i (.int K 0) 1 bytes ht hi hz hsize hby rfl (by decide) v n _ hs ((World.ownsRow.alloc hown _).drew) ⟨W.heap.size, 0, none⟩ 1 1 [.int K y] hx rfl (cell_one_new _ _ _) ?_ (by unfold maxLen; omega) hn (by simp; omega) ?_
  · intro u hu; simp at hu; subst hu; rfl
  · intro v' w' h1 h2 _
    rw [hd]
    refine h v' w' (by unfold OwnV; rw [List.map_append]; exact h1) ?_
    exact (((Below.refl B W).alloc hB _).drew).grown h2 (by simp; omega) (fun k hk => (World.ownsRow.lt hown k hk).1)

theorem take_snoc_int (l : List Int) (k : Nat) (h : k < l.length) (x : Int) (hx : l[k] = x) : l.take k ++ [x] = l.take (k + 1) := by
  rw [List.take_succ_eq_append_getElem h, hx]

theorem own_conv {P : Program} {w : World} {B n : Nat} {e : TypeId} {v : Value} {l : List UInt8} (src dst : TypeId) (h : OwnV w B e .u8 v n (nums l))
    (hs : P.underlying src = some (.slice e)) (he : P.underlying e = some (.int .u8)) (hd : P.underlying dst = some .string) :
    (convert src dst v).run P w = .ok (.string ⟨l.toArray⟩) w := by
  have hl : (nums l).length = n := by have := h.1; simpa using this
  rcases h.2 with ⟨rfl, rfl⟩ | ⟨g, cap, cur, rfl, r⟩
  · have : l = [] := List.eq_nil_of_length_eq_zero (by rw [← nums_length]; exact hl)
    subst this
    exact run_convert_bytes_nil w src e hs he 0 0 dst hd
  · rw [← str_nums]
    refine run_convert_bytes_arg w src e hs he g 0 n cap (nums l) hl (fun i hi => ?_) dst hd
    rw [Nat.zero_add, World.ownsRow.cellAt (⟨h.1, .inr ⟨g, cap, cur, rfl, r⟩⟩ : w.ownsRow B e 1 (.slice (some ⟨g, 0, none⟩) n cap) n _) i (by omega)]
    simp [List.getD, List.getElem?_eq_getElem (show i < (nums l).length by omega)]
end Go.Proofs.YtglgppeloolbhaaGreatDoor

namespace Go.Proofs.YtglgppeloolbhaaGreatDoor
open Go.RowKit
set_option maxRecDepth 100000

theorem Tryz.info5 : (Tryz.prog.info? 5).map (fun i => (i.zero, i.size, i.bytes)) = some (some (.int .u8 0), 1, 1) := by kernel_rfl

/-- Two texts, turned into one another. -/
def xorL (a b : ByteArray) : List UInt8 := List.zipWith (· ^^^ ·) a.data.toList b.data.toList
theorem xorL_length (a b : ByteArray) (h : b.size = a.size) : (xorL a b).length = a.size := by simp [xorL, h]
theorem xorL_get (a b : ByteArray) (k : Nat) (ha : k < a.size) (hb : k < b.size) (h : k < (xorL a b).length) : (xorL a b)[k] = a[k] ^^^ b[k] := by
  simp [xorL]; rfl

set_option maxHeartbeats 400000 in
theorem xor_len (a b : ByteArray) (w : World) (ha : a.size ≤ 1048576) (h : b.size = a.size) :
    Calls Tryz.prog 42 #[.string a, .string b] w fun e w' => e = .returned (.tuple #[.string ⟨(xorL a b).toArray⟩, .int .i64 0]) ∧ Below w.heap.size w w' := by
  have hl := xorL_length a b h
  obtain ⟨i0, hi, hz0, hz1, hz2⟩ := info_parts Tryz.info5
  go_enter Tryz.func42, Tryz.ntmps42
  go_wp2_with (at_make; refine wpList_make_full _ rfl _ _ 35 rfl w.heap.size 5 i0 (.int .u8 0) 1 Tryz.underlying35 hi hz0 hz1 _ _ _ _ a.size rfl rfl rfl rfl ?b1 ?b2 ?b3 ?_)
  case b1 => rw [hz2]; omega
  case b2 => unfold maxLen; omega
  case b3 => omega
  intro w1 hown0 hgrow
  have hown : Own w1 w.heap.size 5 .u8 w.heap.size a.size (bufAt (nums (xorL a b)) 0) := Own.made _ (by rw [nums_length, hl]) hown0
  have hbl : Below w.heap.size w w1 := (Below.refl _ _).grown hgrow (Nat.le_refl _) (fun k hk => by cases hk)
  clear hown0 hgrow hi hz0 hz1 hz2
  go_wp2
  go_loopw [18] (fun i wr => ∃ k : Nat, k ≤ a.size ∧ i = .int .i64 k ∧ Own wr w.heap.size 5 .u8 w.heap.size a.size (bufAt (nums (xorL a b)) k) ∧ Below w.heap.size w wr) (fun i _ => a.size - (intOf i).toNat)
  case atStart => exact ⟨0, Nat.zero_le _, rfl, hown, hbl⟩
  case round =>
    clear hown hbl
    obtain ⟨k, hk, rfl, hown, hbl⟩ := hrel
    by_cases hlt : k < a.size
    · have hlb : k < b.size := by omega
      have hc := hown.cell k hlt
      have hf := hown.free k
      have hx := bufAt_succ (nums (xorL a b)) k (by rw [nums_length, hl]; exact hlt) ((a[k] ^^^ b[k]).toNat : Int) (by rw [nums_get _ _ (by rw [hl]; exact hlt), xorL_get a b k hlt hlb])
      have H := hown.set k ((a[k] ^^^ b[k]).toNat : Int)
      rw [hx] at H
      have HB : Below w.heap.size w (wr.setCell ⟨w.heap.size, k, none⟩ (.int .u8 ((a[k] ^^^ b[k]).toNat : Int))) := hbl.setCell (Nat.le_refl _) _
      clear hx
      go_wp2
      go_region
      all_goals go_wp2
      all_goals go_roundw
      case rel => rw [bits_xor_byte]; exact ⟨k + 1, by omega, by go_num, H, HB.drew⟩
      case measure => simp [intOf]; omega
    · have hk' : k = a.size := by omega
      rw [bufAt_all _ _ (by rw [nums_length, hl]; omega)] at hown
      have hcv := Own.conv (P := Tryz.prog) 35 9 hown Tryz.underlying35 Tryz.underlying5 Tryz.underlying9
      clear hk' hown
      go_wp2
      go_ret2
      exact ⟨rfl, hbl⟩

set_option maxHeartbeats 400000 in
theorem rxor_len (a b : ByteArray) (w : World) (ha : a.size ≤ 1048576) (h : b.size = a.size) :
    Calls Tryz.prog 32 #[.string a, .string b] w fun e w' => e = .returned (.tuple #[.string ⟨(xorL a b).toArray⟩, .int .i64 0]) ∧ Below w.heap.size w w' := by
  have hl := xorL_length a b h
  obtain ⟨i0, hi, hz0, hz1, hz2⟩ := info_parts Tryz.info5
  go_enter Tryz.func32, Tryz.ntmps32
  go_wp2
  go_loopw [6, 7] (fun v i wr => ∃ k : Nat, k ≤ a.size ∧ i = .int .i64 k ∧ OwnV wr w.heap.size 5 .u8 v k ((nums (xorL a b)).take k) ∧ Below w.heap.size w wr) (fun _ i _ => a.size - (intOf i).toNat)
  case atStart => exact ⟨0, Nat.zero_le _, rfl, OwnV.nil _ _ _ _, Below.refl _ _⟩
  case round =>
    obtain ⟨k, hk, rfl, hown, hbl⟩ := hrel
    by_cases hlt : k < a.size
    · have hlb : k < b.size := by omega
      have hb0 : (0 : Int) ≤ (k : Int) := Int.natCast_nonneg _
      have hb1 : (k : Int) < (a.size : Int) := by omega
      have hb2 : (k : Int) < (b.size : Int) := by omega
      have hsz := hbl.size
      go_wp2
      go_region_held3 (fun _ => True) (trivial) ((refine step_app1 rfl rfl _ _ 35 rfl w.heap.size 5 i0 .u8 1 Tryz.underlying35 hi hz0 hz1 hz2 wr u6 k _ rfl hown _ rfl (by omega) (by omega) (by exact hsz) ?_; intro v' w1 hown1 hbl1))
      all_goals
        have hx : (nums (xorL a b))[k]'(by rw [nums_length, hl]; exact hlt) = bits .xor .u8 (a[k].toNat : Int) (b[k].toNat : Int) := by
          rw [bits_xor_byte, nums_get _ _ (by rw [hl]; exact hlt), xorL_get a b k hlt hlb]
        rw [take_snoc_int _ _ (by rw [nums_length, hl]; exact hlt) _ hx] at hown1
        have HB := hbl.trans hbl1
        clear hbl1 hown hx
        go_wp2
        go_roundw
        case rel => exact ⟨k + 1, by omega, by go_num, hown1, HB⟩
        case measure => simp [intOf]; omega
    · have hk' : k = a.size := by omega
      rw [List.take_of_length_le (by rw [nums_length, hl]; omega)] at hown
      have hcv := own_conv (P := Tryz.prog) 35 9 hown Tryz.underlying35 Tryz.underlying5 Tryz.underlying9
      clear hk' hown hi hz0 hz1 hz2
      go_wp2
      go_ret2
      exact ⟨rfl, hbl⟩
end Go.Proofs.YtglgppeloolbhaaGreatDoor

namespace Go.Proofs.YtglgppeloolbhaaGreatDoor
open Go.RowKit
set_option maxRecDepth 100000

theorem ret_int {k : IntKind} {a b : Int} (h : a = b) : Ending.returned (.int k a) = .returned (.int k b) := by rw [h]

end Go.Proofs.YtglgppeloolbhaaGreatDoor

namespace Go.Proofs.YtglgppeloolbhaaGreatDoor
open Go.RowKit
set_option maxRecDepth 100000

/-- The byte at a place, as a number. -/
def bt (s : ByteArray) (j : Nat) : Nat := (s.data.toList.getD j 0).toNat
theorem bt_get (s : ByteArray) (k : Nat) (h : k < s.size) : s[k].toNat = bt s k := by
  unfold bt
  have : s.data.toList.getD k 0 = s[k] := by
    simp [List.getD, List.getElem?_eq_getElem (show k < s.data.toList.length by simpa using h)]; rfl
  rw [this]
theorem bt_lt (s : ByteArray) (k : Nat) : bt s k < 256 := byte_lt _

end Go.Proofs.YtglgppeloolbhaaGreatDoor

namespace Go.Proofs.YtglgppeloolbhaaGreatDoor
open Go.RowKit
set_option maxRecDepth 100000

theorem wrap_nat (n : Nat) (h : n ≤ 9223372036854775807) : IntKind.i64.wrap (n : Int) = (n : Int) := by
  rw [IntKind.wrap_i64]; omega

end Go.Proofs.YtglgppeloolbhaaGreatDoor

namespace Go.Proofs.YtglgppeloolbhaaGreatDoor
open Go.RowKit
set_option maxRecDepth 100000

end Go.Proofs.YtglgppeloolbhaaGreatDoor

namespace Go.Proofs.YtglgppeloolbhaaGreatDoor
open Go.RowKit
set_option maxRecDepth 100000

theorem below_step {B : Nat} {w w1 w2 : World} (h : Below B w w1) (hB : B ≤ w.heap.size) (h2 : Below w1.heap.size w1 w2) : Below B w w2 :=
  h.trans (h2.mono (Nat.le_trans hB h.size))

end Go.Proofs.YtglgppeloolbhaaGreatDoor

namespace Go.Proofs.YtglgppeloolbhaaGreatDoor
open Go.RowKit
set_option maxRecDepth 100000

theorem i64_mask (n : Int) (j : Nat) (hj : j ≤ 32) (m : Int) (hm : (BitVec.ofInt 64 m).toNat = 2 ^ j - 1) : bits .and .i64 n m = n % ((2 ^ j : Nat) : Int) := by
  have key : (BitVec.ofInt 64 n &&& BitVec.ofInt 64 m).toNat = (n % ((2 ^ 64 : Nat) : Int)).toNat % 2 ^ j := by
    rw [BitVec.toNat_and, BitVec.toNat_ofInt, hm, Nat.and_two_pow_sub_one_eq_mod]
  show IntKind.i64.wrap ((BitVec.ofInt 64 n &&& BitVec.ofInt 64 m).toNat : Nat) = n % ((2 ^ j : Nat) : Int)
  rw [key, IntKind.wrap_i64]
  have hd : (2 ^ j : Nat) ∣ 2 ^ 64 := Nat.pow_dvd_pow 2 (by omega)
  have hp : 2 ^ j ≤ 4294967296 := Nat.le_trans (Nat.pow_le_pow_right (by decide) hj) (by decide)
  have hpos : 0 < 2 ^ j := Nat.two_pow_pos j
  have h1 : (((n % ((2 ^ 64 : Nat) : Int)).toNat % 2 ^ j : Nat) : Int) = n % ((2 ^ j : Nat) : Int) := by
    rw [Int.natCast_emod, Int.toNat_of_nonneg (Int.emod_nonneg _ (by decide))]
    exact Int.emod_emod_of_dvd n (Int.natCast_dvd_natCast.2 hd)
  rw [h1]
  generalize 2 ^ j = p at *
  have h2 := Int.emod_nonneg n (show (p : Int) ≠ 0 by omega)
  have h3 := Int.emod_lt_of_pos n (show (0 : Int) < (p : Int) by omega)
  generalize n % (p : Int) = z at *
  omega

theorem i64_and31 (n : Int) : bits .and .i64 n 31 = n % 32 := i64_mask n 5 (by decide) 31 (by decide)
theorem i64_and32 (n : Int) : bits .and .i64 n 4294967295 = n % 4294967296 := i64_mask n 32 (by decide) 4294967295 (by decide)

set_option maxHeartbeats 400000 in
theorem word_any (n : Int) (w : World) :
    Calls Tryz.prog 75 #[.int .i64 n] w fun e w' => e = .returned (.int .i64 (n % 4294967296)) ∧ w' = w := by
  have h := i64_and32 n
  go_enter Tryz.func75, Tryz.ntmps75
  go_wp2
  go_ret
  exact ⟨rfl, rfl⟩

/-- The word X, turned left by k bits. -/
def rotN (X k : Nat) : Nat := (X * 2 ^ k % 4294967296) ||| (X / 2 ^ (32 - k))
theorem div_lt32 (X k : Nat) (hX : X < 4294967296) : X / 2 ^ k < 4294967296 := Nat.lt_of_le_of_lt (Nat.div_le_self _ _) hX
theorem rotN_lt (X k : Nat) (hX : X < 4294967296) : rotN X k < 4294967296 := by
  unfold rotN
  have := Nat.or_lt_two_pow (n := 32) (Nat.mod_lt (X * 2 ^ k) (by decide)) (div_lt32 X (32 - k) hX)
  exact this
theorem rot_bits (X k : Nat) (hX : X < 4294967296) : bits .or .u32 ((X : Int) * 2 ^ k % 4294967296) ((X : Int) / 2 ^ (32 - k)) = (rotN X k : Int) := by
  have e1 : ((X : Int) * 2 ^ k % 4294967296) = ((X * 2 ^ k % 4294967296 : Nat) : Int) := by simp
  have e2 : ((X : Int) / 2 ^ (32 - k)) = ((X / 2 ^ (32 - k) : Nat) : Int) := by simp
  rw [e1, e2, u32_or_nat _ _ (Nat.mod_lt _ (by decide)) (div_lt32 _ _ hX)]
  rfl

theorem wraps_i64 (n : Int) (h₀ : 0 ≤ n) (h₁ : n < 2 ^ 63) : IntKind.i64.wrap n = n := by rw [IntKind.wrap_i64]; omega
theorem i64_or_nat (a b : Nat) (ha : a < 9223372036854775808) (hb : b < 9223372036854775808) : bits .or .i64 (a : Int) (b : Int) = ((a ||| b : Nat) : Int) :=
  (bits_nat .i64 63 (by decide) wraps_i64 a b ha hb).2
theorem rrot_bits (X k : Nat) (hX : X < 4294967296) (hk : k < 32) : bits .or .i64 (wrap64 ((X : Int) * 2 ^ k)) ((X : Int) / 2 ^ (32 - k)) % 4294967296 = (rotN X k : Int) := by
  have hp : 2 ^ k ≤ 2147483648 := Nat.le_trans (Nat.pow_le_pow_right (by decide) (show k ≤ 31 by omega)) (by decide)
  have hm : X * 2 ^ k < 9223372036854775808 := by
    have := Nat.mul_le_mul (show X ≤ 4294967295 by omega) hp
    omega
  have e1 : wrap64 ((X : Int) * 2 ^ k) = ((X * 2 ^ k : Nat) : Int) := by
    have e0 : ((X : Int) * 2 ^ k) = ((X * 2 ^ k : Nat) : Int) := by simp
    rw [e0]
    generalize X * 2 ^ k = z at *
    unfold wrap64
    omega
  have e2 : ((X : Int) / 2 ^ (32 - k)) = ((X / 2 ^ (32 - k) : Nat) : Int) := by simp
  have hd := div_lt32 X (32 - k) hX
  rw [e1, e2, i64_or_nat _ _ hm (by omega)]
  have e3 : ((X * 2 ^ k ||| X / 2 ^ (32 - k)) % 2 ^ 32 : Nat) = rotN X k := by
    rw [Nat.or_mod_two_pow]
    unfold rotN
    rw [Nat.mod_eq_of_lt (show X / 2 ^ (32 - k) < 2 ^ 32 from hd)]
  rw [← e3]
  simp

set_option maxHeartbeats 400000 in
theorem rotl_any (X k : Nat) (hX : X < 4294967296) (hk : k < 32) (w : World) :
    Calls Tryz.prog 103 #[.int .u32 X, .int .i64 k] w fun e w' => e = .returned (.int .u32 (rotN X k)) ∧ w' = w := by
  have h : bits .and .u64 (k : Int) 31 = (k : Int) := by rw [show (31 : Int) = ((31 : Nat) : Int) from rfl, u64_and_nat _ _ (by omega) (by decide), nat_mask5, Nat.mod_eq_of_lt hk]
  go_enter Tryz.func103, Tryz.ntmps103
  go_wp2
  go_ret
  refine ⟨?_, rfl⟩
  rw [← rot_bits X k hX]; rfl

set_option maxHeartbeats 400000 in
theorem rot_nat (x n : Int) (X k : Nat) (hX : X < 4294967296) (hk : k < 32) (w : World) (ex : x % 4294967296 = (X : Int)) (en : n % 32 = (k : Int)) :
    Calls Tryz.prog 101 #[.int .i64 x, .int .i64 n] w fun e w' => e = .returned (.int .i64 (rotN X k)) ∧ w' = w := by
  have h := i64_and31 n
  rw [en] at h
  have hr := rotN_lt X k hX
  clear en
  go_enter Tryz.func101, Tryz.ntmps101
  go_wp2_with (go_at_call 103; refine (rotl_any X k hX hk _).mono ?_; rintro e w' ⟨rfl, rfl⟩)
  go_ret
  exact ⟨rfl, rfl⟩

set_option maxHeartbeats 400000 in
set_option maxRecDepth 100000 in
theorem rrot_nat (x n : Int) (X k : Nat) (hX : X < 4294967296) (hk : k < 32) (w : World) (ex : x % 4294967296 = (X : Int)) (en : n % 32 = (k : Int)) :
    Calls Tryz.prog 84 #[.int .i64 x, .int .i64 n] w fun e w' => e = .returned (.int .i64 (rotN X k)) ∧ Below w.heap.size w w' := by
  have h := i64_and31 n
  rw [en] at h
  have hr := rotN_lt X k hX
  clear en
  have hw := fun w => word_any x w
  rw [ex] at hw
  have HW : Hid (∀ w, _) := hw
  clear hw
  go_enter Tryz.func84, Tryz.ntmps84
  go_wp2
  go_quiet ((go_at_call 75; first | exact Calls.quiet_of_same (HW.out _) | exact Calls.quiet_of_same (word_any _ _)))
  go_wp2
  go_ret
  refine ⟨?_, below_drewN (Below.refl _ _) _⟩
  rw [← rrot_bits X k hX hk]; rfl

/-! ### What turning does, bit by bit. -/
end Go.Proofs.YtglgppeloolbhaaGreatDoor

namespace Go.Proofs.YtglgppeloolbhaaGreatDoor
open Go.RowKit
set_option maxRecDepth 100000

theorem Tryz.info3 : (Tryz.prog.info? 3).map (fun i => (i.zero, i.size, i.bytes)) = some (some (.int .i64 0), 1, 8) := by kernel_rfl

set_option maxHeartbeats 400000 in
theorem bigShift_any (i : Nat) (w : World) (hi : i ≤ 1048576) :
    Calls Tryz.prog 92 #[.int .i64 i] w fun e w' => e = .returned (.int .i64 ((24 - 8 * (i % 4) : Nat) : Int)) ∧ w' = w := by
  go_enter Tryz.func92, Tryz.ntmps92
  go_wp2
  go_ret
  refine ⟨?_, rfl⟩
  exact ret_int (by omega)

set_option maxHeartbeats 400000 in
theorem smallShift_any (i : Nat) (w : World) (hi : i ≤ 1048576) :
    Calls Tryz.prog 66 #[.int .i64 i] w fun e w' => e = .returned (.int .i64 ((8 * (i % 4) : Nat) : Int)) ∧ w' = w := by
  go_enter Tryz.func66, Tryz.ntmps66
  go_wp2
  go_ret
  refine ⟨?_, rfl⟩
  exact ret_int (by omega)

/-- A word of four bytes, the first one the highest. -/
def bigW (a b c d : Nat) : Nat := ((a * 2 ^ 24 ||| b * 2 ^ 16) ||| c * 2 ^ 8) ||| d
/-- The word at a place, of bytes that stand as far up as sh says, as far as k bytes are there. -/
def part (s : ByteArray) (sh : Nat → Nat) (k j : Nat) : Nat := if j < k then bt s j * 2 ^ sh j else 0
def wAt (s : ByteArray) (sh : Nat → Nat) (k i : Nat) : Nat := ((part s sh k (4 * i) ||| part s sh k (4 * i + 1)) ||| part s sh k (4 * i + 2)) ||| part s sh k (4 * i + 3)

theorem part_lt (s : ByteArray) (sh : Nat → Nat) (hsh : ∀ j, sh j ≤ 24) (k j : Nat) : part s sh k j < 2 ^ 32 := by
  unfold part
  split
  · have h1 := bt_lt s j
    have h2 : 2 ^ sh j ≤ 2 ^ 24 := Nat.pow_le_pow_right (by decide) (hsh j)
    have := Nat.mul_lt_mul_of_lt_of_le h1 h2 (by decide)
    exact this
  · decide
theorem wAt_lt (s : ByteArray) (sh : Nat → Nat) (hsh : ∀ j, sh j ≤ 24) (k i : Nat) : wAt s sh k i < 2 ^ 32 := by
  unfold wAt
  exact Nat.or_lt_two_pow (Nat.or_lt_two_pow (Nat.or_lt_two_pow (part_lt s sh hsh _ _) (part_lt s sh hsh _ _)) (part_lt s sh hsh _ _)) (part_lt s sh hsh _ _)
theorem wAt_zero (s : ByteArray) (sh : Nat → Nat) (i : Nat) : wAt s sh 0 i = 0 := by unfold wAt part; simp
theorem part_same (s : ByteArray) (sh : Nat → Nat) (k j : Nat) (h : j ≠ k) : part s sh (k + 1) j = part s sh k j := by
  unfold part
  by_cases h1 : j < k
  · rw [if_pos h1, if_pos (by omega)]
  · rw [if_neg h1, if_neg (by omega)]
theorem part_new (s : ByteArray) (sh : Nat → Nat) (k : Nat) : part s sh (k + 1) k = bt s k * 2 ^ sh k := by unfold part; rw [if_pos (by omega)]
theorem part_old (s : ByteArray) (sh : Nat → Nat) (k : Nat) : part s sh k k = 0 := by unfold part; rw [if_neg (by omega)]
theorem wAt_other (s : ByteArray) (sh : Nat → Nat) (k i : Nat) (h : i ≠ k / 4) : wAt s sh k i = wAt s sh (k + 1) i := by
  unfold wAt
  rw [part_same _ _ _ _ (by omega), part_same _ _ _ _ (by omega), part_same _ _ _ _ (by omega), part_same _ _ _ _ (by omega)]
theorem wAt_step (s : ByteArray) (sh : Nat → Nat) (k : Nat) : wAt s sh k (k / 4) ||| bt s k * 2 ^ sh k = wAt s sh (k + 1) (k / 4) := by
  unfold wAt
  rcases (show k % 4 = 0 ∨ k % 4 = 1 ∨ k % 4 = 2 ∨ k % 4 = 3 by omega) with h | h | h | h
  · rw [show 4 * (k / 4) = k by omega, part_new, part_old, part_same _ _ _ _ (by omega), part_same _ _ _ _ (by omega), part_same _ _ _ _ (by omega)]
    unfold part; rw [if_neg (by omega), if_neg (by omega), if_neg (by omega)]; simp
  · rw [show 4 * (k / 4) + 1 = k by omega, part_new, part_old, part_same _ _ _ _ (by omega), part_same _ _ _ _ (by omega), part_same _ _ _ _ (by omega)]
    unfold part; rw [if_neg (show ¬ 4 * (k / 4) + 2 < k by omega), if_neg (show ¬ 4 * (k / 4) + 3 < k by omega)]; simp
  · rw [show 4 * (k / 4) + 2 = k by omega, part_new, part_old, part_same _ _ _ _ (by omega), part_same _ _ _ _ (by omega), part_same _ _ _ _ (by omega)]
    unfold part; rw [if_neg (show ¬ 4 * (k / 4) + 3 < k by omega)]; simp
  · rw [show 4 * (k / 4) + 3 = k by omega, part_new, part_old, part_same _ _ _ _ (by omega), part_same _ _ _ _ (by omega), part_same _ _ _ _ (by omega)]
    simp

theorem take_bits (s : ByteArray) (sh : Nat → Nat) (hsh : ∀ j, sh j ≤ 24) (k : Nat) (h : k < s.size) :
    bits .or .i64 ((wAt s sh k (k / 4) : Nat) : Int) (wrap64 (wrap64 (s[k].toNat : Int) * 2 ^ sh k)) = ((wAt s sh (k + 1) (k / 4) : Nat) : Int) := by
  rw [show wrap64 (s[k].toNat : Int) = (s[k].toNat : Int) by have := byte_lt s[k]; unfold wrap64; omega]
  rw [bt_get s k h]
  have h1 := bt_lt s k
  have h2 : 2 ^ sh k ≤ 16777216 := Nat.le_trans (Nat.pow_le_pow_right (by decide) (hsh k)) (by decide)
  have hm : bt s k * 2 ^ sh k < 4294967296 := by
    have := Nat.mul_le_mul (show bt s k ≤ 255 by omega) h2
    omega
  have e1 : wrap64 ((bt s k : Int) * 2 ^ sh k) = ((bt s k * 2 ^ sh k : Nat) : Int) := by
    have e0 : ((bt s k : Int) * 2 ^ sh k) = ((bt s k * 2 ^ sh k : Nat) : Int) := by simp
    rw [e0]
    generalize bt s k * 2 ^ sh k = z at *
    unfold wrap64
    omega
  have hw : wAt s sh k (k / 4) < 4294967296 := wAt_lt s sh hsh k (k / 4)
  rw [e1, i64_or_nat _ _ (by omega) (by omega), wAt_step]

def bsh (j : Nat) : Nat := 24 - 8 * (j % 4)
def ssh (j : Nat) : Nat := 8 * (j % 4)
theorem bsh_le (j : Nat) : bsh j ≤ 24 := by unfold bsh; omega
theorem ssh_le (j : Nat) : ssh j ≤ 24 := by unfold ssh; omega
/-- The words of bytes. -/
def wordsL (s : ByteArray) (sh : Nat → Nat) : List Int := tab (s.size / 4) (fun i => (wAt s sh s.size i : Int))

set_option maxHeartbeats 2000000 in
theorem take_big (s : ByteArray) (w : World) (hs : s.size ≤ 1048576) (h : s.size % 4 = 0) :
    Calls Tryz.prog 65 #[.string s, .func (Fn.func 92) #[] #[]] w fun e w' => e = .returned (.tuple #[.slice (some ⟨w.heap.size, 0, none⟩) (s.size / 4) (s.size / 4), .int .i64 0]) ∧
      Own w' w.heap.size 3 .i64 w.heap.size (s.size / 4) (wordsL s bsh) ∧ Below w.heap.size w w' := by
  have hn : ((((s.size : Int) % 4) != 0)) = false := by rw [bne_eq_false_iff_eq]; omega
  obtain ⟨i0, hi, hz0, hz1, hz2⟩ := info_parts Tryz.info3
  go_enter Tryz.func65, Tryz.ntmps65
  go_wp2_with (at_make; refine wpList_make_full _ rfl _ _ 47 rfl w.heap.size 3 i0 (.int .i64 0) 1 Tryz.underlying47 hi hz0 hz1 _ _ _ _ (s.size / 4) rfl rfl ?b4 ?b5 ?b1 ?b2 ?b3 ?_)
  case b1 => rw [hz2]; omega
  case b2 => unfold maxLen; omega
  case b3 => omega
  case b4 => omega
  case b5 => omega
  intro w1 hown0 hgrow
  have hown : Own w1 w.heap.size 3 .i64 w.heap.size (s.size / 4) (tab (s.size / 4) (fun i => (wAt s bsh 0 i : Int))) := Own.made' _ (fun i _ => by rw [wAt_zero]; rfl) hown0
  have hbl : Below w.heap.size w w1 := (Below.refl _ _).grown hgrow (Nat.le_refl _) (fun k hk => by cases hk)
  clear hown0 hgrow hi hz0 hz1 hz2
  go_wp2
  go_loopw [18] (fun i wr => ∃ k : Nat, k ≤ s.size ∧ i = .int .i64 k ∧ Own wr w.heap.size 3 .i64 w.heap.size (s.size / 4) (tab (s.size / 4) (fun i => (wAt s bsh k i : Int))) ∧ Below w.heap.size w wr) (fun i _ => s.size - (intOf i).toNat)
  case atStart => exact ⟨0, Nat.zero_le _, rfl, hown, hbl⟩
  case round =>
    clear hown hbl
    obtain ⟨k, hk, rfl, hown, hbl⟩ := hrel
    by_cases hlt : k < s.size
    · have hc := hown.cell (k / 4) (by omega)
      rw [tab_getD _ _ _ (by omega)] at hc
      have hf := hown.free (k / 4)
      have hq0 : (0 : Int) ≤ (k : Int) / 4 := by omega
      have hq1 : (k : Int) / 4 < (s.size : Int) / 4 := by omega
      have hq2 : IntKind.i64.wrap ((k : Int) / 4) = (k : Int) / 4 := wrap_nat (k / 4) (by omega)
      have hq4 : ((k : Int) / 4).toNat = k / 4 := by omega
      go_wp2
      go_region_with (go_at_call 92; refine (bigShift_any k _ (by omega)).mono ?_; rintro e w' ⟨rfl, rfl⟩)
      all_goals
        have HO := hown.set (k / 4) ((wAt s bsh (k + 1) (k / 4) : Nat) : Int)
        rw [tab_set _ _ (fun i => (wAt s bsh (k + 1) i : Int)) _ _ rfl (fun i _ hne => by rw [wAt_other s bsh k i hne])] at HO
        have HB := hbl.setCell (p := ⟨w.heap.size, k / 4, none⟩) (Nat.le_refl _) (Value.int .i64 ((wAt s bsh (k + 1) (k / 4) : Nat) : Int))
        have TB : Hid (bits .or .i64 ((wAt s bsh k (k / 4) : Nat) : Int) (wrap64 (wrap64 (s[k].toNat : Int) * 2 ^ (24 - 8 * (k % 4)))) = ((wAt s bsh (k + 1) (k / 4) : Nat) : Int)) := take_bits s bsh bsh_le k hlt
        go_wp2
        go_roundw
        case rel =>
          rw [TB.out]
          exact ⟨k + 1, by omega, by go_num, HO, HB.drew⟩
        case measure => simp [intOf]; omega
    · have hk' : k = s.size := by omega
      subst hk'
      go_wp2
      go_ret2
      exact ⟨rfl, hown, hbl⟩

set_option maxHeartbeats 2000000 in
theorem take_small (s : ByteArray) (w : World) (hs : s.size ≤ 1048576) (h : s.size % 4 = 0) :
    Calls Tryz.prog 65 #[.string s, .func (Fn.func 66) #[] #[]] w fun e w' => e = .returned (.tuple #[.slice (some ⟨w.heap.size, 0, none⟩) (s.size / 4) (s.size / 4), .int .i64 0]) ∧
      Own w' w.heap.size 3 .i64 w.heap.size (s.size / 4) (wordsL s ssh) ∧ Below w.heap.size w w' := by
  have hn : ((((s.size : Int) % 4) != 0)) = false := by rw [bne_eq_false_iff_eq]; omega
  obtain ⟨i0, hi, hz0, hz1, hz2⟩ := info_parts Tryz.info3
  go_enter Tryz.func65, Tryz.ntmps65
  go_wp2_with (at_make; refine wpList_make_full _ rfl _ _ 47 rfl w.heap.size 3 i0 (.int .i64 0) 1 Tryz.underlying47 hi hz0 hz1 _ _ _ _ (s.size / 4) rfl rfl ?b4 ?b5 ?b1 ?b2 ?b3 ?_)
  case b1 => rw [hz2]; omega
  case b2 => unfold maxLen; omega
  case b3 => omega
  case b4 => omega
  case b5 => omega
  intro w1 hown0 hgrow
  have hown : Own w1 w.heap.size 3 .i64 w.heap.size (s.size / 4) (tab (s.size / 4) (fun i => (wAt s ssh 0 i : Int))) := Own.made' _ (fun i _ => by rw [wAt_zero]; rfl) hown0
  have hbl : Below w.heap.size w w1 := (Below.refl _ _).grown hgrow (Nat.le_refl _) (fun k hk => by cases hk)
  clear hown0 hgrow hi hz0 hz1 hz2
  go_wp2
  go_loopw [18] (fun i wr => ∃ k : Nat, k ≤ s.size ∧ i = .int .i64 k ∧ Own wr w.heap.size 3 .i64 w.heap.size (s.size / 4) (tab (s.size / 4) (fun i => (wAt s ssh k i : Int))) ∧ Below w.heap.size w wr) (fun i _ => s.size - (intOf i).toNat)
  case atStart => exact ⟨0, Nat.zero_le _, rfl, hown, hbl⟩
  case round =>
    clear hown hbl
    obtain ⟨k, hk, rfl, hown, hbl⟩ := hrel
    by_cases hlt : k < s.size
    · have hc := hown.cell (k / 4) (by omega)
      rw [tab_getD _ _ _ (by omega)] at hc
      have hf := hown.free (k / 4)
      have hq0 : (0 : Int) ≤ (k : Int) / 4 := by omega
      have hq1 : (k : Int) / 4 < (s.size : Int) / 4 := by omega
      have hq2 : IntKind.i64.wrap ((k : Int) / 4) = (k : Int) / 4 := wrap_nat (k / 4) (by omega)
      have hq4 : ((k : Int) / 4).toNat = k / 4 := by omega
      go_wp2
      go_region_with (go_at_call 66; refine (smallShift_any k _ (by omega)).mono ?_; rintro e w' ⟨rfl, rfl⟩)
      all_goals
        have HO := hown.set (k / 4) ((wAt s ssh (k + 1) (k / 4) : Nat) : Int)
        rw [tab_set _ _ (fun i => (wAt s ssh (k + 1) i : Int)) _ _ rfl (fun i _ hne => by rw [wAt_other s ssh k i hne])] at HO
        have HB := hbl.setCell (p := ⟨w.heap.size, k / 4, none⟩) (Nat.le_refl _) (Value.int .i64 ((wAt s ssh (k + 1) (k / 4) : Nat) : Int))
        have TB : Hid (bits .or .i64 ((wAt s ssh k (k / 4) : Nat) : Int) (wrap64 (wrap64 (s[k].toNat : Int) * 2 ^ (8 * (k % 4)))) = ((wAt s ssh (k + 1) (k / 4) : Nat) : Int)) := take_bits s ssh ssh_le k hlt
        go_wp2
        go_roundw
        case rel =>
          rw [TB.out]
          exact ⟨k + 1, by omega, by go_num, HO, HB.drew⟩
        case measure => simp [intOf]; omega
    · have hk' : k = s.size := by omega
      subst hk'
      go_wp2
      go_ret2
      exact ⟨rfl, hown, hbl⟩
end Go.Proofs.YtglgppeloolbhaaGreatDoor

namespace Go.Proofs.YtglgppeloolbhaaGreatDoor
open Go.RowKit
set_option maxRecDepth 100000

/-- A slice of n numbers that can be read. -/
def IntsAt (w : World) (K : IntKind) (a : Option Addr) (n : Nat) (l : List Int) : Prop :=
  l.length = n ∧ (n = 0 ∨ ∃ b off, a = some ⟨b, off, none⟩ ∧ ∀ i, i < n → w.cell? ⟨b, off + i, none⟩ = some (.int K (l.getD i 0)))

theorem IntsAt.below {w w' : World} {K : IntKind} {a : Option Addr} {n : Nat} {l : List Int} (h : IntsAt w K a n l) (hb : Below w.heap.size w w') : IntsAt w' K a n l := by
  refine ⟨h.1, ?_⟩
  rcases h.2 with h0 | ⟨b, off, ha, hc⟩
  · exact .inl h0
  · refine .inr ⟨b, off, ha, fun i hi => ?_⟩
    have h1 := hc i hi
    have hlt := World.block_lt_of_cell? w _ h1
    rw [hb.cell (p := ⟨b, off + i, none⟩) hlt]; exact h1

theorem Own.ints {w : World} {B g n : Nat} {e : TypeId} {K : IntKind} {l : List Int} (h : Own w B e K g n l) : IntsAt w K (some ⟨g, 0, none⟩) n l :=
  ⟨h.len, .inr ⟨g, 0, rfl, fun i hi => by rw [Nat.zero_add]; exact h.cell i hi⟩⟩

theorem OwnV.ints {w : World} {B n : Nat} {e : TypeId} {K : IntKind} {v : Value} {l : List Int} (h : OwnV w B e K v n l) : ∃ a c, v = .slice a n c ∧ IntsAt w K a n l := by
  have hl := h.len
  rcases h.2 with ⟨rfl, rfl⟩ | ⟨g, cap, cur, rfl, r⟩
  · exact ⟨none, 0, rfl, hl, .inl rfl⟩
  · refine ⟨some ⟨g, 0, none⟩, cap, rfl, hl, .inr ⟨g, 0, rfl, fun i hi => ?_⟩⟩
    rw [Nat.zero_add, World.ownsRow.cellAt (⟨h.1, .inr ⟨g, cap, cur, rfl, r⟩⟩ : w.ownsRow B e 1 (.slice (some ⟨g, 0, none⟩) n cap) n _) i (by omega)]
    simp [List.getD, List.getElem?_eq_getElem (show i < l.length by omega)]

theorem ints_lit (w : World) (K : IntKind) (x : Int) (e : TypeId) : IntsAt (w.alloc (.cells #[.int K x] e)) K (some ⟨w.heap.size, 0, none⟩) 1 [x] := by
  refine ⟨rfl, .inr ⟨w.heap.size, 0, rfl, fun i hi => ?_⟩⟩
  obtain rfl : i = 0 := by omega
  simp

end Go.Proofs.YtglgppeloolbhaaGreatDoor

namespace Go.Proofs.YtglgppeloolbhaaGreatDoor
open Go.RowKit
set_option maxRecDepth 100000

/-- The byte at a place of words, from as far up as sh says. -/
def pb (l : List Int) (sh : Nat → Nat) (j : Nat) : Nat := (l.getD (j / 4) 0 / ((2 ^ sh j : Nat) : Int) % 256).toNat
theorem pb_lt (l : List Int) (sh : Nat → Nat) (j : Nat) : pb l sh j < 256 := by unfold pb; omega
theorem pb_int (l : List Int) (sh : Nat → Nat) (j : Nat) : ((pb l sh j : Nat) : Int) = l.getD (j / 4) 0 / ((2 ^ sh j : Nat) : Int) % 256 := by unfold pb; omega
def putL (l : List Int) (sh : Nat → Nat) : List UInt8 := bytesOf (4 * l.length) (pb l sh)
def putAt (l : List Int) (sh : Nat → Nat) (k j : Nat) : Int := if j < k then (pb l sh j : Int) else 0
theorem putAt_zero (l : List Int) (sh : Nat → Nat) (j : Nat) : putAt l sh 0 j = 0 := by simp [putAt]
theorem putAt_set (l : List Int) (sh : Nat → Nat) (n j : Nat) : (tab n (putAt l sh j)).set j (pb l sh j : Int) = tab n (putAt l sh (j + 1)) := by
  refine tab_set _ _ _ _ _ (by unfold putAt; rw [if_pos (by omega)]) (fun i _ hne => ?_)
  unfold putAt
  by_cases h : i < j
  · rw [if_pos h, if_pos (by omega)]
  · rw [if_neg h, if_neg (by omega)]
theorem putAt_end (l : List Int) (sh : Nat → Nat) (n : Nat) (hn : l.length = n) : tab (4 * n) (putAt l sh (4 * n)) = nums (putL l sh) := by
  unfold putL
  rw [nums_bytesOf _ _ (fun i _ => pb_lt l sh i), hn]
  exact tab_congr _ _ _ (fun i hi => by unfold putAt; rw [if_pos hi])

set_option maxHeartbeats 2000000 in
theorem put_big (a : Option Addr) (n c : Nat) (l : List Int) (w : World) (hn : n ≤ 262144) (hI : IntsAt w .i64 a n l) :
    Calls Tryz.prog 67 #[.slice a n c, .func (Fn.func 92) #[] #[]] w fun e w' => e = .returned (.string ⟨(putL l bsh).toArray⟩) ∧ Below w.heap.size w w' := by
  have HI : Hid (IntsAt w .i64 a n l) := hI
  clear hI
  obtain ⟨i0, hi, hz0, hz1, hz2⟩ := info_parts Tryz.info5
  go_enter Tryz.func67, Tryz.ntmps67
  go_wp2_with (at_make; refine wpList_make_full _ rfl _ _ 35 rfl w.heap.size 5 i0 (.int .u8 0) 1 Tryz.underlying35 hi hz0 hz1 _ _ _ _ (4 * n) rfl rfl ?b4 ?b5 ?b1 ?b2 ?b3 ?_)
  case b1 => rw [hz2]; omega
  case b2 => unfold maxLen; omega
  case b3 => omega
  case b4 => omega
  case b5 => omega
  intro w1 hown0 hgrow
  have hown : Own w1 w.heap.size 5 .u8 w.heap.size (4 * n) (tab (4 * n) (putAt l bsh 0)) := Own.made' _ (fun i _ => putAt_zero l bsh i) hown0
  have hbl : Below w.heap.size w w1 := (Below.refl _ _).grown hgrow (Nat.le_refl _) (fun k hk => by cases hk)
  clear hown0 hgrow hi hz0 hz1 hz2
  go_wp2
  go_loopw [13] (fun i wr => ∃ k : Nat, k ≤ 4 * n ∧ i = .int .i64 k ∧ Own wr w.heap.size 5 .u8 w.heap.size (4 * n) (tab (4 * n) (putAt l bsh k)) ∧ Below w.heap.size w wr) (fun i _ => 4 * n - (intOf i).toNat)
  case atStart => exact ⟨0, Nat.zero_le _, rfl, hown, hbl⟩
  case round =>
    clear hown hbl
    obtain ⟨k, hk, rfl, hown, hbl⟩ := hrel
    by_cases hlt : k < 4 * n
    · obtain ⟨b, off, rfl, hcl⟩ : ∃ b off, a = some ⟨b, off, none⟩ ∧ ∀ i, i < n → w.cell? ⟨b, off + i, none⟩ = some (.int .i64 (l.getD i 0)) := by
        rcases HI.out.2 with h0 | h1
        · omega
        · exact h1
      obtain ⟨x, hx⟩ : ∃ x, x = l.getD (k / 4) 0 := ⟨_, rfl⟩
      have h1 := hcl (k / 4) (by omega)
      have hlb := World.block_lt_of_cell? w _ h1
      have g1 : wr.cell? ⟨b, off + k / 4, none⟩ = some (.int .i64 x) := by
        rw [hbl.cell (p := ⟨b, off + k / 4, none⟩) hlb, h1, hx]
      have HX : Hid (x = l.getD (k / 4) 0) := hx
      clear hx h1 hcl
      have hc := hown.cell k hlt
      rw [tab_getD _ _ _ hlt] at hc
      have hf := hown.free k
      have hq0 : (0 : Int) ≤ (k : Int) / 4 := by omega
      have hq1 : (k : Int) / 4 < (n : Int) := by omega
      have hq2 : IntKind.i64.wrap ((k : Int) / 4) = (k : Int) / 4 := wrap_nat (k / 4) (by omega)
      have hq4 : ((k : Int) / 4).toNat = k / 4 := by omega
      go_wp2
      go_region_with (go_at_call 92; refine (bigShift_any k _ (by omega)).mono ?_; rintro e w' ⟨rfl, rfl⟩)
      all_goals
        have TB : Hid (x / 2 ^ (24 - 8 * (k % 4)) % 256 = ((pb l bsh k : Nat) : Int)) := by
          show _ = _
          rw [pb_int, HX.out, Int.natCast_pow]; rfl
        have HO := hown.set k ((pb l bsh k : Nat) : Int)
        rw [putAt_set] at HO
        have HB := hbl.setCell (p := ⟨w.heap.size, k, none⟩) (Nat.le_refl _) (Value.int .u8 ((pb l bsh k : Nat) : Int))
        go_wp2
        go_roundw
        case rel =>
          rw [TB.out]
          exact ⟨k + 1, by omega, by go_num, HO, HB.drew⟩
        case measure => simp [intOf]; omega
    · have hk' : k = 4 * n := by omega
      subst hk'
      rw [putAt_end l bsh n HI.out.1] at hown
      have hcv := Own.conv (P := Tryz.prog) 35 9 hown Tryz.underlying35 Tryz.underlying5 Tryz.underlying9
      clear hown
      go_wp2
      go_ret
      exact ⟨rfl, hbl⟩

set_option maxHeartbeats 2000000 in
theorem put_small (a : Option Addr) (n c : Nat) (l : List Int) (w : World) (hn : n ≤ 262144) (hI : IntsAt w .i64 a n l) :
    Calls Tryz.prog 67 #[.slice a n c, .func (Fn.func 66) #[] #[]] w fun e w' => e = .returned (.string ⟨(putL l ssh).toArray⟩) ∧ Below w.heap.size w w' := by
  have HI : Hid (IntsAt w .i64 a n l) := hI
  clear hI
  obtain ⟨i0, hi, hz0, hz1, hz2⟩ := info_parts Tryz.info5
  go_enter Tryz.func67, Tryz.ntmps67
  go_wp2_with (at_make; refine wpList_make_full _ rfl _ _ 35 rfl w.heap.size 5 i0 (.int .u8 0) 1 Tryz.underlying35 hi hz0 hz1 _ _ _ _ (4 * n) rfl rfl ?b4 ?b5 ?b1 ?b2 ?b3 ?_)
  case b1 => rw [hz2]; omega
  case b2 => unfold maxLen; omega
  case b3 => omega
  case b4 => omega
  case b5 => omega
  intro w1 hown0 hgrow
  have hown : Own w1 w.heap.size 5 .u8 w.heap.size (4 * n) (tab (4 * n) (putAt l ssh 0)) := Own.made' _ (fun i _ => putAt_zero l ssh i) hown0
  have hbl : Below w.heap.size w w1 := (Below.refl _ _).grown hgrow (Nat.le_refl _) (fun k hk => by cases hk)
  clear hown0 hgrow hi hz0 hz1 hz2
  go_wp2
  go_loopw [13] (fun i wr => ∃ k : Nat, k ≤ 4 * n ∧ i = .int .i64 k ∧ Own wr w.heap.size 5 .u8 w.heap.size (4 * n) (tab (4 * n) (putAt l ssh k)) ∧ Below w.heap.size w wr) (fun i _ => 4 * n - (intOf i).toNat)
  case atStart => exact ⟨0, Nat.zero_le _, rfl, hown, hbl⟩
  case round =>
    clear hown hbl
    obtain ⟨k, hk, rfl, hown, hbl⟩ := hrel
    by_cases hlt : k < 4 * n
    · obtain ⟨b, off, rfl, hcl⟩ : ∃ b off, a = some ⟨b, off, none⟩ ∧ ∀ i, i < n → w.cell? ⟨b, off + i, none⟩ = some (.int .i64 (l.getD i 0)) := by
        rcases HI.out.2 with h0 | h1
        · omega
        · exact h1
      obtain ⟨x, hx⟩ : ∃ x, x = l.getD (k / 4) 0 := ⟨_, rfl⟩
      have h1 := hcl (k / 4) (by omega)
      have hlb := World.block_lt_of_cell? w _ h1
      have g1 : wr.cell? ⟨b, off + k / 4, none⟩ = some (.int .i64 x) := by
        rw [hbl.cell (p := ⟨b, off + k / 4, none⟩) hlb, h1, hx]
      have HX : Hid (x = l.getD (k / 4) 0) := hx
      clear hx h1 hcl
      have hc := hown.cell k hlt
      rw [tab_getD _ _ _ hlt] at hc
      have hf := hown.free k
      have hq0 : (0 : Int) ≤ (k : Int) / 4 := by omega
      have hq1 : (k : Int) / 4 < (n : Int) := by omega
      have hq2 : IntKind.i64.wrap ((k : Int) / 4) = (k : Int) / 4 := wrap_nat (k / 4) (by omega)
      have hq4 : ((k : Int) / 4).toNat = k / 4 := by omega
      go_wp2
      go_region_with (go_at_call 66; refine (smallShift_any k _ (by omega)).mono ?_; rintro e w' ⟨rfl, rfl⟩)
      all_goals
        have TB : Hid (x / 2 ^ (8 * (k % 4)) % 256 = ((pb l ssh k : Nat) : Int)) := by
          show _ = _
          rw [pb_int, HX.out, Int.natCast_pow]; rfl
        have HO := hown.set k ((pb l ssh k : Nat) : Int)
        rw [putAt_set] at HO
        have HB := hbl.setCell (p := ⟨w.heap.size, k, none⟩) (Nat.le_refl _) (Value.int .u8 ((pb l ssh k : Nat) : Int))
        go_wp2
        go_roundw
        case rel =>
          rw [TB.out]
          exact ⟨k + 1, by omega, by go_num, HO, HB.drew⟩
        case measure => simp [intOf]; omega
    · have hk' : k = 4 * n := by omega
      subst hk'
      rw [putAt_end l ssh n HI.out.1] at hown
      have hcv := Own.conv (P := Tryz.prog) 35 9 hown Tryz.underlying35 Tryz.underlying5 Tryz.underlying9
      clear hown
      go_wp2
      go_ret
      exact ⟨rfl, hbl⟩

set_option maxHeartbeats 400000 in
theorem putBig_any (a : Option Addr) (n c : Nat) (l : List Int) (w : World) (hn : n ≤ 262144) (hI : IntsAt w .i64 a n l) :
    Calls Tryz.prog 80 #[.slice a n c] w fun e w' => e = .returned (.string ⟨(putL l bsh).toArray⟩) ∧ Below w.heap.size w w' := by
  have HI : Hid (IntsAt w .i64 a n l) := hI
  clear hI
  go_enter Tryz.func80, Tryz.ntmps80
  go_wp2_with fail
  refine (put_big a n c l _ hn HI.out).mono ?_
  rintro e w1 ⟨rfl, hb1⟩
  go_wp2_with fail
  go_ret
  exact ⟨rfl, hb1⟩

set_option maxHeartbeats 400000 in
theorem putSmall_any (a : Option Addr) (n c : Nat) (l : List Int) (w : World) (hn : n ≤ 262144) (hI : IntsAt w .i64 a n l) :
    Calls Tryz.prog 46 #[.slice a n c] w fun e w' => e = .returned (.string ⟨(putL l ssh).toArray⟩) ∧ Below w.heap.size w w' := by
  have HI : Hid (IntsAt w .i64 a n l) := hI
  clear hI
  go_enter Tryz.func46, Tryz.ntmps46
  go_wp2_with fail
  refine (put_small a n c l _ hn HI.out).mono ?_
  rintro e w1 ⟨rfl, hb1⟩
  go_wp2_with fail
  go_ret
  exact ⟨rfl, hb1⟩

set_option maxHeartbeats 400000 in
theorem big_even (s : ByteArray) (w : World) (hs : s.size ≤ 1048576) (h : s.size % 4 = 0) :
    Calls Tryz.prog 100 #[.string s] w fun e w' => e = .returned (.tuple #[.slice (some ⟨w.heap.size, 0, none⟩) (s.size / 4) (s.size / 4), .int .i64 0]) ∧
      Own w' w.heap.size 3 .i64 w.heap.size (s.size / 4) (wordsL s bsh) ∧ Below w.heap.size w w' := by
  go_enter Tryz.func100, Tryz.ntmps100
  go_wp2_with fail
  refine (take_big s _ hs h).mono ?_
  rintro e w1 ⟨rfl, ho, hb1⟩
  go_wp2_with fail
  go_ret2
  exact ⟨rfl, ho, hb1⟩

set_option maxHeartbeats 400000 in
theorem small_even (s : ByteArray) (w : World) (hs : s.size ≤ 1048576) (h : s.size % 4 = 0) :
    Calls Tryz.prog 43 #[.string s] w fun e w' => e = .returned (.tuple #[.slice (some ⟨w.heap.size, 0, none⟩) (s.size / 4) (s.size / 4), .int .i64 0]) ∧
      Own w' w.heap.size 3 .i64 w.heap.size (s.size / 4) (wordsL s ssh) ∧ Below w.heap.size w w' := by
  go_enter Tryz.func43, Tryz.ntmps43
  go_wp2_with fail
  refine (take_small s _ hs h).mono ?_
  rintro e w1 ⟨rfl, ho, hb1⟩
  go_wp2_with fail
  go_ret2
  exact ⟨rfl, ho, hb1⟩
end Go.Proofs.YtglgppeloolbhaaGreatDoor

namespace Go.Proofs.YtglgppeloolbhaaGreatDoor
open Go.RowKit
set_option maxRecDepth 100000

theorem below_new (w : World) (o : Obj) : Below w.heap.size w (w.alloc o) := (Below.refl _ _).alloc (Nat.le_refl _) o

end Go.Proofs.YtglgppeloolbhaaGreatDoor

namespace Go.Proofs.YtglgppeloolbhaaGreatDoor
open Go.RowKit
set_option maxRecDepth 100000

theorem bigW_sum (a b c d : Nat) (hb : b < 256) (hc : c < 256) (hd : d < 256) : bigW a b c d = a * 16777216 + b * 65536 + c * 256 + d := by
  unfold bigW
  rw [nat_join 24 (a * 2 ^ 24) (b * 2 ^ 16) (Nat.mul_mod_left _ _) (by omega)]
  rw [nat_join 16 (a * 2 ^ 24 + b * 2 ^ 16) (c * 2 ^ 8) (by omega) (by omega)]
  rw [nat_join 8 (a * 2 ^ 24 + b * 2 ^ 16 + c * 2 ^ 8) d (by omega) (by omega)]

theorem or4 (a b c d : Nat) : ((a ||| b) ||| c) ||| d = ((d ||| c) ||| b) ||| a := by
  apply Nat.eq_of_testBit_eq
  intro j
  simp only [Nat.testBit_or]
  generalize a.testBit j = A
  generalize b.testBit j = B
  generalize c.testBit j = C
  generalize d.testBit j = D
  cases A <;> cases B <;> cases C <;> cases D <;> rfl

theorem part_full (s : ByteArray) (sh : Nat → Nat) (j : Nat) (h : j < s.size) : part s sh s.size j = bt s j * 2 ^ sh j := by unfold part; rw [if_pos h]
theorem wAt_big (s : ByteArray) (i : Nat) (h : 4 * i + 3 < s.size) : wAt s bsh s.size i = bigW (bt s (4 * i)) (bt s (4 * i + 1)) (bt s (4 * i + 2)) (bt s (4 * i + 3)) := by
  unfold wAt bigW
  rw [part_full _ _ _ (by omega), part_full _ _ _ (by omega), part_full _ _ _ (by omega), part_full _ _ _ (by omega)]
  rw [show bsh (4 * i) = 24 by unfold bsh; omega, show bsh (4 * i + 1) = 16 by unfold bsh; omega, show bsh (4 * i + 2) = 8 by unfold bsh; omega, show bsh (4 * i + 3) = 0 by unfold bsh; omega, Nat.pow_zero, Nat.mul_one]
theorem wAt_small (s : ByteArray) (i : Nat) (h : 4 * i + 3 < s.size) : wAt s ssh s.size i = bigW (bt s (4 * i + 3)) (bt s (4 * i + 2)) (bt s (4 * i + 1)) (bt s (4 * i)) := by
  unfold wAt bigW
  rw [part_full _ _ _ (by omega), part_full _ _ _ (by omega), part_full _ _ _ (by omega), part_full _ _ _ (by omega)]
  rw [show ssh (4 * i) = 0 by unfold ssh; omega, show ssh (4 * i + 1) = 8 by unfold ssh; omega, show ssh (4 * i + 2) = 16 by unfold ssh; omega, show ssh (4 * i + 3) = 24 by unfold ssh; omega, Nat.pow_zero, Nat.mul_one]
  exact or4 _ _ _ _

theorem wordsL_length (s : ByteArray) (sh : Nat → Nat) : (wordsL s sh).length = s.size / 4 := by unfold wordsL; rw [tab_length]
theorem wordsL_getD (s : ByteArray) (sh : Nat → Nat) (i : Nat) (h : i < s.size / 4) : (wordsL s sh).getD i 0 = (wAt s sh s.size i : Int) := by unfold wordsL; rw [tab_getD _ _ _ h]

theorem putL_length (l : List Int) (sh : Nat → Nat) : (putL l sh).length = 4 * l.length := by unfold putL; rw [bytesOf_length]

theorem bt_mk (l : List UInt8) (j : Nat) : bt ⟨l.toArray⟩ j = (l.getD j 0).toNat := rfl
theorem putL_bt (l : List Int) (sh : Nat → Nat) (j : Nat) (h : j < 4 * l.length) : bt ⟨(putL l sh).toArray⟩ j = pb l sh j := by
  rw [bt_mk]
  unfold putL bytesOf
  simp [List.getD, List.getElem?_map, List.getElem?_range h, Nat.mod_eq_of_lt (pb_lt l sh j)]

theorem bytes_eq (l : List UInt8) (s : ByteArray) (hl : l.length = s.size) (h : ∀ j, j < s.size → (l.getD j 0).toNat = bt s j) : (⟨l.toArray⟩ : ByteArray) = s := by
  apply bytes_ext
  show l = s.data.toList
  apply List.ext_getElem (by rw [hl]; simp)
  intro i h1 h2
  have hi := h i (by omega)
  unfold bt at hi
  have e1 : l.getD i 0 = l[i] := by simp [List.getD, List.getElem?_eq_getElem h1]
  have e2 : s.data.toList.getD i 0 = s.data.toList[i] := by simp [List.getD, List.getElem?_eq_getElem h2]
  rw [e1, e2] at hi
  exact UInt8.toNat_inj.1 hi

theorem four (j : Nat) : (bsh j = 24 ∧ ssh j = 0 ∧ j = 4 * (j / 4)) ∨ (bsh j = 16 ∧ ssh j = 8 ∧ j = 4 * (j / 4) + 1) ∨ (bsh j = 8 ∧ ssh j = 16 ∧ j = 4 * (j / 4) + 2) ∨ (bsh j = 0 ∧ ssh j = 24 ∧ j = 4 * (j / 4) + 3) := by
  unfold bsh ssh; omega

end Go.Proofs.YtglgppeloolbhaaGreatDoor

namespace Go.Proofs.YtglgppeloolbhaaGreatDoor
open Go.RowKit
set_option maxRecDepth 100000

theorem nat_mod (x : Int) (m : Nat) (hm : 0 < m) : ∃ X : Nat, X < m ∧ x % (m : Int) = (X : Int) := by
  have h1 := Int.emod_nonneg x (show (m : Int) ≠ 0 by omega)
  have h2 := Int.emod_lt_of_pos x (show (0 : Int) < (m : Int) by omega)
  exact ⟨(x % (m : Int)).toNat, by omega, by omega⟩

end Go.Proofs.YtglgppeloolbhaaGreatDoor

namespace Go.Proofs.YtglgppeloolbhaaGreatDoor
open Go.RowKit
set_option maxRecDepth 100000
set_option linter.unusedSimpArgs false

theorem wrap_byte (a : Nat) (h : a < 4294967296) : IntKind.i64.wrap (a : Int) = (a : Int) := wrap_nat a (by omega)
theorem rbig_bits (a b c d : Nat) (ha : a < 256) (hb : b < 256) (hc : c < 256) (hd : d < 256) :
    bits .or .i64 (bits .or .i64 (bits .or .i64 (IntKind.i64.wrap (IntKind.i64.wrap (a : Int) * 16777216)) (IntKind.i64.wrap (IntKind.i64.wrap (b : Int) * 65536))) (IntKind.i64.wrap (IntKind.i64.wrap (c : Int) * 256))) (IntKind.i64.wrap (d : Int)) = ((bigW a b c d : Nat) : Int) := by
  rw [wrap_byte a (by omega), wrap_byte b (by omega), wrap_byte c (by omega), wrap_byte d (by omega)]
  rw [show (a : Int) * 16777216 = ((a * 2 ^ 24 : Nat) : Int) by omega, show (b : Int) * 65536 = ((b * 2 ^ 16 : Nat) : Int) by omega, show (c : Int) * 256 = ((c * 2 ^ 8 : Nat) : Int) by omega]
  rw [wrap_byte (a * 2 ^ 24) (by omega), wrap_byte (b * 2 ^ 16) (by omega), wrap_byte (c * 2 ^ 8) (by omega)]
  have h1 : a * 2 ^ 24 ||| b * 2 ^ 16 < 2 ^ 32 := Nat.or_lt_two_pow (by omega) (by omega)
  have h2 : (a * 2 ^ 24 ||| b * 2 ^ 16) ||| c * 2 ^ 8 < 2 ^ 32 := Nat.or_lt_two_pow h1 (by omega)
  rw [i64_or_nat _ _ (by omega) (by omega), i64_or_nat _ _ (by omega) (by omega), i64_or_nat _ _ (by omega) (by omega)]
  rfl

set_option maxHeartbeats 4000000 in
theorem rbig_own (s : ByteArray) (w : World) (hs : s.size ≤ 1048576) (h : s.size % 4 = 0) :
    Calls Tryz.prog 69 #[.string s] w fun e w' => ∃ v, e = .returned (.tuple #[v, .int .i64 0]) ∧
      OwnV w' w.heap.size 3 .i64 v (s.size / 4) (wordsL s bsh) ∧ Below w.heap.size w w' := by
  have hn : ((((s.size : Int) % 4) != 0)) = false := by rw [bne_eq_false_iff_eq]; omega
  obtain ⟨i0, hi, hz0, hz1, hz2⟩ := info_parts Tryz.info3
  go_enter Tryz.func69, Tryz.ntmps69
  go_wp2
  go_loopw [4, 5] (fun v i wr => ∃ k j : Nat, j ≤ s.size ∧ i = .int .i64 j ∧ Hid (j = 4 * k) ∧ OwnV wr w.heap.size 3 .i64 v k ((wordsL s bsh).take k) ∧ Below w.heap.size w wr) (fun _ i _ => s.size - (intOf i).toNat)
  case atStart => exact ⟨0, 0, Nat.zero_le _, rfl, rfl, OwnV.nil _ _ _ _, Below.refl _ _⟩
  case round =>
    obtain ⟨k, j, hj, rfl, HJ, hown, hbl⟩ := hrel
    have hkb : k ≤ 1048576 := by have := HJ.out; omega
    by_cases hlt : j < s.size
    · have hlt3 : j + 3 < s.size := by have := HJ.out; omega
      have hlt1 : j + 1 < s.size := by omega
      have hlt2 : j + 2 < s.size := by omega
      have hw1 : IntKind.i64.wrap ((j : Int) + 1) = (j : Int) + 1 := wrap_nat (j + 1) (by omega)
      have hw2 : IntKind.i64.wrap ((j : Int) + 2) = (j : Int) + 2 := wrap_nat (j + 2) (by omega)
      have hw3 : IntKind.i64.wrap ((j : Int) + 3) = (j : Int) + 3 := wrap_nat (j + 3) (by omega)
      have hp1 : (0 : Int) ≤ (j : Int) + 1 ∧ (j : Int) + 1 < (s.size : Int) := by omega
      have hp2 : (0 : Int) ≤ (j : Int) + 2 ∧ (j : Int) + 2 < (s.size : Int) := by omega
      have hp3 : (0 : Int) ≤ (j : Int) + 3 ∧ (j : Int) + 3 < (s.size : Int) := by omega
      have he2 : ((j : Int) + 2).toNat = j + 2 := by omega
      have he3 : ((j : Int) + 3).toNat = j + 3 := by omega
      have hsz := hbl.size
      go_wp2
      refine wp_region_noPanic ?_
      refine wp_region_held_drew (S := fun _ => True) (by kernel_rfl) (by first | exact trivial | assumption | exact ⟨by assumption, by assumption⟩) (fun hHeld => ?_)
      refine take_at (i := 0) (v := ?_) rfl rfl (by kernel_rfl) (by kernel_rfl) (by kernel_rfl) (fun _ _ _ h => h) (Or.inl ⟨by rfl, ?_⟩) (by assumption) ?_
      rotate_left
      · intro w hSw; (try dsimp only at hSw); go_simp; try with_reducible rfl
      try simp only [Act.put, List.setIfInBounds_toArray, List.set_cons_zero, List.set_cons_succ]
      refine take_at (i := 1) (v := ?_) rfl rfl (by kernel_rfl) (by kernel_rfl) (by kernel_rfl) (fun _ _ _ h => h) (Or.inl ⟨by rfl, ?_⟩) (by assumption) ?_
      rotate_left
      · intro w hSw; (try dsimp only at hSw); go_simp; try with_reducible rfl
      try simp only [Act.put, List.setIfInBounds_toArray, List.set_cons_zero, List.set_cons_succ]
      refine take_at (i := 2) (v := ?_) rfl rfl (by kernel_rfl) (by kernel_rfl) (by kernel_rfl) (fun _ _ _ h => h) (Or.inl ⟨by rfl, ?_⟩) (by assumption) ?_
      rotate_left
      · intro w hSw; (try dsimp only at hSw); go_simp; try with_reducible rfl
      try simp only [Act.put, List.setIfInBounds_toArray, List.set_cons_zero, List.set_cons_succ]
      refine take_at (i := 3) (v := ?_) rfl rfl (by kernel_rfl) (by kernel_rfl) (by kernel_rfl) (fun _ _ _ h => h) (Or.inl ⟨by rfl, ?_⟩) (by assumption) ?_
      rotate_left
      · intro w hSw; (try dsimp only at hSw); go_simp; try with_reducible rfl
      try simp only [Act.put, List.setIfInBounds_toArray, List.set_cons_zero, List.set_cons_succ]
      refine take_at (i := 4) (v := ?_) rfl rfl (by kernel_rfl) (by kernel_rfl) (by kernel_rfl) (fun _ _ _ h => h) (Or.inl ⟨by rfl, ?_⟩) (by assumption) ?_
      rotate_left
      · intro w hSw; (try dsimp only at hSw); go_simp; try with_reducible rfl
      try simp only [Act.put, List.setIfInBounds_toArray, List.set_cons_zero, List.set_cons_succ]
      refine take_at (i := 5) (v := ?_) rfl rfl (by kernel_rfl) (by kernel_rfl) (by kernel_rfl) (fun _ _ _ h => h) (Or.inl ⟨by rfl, ?_⟩) (by assumption) ?_
      rotate_left
      · intro w hSw; (try dsimp only at hSw); go_simp; try with_reducible rfl
      try simp only [Act.put, List.setIfInBounds_toArray, List.set_cons_zero, List.set_cons_succ]
      refine take_at (i := 6) (v := ?_) rfl rfl (by kernel_rfl) (by kernel_rfl) (by kernel_rfl) (fun _ _ _ h => h) (Or.inl ⟨by rfl, ?_⟩) (by assumption) ?_
      rotate_left
      · intro w hSw; (try dsimp only at hSw); go_simp; try with_reducible rfl
      try simp only [Act.put, List.setIfInBounds_toArray, List.set_cons_zero, List.set_cons_succ]
      refine take_at (i := 7) (v := ?_) rfl rfl (by kernel_rfl) (by kernel_rfl) (by kernel_rfl) (fun _ _ _ h => h) (Or.inl ⟨by rfl, ?_⟩) (by assumption) ?_
      rotate_left
      · intro w hSw; (try dsimp only at hSw); go_simp; try with_reducible rfl
      try simp only [Act.put, List.setIfInBounds_toArray, List.set_cons_zero, List.set_cons_succ]
      refine take_at (i := 8) (v := ?_) rfl rfl (by kernel_rfl) (by kernel_rfl) (by kernel_rfl) (fun _ _ _ h => h) (Or.inl ⟨by rfl, ?_⟩) (by assumption) ?_
      rotate_left
      · intro w hSw; (try dsimp only at hSw); go_simp; try with_reducible rfl
      try simp only [Act.put, List.setIfInBounds_toArray, List.set_cons_zero, List.set_cons_succ]
      refine take_at (i := 9) (v := ?_) rfl rfl (by kernel_rfl) (by kernel_rfl) (by kernel_rfl) (fun _ _ _ h => h) (Or.inl ⟨by rfl, ?_⟩) (by assumption) ?_
      rotate_left
      · intro w hSw; (try dsimp only at hSw); go_simp; try with_reducible rfl
      try simp only [Act.put, List.setIfInBounds_toArray, List.set_cons_zero, List.set_cons_succ]
      refine take_at (i := 10) (v := ?_) rfl rfl (by kernel_rfl) (by kernel_rfl) (by kernel_rfl) (fun _ _ _ h => h) (Or.inl ⟨by rfl, ?_⟩) (by assumption) ?_
      rotate_left
      · intro w hSw; (try dsimp only at hSw); go_simp; try with_reducible rfl
      try simp only [Act.put, List.setIfInBounds_toArray, List.set_cons_zero, List.set_cons_succ]
      refine take_at (i := 11) (v := ?_) rfl rfl (by kernel_rfl) (by kernel_rfl) (by kernel_rfl) (fun _ _ _ h => h) (Or.inl ⟨by rfl, ?_⟩) (by assumption) ?_
      rotate_left
      · intro w hSw; (try dsimp only at hSw); go_simp; try with_reducible rfl
      try simp only [Act.put, List.setIfInBounds_toArray, List.set_cons_zero, List.set_cons_succ]
      refine take_at (i := 12) (v := ?_) rfl rfl (by kernel_rfl) (by kernel_rfl) (by kernel_rfl) (fun _ _ _ h => h) (Or.inl ⟨by rfl, ?_⟩) (by assumption) ?_
      rotate_left
      · intro w hSw; (try dsimp only at hSw); go_simp; try with_reducible rfl
      try simp only [Act.put, List.setIfInBounds_toArray, List.set_cons_zero, List.set_cons_succ]
      refine take_at (i := 13) (v := ?_) rfl rfl (by kernel_rfl) (by kernel_rfl) (by kernel_rfl) (fun _ _ _ h => h) (Or.inl ⟨by rfl, ?_⟩) (by assumption) ?_
      rotate_left
      · intro w hSw; (try dsimp only at hSw); go_simp; try with_reducible rfl
      try simp only [Act.put, List.setIfInBounds_toArray, List.set_cons_zero, List.set_cons_succ]
      refine take_at (i := 14) (v := ?_) rfl rfl (by kernel_rfl) (by kernel_rfl) (by kernel_rfl) (fun _ _ _ h => h) (Or.inl ⟨by rfl, ?_⟩) (by assumption) ?_
      rotate_left
      · intro w hSw; (try dsimp only at hSw); go_simp; try with_reducible rfl
      try simp only [Act.put, List.setIfInBounds_toArray, List.set_cons_zero, List.set_cons_succ]
      refine take_at (i := 15) (v := ?_) rfl rfl (by kernel_rfl) (by kernel_rfl) (by kernel_rfl) (fun _ _ _ h => h) (Or.inl ⟨by rfl, ?_⟩) (by assumption) ?_
      rotate_left
      · intro w hSw; (try dsimp only at hSw); go_simp; try with_reducible rfl
      try simp only [Act.put, List.setIfInBounds_toArray, List.set_cons_zero, List.set_cons_succ]
      refine take_at (i := 16) (v := ?_) rfl rfl (by kernel_rfl) (by kernel_rfl) (by kernel_rfl) (fun _ _ _ h => h) (Or.inl ⟨by rfl, ?_⟩) (by assumption) ?_
      rotate_left
      · intro w hSw; (try dsimp only at hSw); go_simp; try with_reducible rfl
      try simp only [Act.put, List.setIfInBounds_toArray, List.set_cons_zero, List.set_cons_succ]
      refine take_at (i := 17) (v := ?_) rfl rfl (by kernel_rfl) (by kernel_rfl) (by kernel_rfl) (fun _ _ _ h => h) (Or.inl ⟨by rfl, ?_⟩) (by assumption) ?_
      rotate_left
      · intro w hSw; (try dsimp only at hSw); go_simp; try with_reducible rfl
      try simp only [Act.put, List.setIfInBounds_toArray, List.set_cons_zero, List.set_cons_succ]
      refine take_at (i := 18) (v := ?_) rfl rfl (by kernel_rfl) (by kernel_rfl) (by kernel_rfl) (fun _ _ _ h => h) (Or.inl ⟨by rfl, ?_⟩) (by assumption) ?_
      rotate_left
      · intro w hSw; (try dsimp only at hSw); go_simp; try with_reducible rfl
      try simp only [Act.put, List.setIfInBounds_toArray, List.set_cons_zero, List.set_cons_succ]
      refine take_at (i := 19) (v := ?_) rfl rfl (by kernel_rfl) (by kernel_rfl) (by kernel_rfl) (fun _ _ _ h => h) (Or.inl ⟨by rfl, ?_⟩) (by assumption) ?_
      rotate_left
      · intro w hSw; (try dsimp only at hSw); go_simp; try with_reducible rfl
      try simp only [Act.put, List.setIfInBounds_toArray, List.set_cons_zero, List.set_cons_succ]
      refine take_at (i := 20) (v := ?_) rfl rfl (by kernel_rfl) (by kernel_rfl) (by kernel_rfl) (fun _ _ _ h => h) (Or.inl ⟨by rfl, ?_⟩) (by assumption) ?_
      rotate_left
      · intro w hSw; (try dsimp only at hSw); go_simp; try with_reducible rfl
      try simp only [Act.put, List.setIfInBounds_toArray, List.set_cons_zero, List.set_cons_succ]
      refine take_at (i := 21) (v := ?_) rfl rfl (by kernel_rfl) (by kernel_rfl) (by kernel_rfl) (fun _ _ _ h => h) (Or.inl ⟨by rfl, ?_⟩) (by assumption) ?_
      rotate_left
      · intro w hSw; (try dsimp only at hSw); go_simp; try with_reducible rfl
      try simp only [Act.put, List.setIfInBounds_toArray, List.set_cons_zero, List.set_cons_succ]
      refine take_at (i := 22) (v := ?_) rfl rfl (by kernel_rfl) (by kernel_rfl) (by kernel_rfl) (fun _ _ _ h => h) (Or.inl ⟨by rfl, ?_⟩) (by assumption) ?_
      rotate_left
      · intro w hSw; (try dsimp only at hSw); go_simp; try with_reducible rfl
      try simp only [Act.put, List.setIfInBounds_toArray, List.set_cons_zero, List.set_cons_succ]
      refine take_at (i := 23) (v := ?_) rfl rfl (by kernel_rfl) (by kernel_rfl) (by kernel_rfl) (fun _ _ _ h => h) (Or.inl ⟨by rfl, ?_⟩) (by assumption) ?_
      rotate_left
      · intro w hSw; (try dsimp only at hSw); go_simp; try with_reducible rfl
      try simp only [Act.put, List.setIfInBounds_toArray, List.set_cons_zero, List.set_cons_succ]
      refine take_at (i := 24) (v := ?_) rfl rfl (by kernel_rfl) (by kernel_rfl) (by kernel_rfl) (fun _ _ _ h => h) (Or.inl ⟨by rfl, ?_⟩) (by assumption) ?_
      rotate_left
      · intro w hSw; (try dsimp only at hSw); go_simp; try with_reducible rfl
      try simp only [Act.put, List.setIfInBounds_toArray, List.set_cons_zero, List.set_cons_succ]
      refine take_at (i := 25) (v := ?_) rfl rfl (by kernel_rfl) (by kernel_rfl) (by kernel_rfl) (fun _ _ _ h => h) (Or.inl ⟨by rfl, ?_⟩) (by assumption) ?_
      rotate_left
      · intro w hSw; (try dsimp only at hSw); go_simp; try with_reducible rfl
      try simp only [Act.put, List.setIfInBounds_toArray, List.set_cons_zero, List.set_cons_succ]
      refine wpAnyH_ready (rs := [26]) (by kernel_rfl) (by simp) ?_
      refine AllReadyH.cons rfl (fun K hK => ?_) AllReadyH.nil
      go_simp
      refine hK.out _ _ trivial (fun hHeld => ?_)
      clear hK K
      refine wpAnyH_ready (rs := [27]) (by kernel_rfl) (by simp) ?_
      refine AllReadyH.cons rfl (fun K hK => ?_) AllReadyH.nil
      refine step_app1 rfl rfl _ _ 47 rfl w.heap.size 3 i0 .i64 8 Tryz.underlying47 hi hz0 hz1 hz2 wr u4 k _ rfl hown _ rfl (by omega) (by omega) (by exact hsz) ?_
      intro v' w1 hown1 hbl1
      refine hK.out _ _ trivial (fun hHeld => ?_)
      clear hK K
      refine take_at (i := 28) (v := ?_) rfl rfl (by kernel_rfl) (by kernel_rfl) (by kernel_rfl) (fun _ _ _ h => h) (Or.inl ⟨by rfl, ?_⟩) (by assumption) ?_
      rotate_left
      · intro w hSw; (try dsimp only at hSw); go_simp; try with_reducible rfl
      try simp only [Act.put, List.setIfInBounds_toArray, List.set_cons_zero, List.set_cons_succ]
      refine wpAnyH_done (by kernel_rfl) (NoPanic.normal ?_) _
      simp only [bt_get] at hown1
      rw [rbig_bits _ _ _ _ (bt_lt _ _) (bt_lt _ _) (bt_lt _ _) (bt_lt _ _)] at hown1
      have hkn : k < (wordsL s bsh).length := by rw [wordsL_length]; have := HJ.out; omega
      have hx : (wordsL s bsh)[k] = ((bigW (bt s j) (bt s (j + 1)) (bt s (j + 2)) (bt s (j + 3)) : Nat) : Int) := by
        have e1 : (wordsL s bsh)[k] = (wordsL s bsh).getD k 0 := by simp [List.getD, List.getElem?_eq_getElem hkn]
        have hJ := HJ.out
        rw [e1, wordsL_getD _ _ _ (by omega), wAt_big s k (by omega), hJ]
      rw [take_snoc_int _ _ hkn _ hx] at hown1
      have HB := hbl.trans hbl1
      clear hbl1 hown hx
      go_wp2
      go_roundw
      case rel =>
        refine ⟨k + 1, j + 4, by omega, by go_num, ?_, hown1, HB⟩
        have := HJ.out; show j + 4 = 4 * (k + 1); omega
      case measure => simp [intOf]; omega
    · have hJ := HJ.out
      have hkn : k = s.size / 4 := by omega
      rw [List.take_of_length_le (by rw [wordsL_length]; omega)] at hown
      rw [hkn] at hown
      have HI : Hid (OwnV wr w.heap.size 3 .i64 _ _ _) := hown
      clear hown hJ hi hz0 hz1 hz2
      go_wp2
      go_ret2
      exact ⟨_, rfl, HI.out, hbl⟩

theorem rbig_even (s : ByteArray) (w : World) (hs : s.size ≤ 1048576) (h : s.size % 4 = 0) :
    Calls Tryz.prog 69 #[.string s] w fun e w' => ∃ a c, e = .returned (.tuple #[.slice a (s.size / 4) c, .int .i64 0]) ∧
      IntsAt w' .i64 a (s.size / 4) (wordsL s bsh) ∧ Below w.heap.size w w' := by
  refine (rbig_own s w hs h).mono ?_
  rintro e w' ⟨v, rfl, ho, hb⟩
  obtain ⟨a, c, rfl, hI⟩ := ho.ints
  exact ⟨a, c, rfl, hI, hb⟩
end Go.Proofs.YtglgppeloolbhaaGreatDoor

namespace Go.Proofs.YtglgppeloolbhaaGreatDoor
open Go.RowKit
set_option maxRecDepth 100000

theorem i64_and255 (n : Int) : bits .and .i64 n 255 = n % 256 := i64_mask n 8 (by decide) 255 (by decide)
theorem putL_nums (l : List Int) (sh : Nat → Nat) (j : Nat) (h : j < (nums (putL l sh)).length) : (nums (putL l sh))[j] = ((pb l sh j : Nat) : Int) := by
  have hk : j < 4 * l.length := by rw [nums_length, putL_length] at h; exact h
  have e : nums (putL l sh) = tab (4 * l.length) (fun i => (pb l sh i : Int)) := nums_bytesOf _ _ (fun i _ => pb_lt l sh i)
  simp only [e, tab_get _ _ j hk]
theorem pb0 (l : List Int) (k X : Nat) (hX : X < 4294967296) (h : l.getD k 0 % 4294967296 = (X : Int)) : ((pb l bsh (4 * k) : Nat) : Int) = (X : Int) / 16777216 := by
  rw [pb_int, show 4 * k / 4 = k by omega, show bsh (4 * k) = 24 by unfold bsh; omega, show (2 ^ 24 : Nat) = 16777216 from rfl]; omega
theorem pb1 (l : List Int) (k X : Nat) (h : l.getD k 0 % 4294967296 = (X : Int)) : ((pb l bsh (4 * k + 1) : Nat) : Int) = (X : Int) / 65536 % 256 := by
  rw [pb_int, show (4 * k + 1) / 4 = k by omega, show bsh (4 * k + 1) = 16 by unfold bsh; omega, show (2 ^ 16 : Nat) = 65536 from rfl]; omega
theorem pb2 (l : List Int) (k X : Nat) (h : l.getD k 0 % 4294967296 = (X : Int)) : ((pb l bsh (4 * k + 2) : Nat) : Int) = (X : Int) / 256 % 256 := by
  rw [pb_int, show (4 * k + 2) / 4 = k by omega, show bsh (4 * k + 2) = 8 by unfold bsh; omega, show (2 ^ 8 : Nat) = 256 from rfl]; omega
theorem pb3 (l : List Int) (k X : Nat) (h : l.getD k 0 % 4294967296 = (X : Int)) : ((pb l bsh (4 * k + 3) : Nat) : Int) = (X : Int) % 256 := by
  rw [pb_int, show (4 * k + 3) / 4 = k by omega, show bsh (4 * k + 3) = 0 by unfold bsh; omega, show (2 ^ 0 : Nat) = 1 from rfl]; omega

set_option maxHeartbeats 2000000 in
theorem rputBig_any (a : Option Addr) (n c : Nat) (l : List Int) (w : World) (hn : n ≤ 262144) (hI : IntsAt w .i64 a n l) :
    Calls Tryz.prog 57 #[.slice a n c] w fun e w' => e = .returned (.string ⟨(putL l bsh).toArray⟩) ∧ Below w.heap.size w w' := by
  have HI : Hid (IntsAt w .i64 a n l) := hI
  have HL : Hid ((nums (putL l bsh)).length = 4 * n) := by show _ = _; rw [nums_length, putL_length, hI.1]
  clear hI
  obtain ⟨i0, hi, hz0, hz1, hz2⟩ := info_parts Tryz.info5
  go_enter Tryz.func57, Tryz.ntmps57
  go_wp2
  go_loopw [3, 4] (fun v i wr => ∃ k : Nat, k ≤ n ∧ i = .int .i64 k ∧ OwnV wr w.heap.size 5 .u8 v (4 * k) ((nums (putL l bsh)).take (4 * k)) ∧ Below w.heap.size w wr) (fun _ i _ => n - (intOf i).toNat)
  case atStart => exact ⟨0, Nat.zero_le _, rfl, OwnV.nil _ _ _ _, Below.refl _ _⟩
  case round =>
    obtain ⟨k, hk, rfl, hown, hbl⟩ := hrel
    by_cases hlt : k < n
    · obtain ⟨b, off, rfl, hcl⟩ : ∃ b off, a = some ⟨b, off, none⟩ ∧ ∀ i, i < n → w.cell? ⟨b, off + i, none⟩ = some (.int .i64 (l.getD i 0)) := by
        rcases HI.out.2 with h0 | h1
        · omega
        · exact h1
      obtain ⟨X, hX, ex'⟩ := nat_mod (l.getD k 0) 4294967296 (by decide)
      have ex : l.getD k 0 % 4294967296 = (X : Int) := ex'
      clear ex'
      obtain ⟨x, hx⟩ : ∃ x, x = l.getD k 0 := ⟨_, rfl⟩
      have h1 := hcl k hlt
      have hlb := World.block_lt_of_cell? w _ h1
      have g1 : wr.cell? ⟨b, off + k, none⟩ = some (.int .i64 x) := by
        rw [hbl.cell (p := ⟨b, off + k, none⟩) hlb, h1, hx]
      have P0 : Hid _ := pb0 l k X hX ex
      have P1 : Hid _ := pb1 l k X ex
      have P2 : Hid _ := pb2 l k X ex
      have P3 : Hid _ := pb3 l k X ex
      have c1 := fun w => word_any x w
      rw [hx, ex, ← hx] at c1
      have C1 : Hid (∀ w, _) := c1
      clear hx h1 hcl c1 ex
      have m1 := i64_and255 ((X : Int) / 65536)
      have m2 := i64_and255 ((X : Int) / 256)
      have m3 := i64_and255 (X : Int)
      have hsz := hbl.size
      go_wp2_with (first | (go_at_call 75; refine (C1.out _).mono ?_; rintro e w' ⟨rfl, rfl⟩) | (at_builtin; refine wpList_app1 rfl (.tmp 17) (.tmp 21) 35 rfl w.heap.size 5 i0 .u8 1 Tryz.underlying35 hi hz0 hz1 hz2 _ u3 (4 * k) _ rfl hown _ rfl (by omega) (by omega) hsz ?_))
      intro v1 w1 hown1 hbl1
      rw [take_snoc_int _ _ (by rw [HL.out]; omega) _ (by rw [putL_nums]; exact P0.out)] at hown1
      have hbl2 := hbl.trans hbl1
      have hsz2 := hbl2.size
      clear hbl1 hown hbl hsz g1
      go_wp2_with (at_builtin; refine wpList_app1 rfl (.tmp 23) (.tmp 28) 35 rfl w.heap.size 5 i0 .u8 1 Tryz.underlying35 hi hz0 hz1 hz2 w1 v1 (4 * k + 1) _ rfl hown1 _ rfl (by omega) (by omega) hsz2 ?_)
      intro v2 w2 hown2 hbx
      rw [take_snoc_int _ _ (by rw [HL.out]; omega) _ (by rw [putL_nums]; exact P1.out)] at hown2
      have hbl4 := hbl2.trans hbx
      have hsz4 := hbl4.size
      clear hbx hown1 hbl2 hsz2
      go_wp2_with (at_builtin; refine wpList_app1 rfl (.tmp 30) (.tmp 35) 35 rfl w.heap.size 5 i0 .u8 1 Tryz.underlying35 hi hz0 hz1 hz2 w2 v2 (4 * k + 2) _ rfl hown2 _ rfl (by omega) (by omega) hsz4 ?_)
      intro v3 w3 hown3 hbx
      rw [take_snoc_int _ _ (by rw [HL.out]; omega) _ (by rw [putL_nums]; exact P2.out)] at hown3
      have hbl6 := hbl4.trans hbx
      have hsz6 := hbl6.size
      clear hbx hown2 hbl4 hsz4
      go_wp2_with (at_builtin; refine wpList_app1 rfl (.tmp 37) (.tmp 41) 35 rfl w.heap.size 5 i0 .u8 1 Tryz.underlying35 hi hz0 hz1 hz2 w3 v3 (4 * k + 3) _ rfl hown3 _ rfl (by omega) (by omega) hsz6 ?_)
      intro v4 w4 hown4 hbx
      rw [take_snoc_int _ _ (by rw [HL.out]; omega) _ (by rw [putL_nums]; exact P3.out)] at hown4
      have hbl8 := hbl6.trans hbx
      have hsz8 := hbl8.size
      clear hbx hown3 hbl6 hsz6
      go_wp2
      go_roundw
      case rel => exact ⟨k + 1, by omega, by go_num, hown4, hbl8⟩
      case measure => simp [intOf]; omega
    · have hk' : k = n := by omega
      rw [List.take_of_length_le (by rw [HL.out]; omega)] at hown
      have hcv := own_conv (P := Tryz.prog) 35 9 hown Tryz.underlying35 Tryz.underlying5 Tryz.underlying9
      clear hk' hown hi hz0 hz1 hz2
      go_wp2
      go_ret
      exact ⟨rfl, hbl⟩
end Go.Proofs.YtglgppeloolbhaaGreatDoor

namespace Go.Proofs.YtglgppeloolbhaaGreatDoor
open Go.RowKit
set_option maxRecDepth 100000

/-- Bytes, four by four the other way round. -/
def tp (s : ByteArray) (j : Nat) : Nat := bt s (4 * (j / 4) + (3 - j % 4))
def turnL (s : ByteArray) : List UInt8 := bytesOf (4 * (s.size / 4)) (tp s)
theorem tp_lt (s : ByteArray) (j : Nat) : tp s j < 256 := bt_lt _ _
theorem turnL_len (s : ByteArray) : (nums (turnL s)).length = 4 * (s.size / 4) := by rw [nums_length]; unfold turnL; rw [bytesOf_length]
theorem turnL_get (s : ByteArray) (j : Nat) (h : j < (nums (turnL s)).length) : (nums (turnL s))[j] = ((tp s j : Nat) : Int) := by
  have hk : j < 4 * (s.size / 4) := by rw [turnL_len] at h; exact h
  have e : nums (turnL s) = tab (4 * (s.size / 4)) (fun i => (tp s i : Int)) := nums_bytesOf _ _ (fun i _ => tp_lt s i)
  simp only [e, tab_get _ _ j hk]
theorem tp0 (s : ByteArray) (k : Nat) : tp s (4 * k) = bt s (4 * k + 3) := by unfold tp; rw [show 4 * (4 * k / 4) + (3 - 4 * k % 4) = 4 * k + 3 by omega]
theorem tp1 (s : ByteArray) (k : Nat) : tp s (4 * k + 1) = bt s (4 * k + 2) := by unfold tp; rw [show 4 * ((4 * k + 1) / 4) + (3 - (4 * k + 1) % 4) = 4 * k + 2 by omega]
theorem tp2 (s : ByteArray) (k : Nat) : tp s (4 * k + 2) = bt s (4 * k + 1) := by unfold tp; rw [show 4 * ((4 * k + 2) / 4) + (3 - (4 * k + 2) % 4) = 4 * k + 1 by omega]
theorem tp3 (s : ByteArray) (k : Nat) : tp s (4 * k + 3) = bt s (4 * k) := by unfold tp; rw [show 4 * ((4 * k + 3) / 4) + (3 - (4 * k + 3) % 4) = 4 * k by omega]

set_option maxHeartbeats 2000000 in
set_option maxRecDepth 100000 in
theorem turned_any (s : ByteArray) (w : World) (hs : s.size ≤ 1048576) :
    Calls Tryz.prog 56 #[.string s] w fun e w' => e = .returned (.string ⟨(turnL s).toArray⟩) ∧ Below w.heap.size w w' := by
  have HL : Hid ((nums (turnL s)).length = 4 * (s.size / 4)) := turnL_len s
  obtain ⟨i0, hi, hz0, hz1, hz2⟩ := info_parts Tryz.info5
  go_enter Tryz.func56, Tryz.ntmps56
  go_wp2
  go_loopw [3, 4] (fun v i wr => ∃ k j : Nat, j ≤ s.size ∧ i = .int .i64 j ∧ Hid (j = 4 * k) ∧ OwnV wr w.heap.size 5 .u8 v (4 * k) ((nums (turnL s)).take (4 * k)) ∧ Below w.heap.size w wr) (fun _ i _ => s.size - (intOf i).toNat)
  case atStart => exact ⟨0, 0, Nat.zero_le _, rfl, rfl, OwnV.nil _ _ _ _, Below.refl _ _⟩
  case round =>
    obtain ⟨k, j, hj, rfl, HJ, hown, hbl⟩ := hrel
    have hkb : k ≤ 1048576 := by have := HJ.out; omega
    by_cases hlt : j + 3 < s.size
    · have hlt0 : j < s.size := by omega
      have hlt1 : j + 1 < s.size := by omega
      have hlt2 : j + 2 < s.size := by omega
      have he2 : ((j : Int) + 2).toNat = j + 2 := by omega
      have he3 : ((j : Int) + 3).toNat = j + 3 := by omega
      have P0 : Hid (((tp s (4 * k) : Nat) : Int) = ((bt s (j + 3) : Nat) : Int)) := by show _ = _; rw [tp0, HJ.out]
      have P1 : Hid (((tp s (4 * k + 1) : Nat) : Int) = ((bt s (j + 2) : Nat) : Int)) := by show _ = _; rw [tp1, HJ.out]
      have P2 : Hid (((tp s (4 * k + 2) : Nat) : Int) = ((bt s (j + 1) : Nat) : Int)) := by show _ = _; rw [tp2, HJ.out]
      have P3 : Hid (((tp s (4 * k + 3) : Nat) : Int) = ((bt s j : Nat) : Int)) := by show _ = _; rw [tp3, HJ.out]
      have hsz := hbl.size
      go_wp2_with (at_builtin; refine wpList_app1 rfl (.tmp 12) (.tmp 17) 35 rfl w.heap.size 5 i0 .u8 1 Tryz.underlying35 hi hz0 hz1 hz2 wr u3 (4 * k) _ rfl hown _ rfl (by omega) (by omega) hsz ?_)
      intro v1 w1 hown1 hbx
      simp only [bt_get] at hown1
      rw [take_snoc_int _ _ (by rw [HL.out]; have := HJ.out; omega) _ (by rw [turnL_get]; exact P0.out)] at hown1
      have hbl1 := hbl.trans hbx
      have hsz1 := hbl1.size
      clear hbx hown hbl hsz
      go_wp2_with (at_builtin; refine wpList_app1 rfl (.tmp 19) (.tmp 24) 35 rfl w.heap.size 5 i0 .u8 1 Tryz.underlying35 hi hz0 hz1 hz2 w1 v1 (4 * k + 1) _ rfl hown1 _ rfl (by omega) (by omega) hsz1 ?_)
      intro v2 w2 hown2 hbx
      simp only [bt_get] at hown2
      rw [take_snoc_int _ _ (by rw [HL.out]; have := HJ.out; omega) _ (by rw [turnL_get]; exact P1.out)] at hown2
      have hbl2 := hbl1.trans hbx
      have hsz2 := hbl2.size
      clear hbx hown1 hbl1 hsz1
      go_wp2_with (at_builtin; refine wpList_app1 rfl (.tmp 26) (.tmp 31) 35 rfl w.heap.size 5 i0 .u8 1 Tryz.underlying35 hi hz0 hz1 hz2 w2 v2 (4 * k + 2) _ rfl hown2 _ rfl (by omega) (by omega) hsz2 ?_)
      intro v3 w3 hown3 hbx
      simp only [bt_get] at hown3
      rw [take_snoc_int _ _ (by rw [HL.out]; have := HJ.out; omega) _ (by rw [turnL_get]; exact P2.out)] at hown3
      have hbl3 := hbl2.trans hbx
      have hsz3 := hbl3.size
      clear hbx hown2 hbl2 hsz2
      go_wp2_with (at_builtin; refine wpList_app1 rfl (.tmp 33) (.tmp 37) 35 rfl w.heap.size 5 i0 .u8 1 Tryz.underlying35 hi hz0 hz1 hz2 w3 v3 (4 * k + 3) _ rfl hown3 _ rfl (by omega) (by omega) hsz3 ?_)
      intro v4 w4 hown4 hbx
      simp only [bt_get] at hown4
      rw [take_snoc_int _ _ (by rw [HL.out]; have := HJ.out; omega) _ (by rw [turnL_get]; exact P3.out)] at hown4
      have hbl4 := hbl3.trans hbx
      have hsz4 := hbl4.size
      clear hbx hown3 hbl3 hsz3
      go_wp2
      go_roundw
      case rel =>
        refine ⟨k + 1, j + 4, by omega, by go_num, ?_, hown4, hbl4⟩
        have := HJ.out; show j + 4 = 4 * (k + 1); omega
      case measure => simp [intOf]; omega
    · have hJ := HJ.out
      have hk' : k = s.size / 4 := by omega
      rw [List.take_of_length_le (by rw [HL.out]; omega)] at hown
      have hcv := own_conv (P := Tryz.prog) 35 9 hown Tryz.underlying35 Tryz.underlying5 Tryz.underlying9
      clear hk' hown hi hz0 hz1 hz2 hJ
      go_wp2
      go_ret
      exact ⟨rfl, hbl⟩

theorem turn_size (s : ByteArray) : (⟨(turnL s).toArray⟩ : ByteArray).size = 4 * (s.size / 4) := by
  show (turnL s).toArray.size = _
  rw [List.size_toArray]; unfold turnL; rw [bytesOf_length]
theorem turn_bt (s : ByteArray) (j : Nat) (h : j < 4 * (s.size / 4)) : bt ⟨(turnL s).toArray⟩ j = tp s j := by
  rw [bt_mk]
  unfold turnL bytesOf
  simp [List.getD, List.getElem?_map, List.getElem?_range h, Nat.mod_eq_of_lt (tp_lt s j)]
theorem turn_words (s : ByteArray) (h : s.size % 4 = 0) : wordsL ⟨(turnL s).toArray⟩ bsh = wordsL s ssh := by
  have e : (⟨(turnL s).toArray⟩ : ByteArray).size = s.size := by rw [turn_size]; omega
  have e2 : wordsL ⟨(turnL s).toArray⟩ bsh = tab (s.size / 4) (fun i => ((wAt ⟨(turnL s).toArray⟩ bsh (⟨(turnL s).toArray⟩ : ByteArray).size i : Nat) : Int)) := by
    unfold wordsL; rw [e]
  rw [e2]
  unfold wordsL
  refine tab_congr _ _ _ (fun i hi => ?_)
  rw [wAt_big _ i (by rw [e]; omega), wAt_small s i (by omega)]
  rw [turn_bt s _ (by omega), turn_bt s _ (by omega), turn_bt s _ (by omega), turn_bt s _ (by omega), tp0, tp1, tp2, tp3]
theorem turn_put (l : List Int) : (⟨(turnL ⟨(putL l bsh).toArray⟩).toArray⟩ : ByteArray) = ⟨(putL l ssh).toArray⟩ := by
  have hs : (⟨(putL l bsh).toArray⟩ : ByteArray).size = 4 * l.length := by
    show (putL l bsh).toArray.size = _; rw [List.size_toArray, putL_length]
  have hs' : (⟨(putL l ssh).toArray⟩ : ByteArray).size = 4 * l.length := by
    show (putL l ssh).toArray.size = _; rw [List.size_toArray, putL_length]
  apply bytes_eq
  · unfold turnL; rw [bytesOf_length, hs, hs']; omega
  · intro j hj
    rw [hs'] at hj
    rw [← bt_mk, turn_bt _ j (by rw [hs]; omega), putL_bt l ssh j hj]
    unfold tp
    rw [putL_bt l bsh _ (by omega)]
    unfold pb
    rw [show (4 * (j / 4) + (3 - j % 4)) / 4 = j / 4 by omega, show bsh (4 * (j / 4) + (3 - j % 4)) = ssh j by unfold bsh ssh; omega]

set_option maxHeartbeats 400000 in
theorem rsmall_even (s : ByteArray) (w : World) (hs : s.size ≤ 1048576) (h : s.size % 4 = 0) :
    Calls Tryz.prog 49 #[.string s] w fun e w' => ∃ a c, e = .returned (.tuple #[.slice a (s.size / 4) c, .int .i64 0]) ∧
      IntsAt w' .i64 a (s.size / 4) (wordsL s ssh) ∧ Below w.heap.size w w' := by
  have hn : ((((s.size : Int) % 4) != 0)) = false := by rw [bne_eq_false_iff_eq]; omega
  have hsz := turn_size s
  have c2 := fun w => rbig_even ⟨(turnL s).toArray⟩ w (by rw [hsz]; omega) (by rw [hsz]; omega)
  rw [turn_words s h, hsz, show 4 * (s.size / 4) / 4 = s.size / 4 by omega] at c2
  have C2 : Hid (∀ w, _) := c2
  clear c2 hsz
  go_enter Tryz.func49, Tryz.ntmps49
  go_wp2_with fail
  refine (turned_any s _ hs).mono ?_
  rintro e w1 ⟨rfl, hb1⟩
  go_wp2_with fail
  refine (C2.out _).mono ?_
  rintro e w2 ⟨a, c, rfl, hI, hb2⟩
  have HI : Hid (IntsAt w2 _ _ _ _) := hI
  clear hI
  go_wp2_with fail
  go_ret2
  exact ⟨a, c, rfl, HI.out, below_step hb1 (Nat.le_refl _) hb2⟩

set_option maxHeartbeats 400000 in
theorem rputSmall_any (a : Option Addr) (n c : Nat) (l : List Int) (w : World) (hn : n ≤ 262144) (hI : IntsAt w .i64 a n l) :
    Calls Tryz.prog 35 #[.slice a n c] w fun e w' => e = .returned (.string ⟨(putL l ssh).toArray⟩) ∧ Below w.heap.size w w' := by
  have HI : Hid (IntsAt w .i64 a n l) := hI
  have c2 := fun w => turned_any ⟨(putL l bsh).toArray⟩ w (by show (putL l bsh).toArray.size ≤ _; rw [List.size_toArray, putL_length, hI.1]; omega)
  rw [turn_put l] at c2
  have C2 : Hid (∀ w, _) := c2
  clear c2 hI
  go_enter Tryz.func35, Tryz.ntmps35
  go_wp2_with fail
  refine (rputBig_any a n c l _ hn HI.out).mono ?_
  rintro e w1 ⟨rfl, hb1⟩
  go_wp2_with fail
  refine (C2.out _).mono ?_
  rintro e w2 ⟨rfl, hb2⟩
  go_wp2_with fail
  go_ret
  exact ⟨rfl, below_step hb1 (Nat.le_refl _) hb2⟩
end Go.Proofs.YtglgppeloolbhaaGreatDoor
