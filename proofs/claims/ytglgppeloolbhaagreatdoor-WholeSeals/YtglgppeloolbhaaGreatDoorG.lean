import Derived.Test.YtglgppeloolbhaaGreatDoorL1
import Derived.Deep.WholeRow
import Derived.Lib.LaidTab
import Derived.Deep.MidRow
import Derived.Laws.CopyOwn
import Derived.Laws.IdiomStrings
import Derived.Room.AppendFits
import Derived.Laws.ResultCell
/- Plain facts that no one layer owns: numbers, rows of words, slices of numbers. -/
namespace Go.Proofs.YtglgppeloolbhaaGreatDoor
open Go.RowKit
set_option maxRecDepth 100000
set_option linter.unusedSimpArgs false

theorem xor_lt32 (x y : Nat) (hx : x < 4294967296) (hy : y < 4294967296) : x ^^^ y < 4294967296 := Nat.xor_lt_two_pow (n := 32) hx hy
theorem and_lt32 (x y : Nat) (hx : x < 4294967296) : x &&& y < 4294967296 := Nat.lt_of_le_of_lt Nat.and_le_left hx
/-- All are words. -/
def Ok (l : List Nat) : Prop := ∀ i, l.getD i 0 < 4294967296
theorem ok_all (l : List Nat) (h : l.all (fun x => decide (x < 4294967296)) = true) : Ok l := by
  intro i
  rw [List.getD_eq_getElem?_getD]
  cases hq : l[i]? with
  | none => decide
  | some x => simpa using (List.all_eq_true.1 h) x (List.mem_of_getElem? hq)
/-- Words as numbers, and as bytes. -/
def ints (l : List Nat) : List Int := l.map fun (n : Nat) => (n : Int)
theorem ints_length (l : List Nat) : (ints l).length = l.length := by simp [ints]
theorem ints_getD (l : List Nat) (i : Nat) : (ints l).getD i 0 = ((l.getD i 0 : Nat) : Int) := by
  simp only [ints, List.getD_eq_getElem?_getD, List.getElem?_map]
  cases l[i]? <;> rfl
theorem map_range_getD (n : Nat) (f : Nat → Nat) (i : Nat) (h : i < n) : ((List.range n).map f).getD i 0 = f i := by
  rw [List.getD_eq_getElem?_getD, List.getElem?_map, List.getElem?_range h]; rfl
theorem tab_snoc (n : Nat) (f : Nat → Int) : tab n f ++ [f n] = tab (n + 1) f := by
  unfold tab; rw [List.range_succ, List.map_append]; rfl
/-- The words that are told by W, as a list of numbers. -/
def wT (W : Nat → Nat) (n : Nat) : List Int := tab n (fun i => (W i : Int))
theorem wT_getD (W : Nat → Nat) (n i : Nat) (h : i < n) : (wT W n).getD i 0 = (W i : Int) := tab_getD n _ i h
theorem wT_length (W : Nat → Nat) (n : Nat) : (wT W n).length = n := tab_length n _
theorem wT_snoc (W : Nat → Nat) (n : Nat) (x : Int) (h : (W n : Int) = x) : wT W n ++ [x] = wT W (n + 1) := by rw [← h]; exact tab_snoc n _
theorem wT_first (l : List Nat) (W : Nat → Nat) (n : Nat) (hl : l.length = n) (hW : ∀ i, i < n → W i = l.getD i 0) : ints l = wT W n := by
  apply List.ext_getElem
  · rw [ints_length, hl]; exact (tab_length _ _).symm
  · intro i h1 h2
    have hi : i < n := by rw [ints_length, hl] at h1; exact h1
    have e1 : (wT W n)[i] = (W i : Int) := tab_get n _ i hi h2
    refine Eq.trans ?_ e1.symm
    rw [hW i hi]
    simp [ints, List.getD_eq_getElem?_getD, List.getElem?_eq_getElem (show i < l.length by omega)]
theorem w64_small (n : Int) (h0 : 0 ≤ n) (h1 : n < 9223372036854775808) : wrap64 n = n := by unfold wrap64; omega
theorem IntsAt.cellAt {w : World} {g n : Nat} {l : List Int} (h : IntsAt w .i64 (some ⟨g, 0, none⟩) n l) (j : Nat) (hj : j < n) : w.cell? ⟨g, j, none⟩ = some (.int .i64 (l.getD j 0)) := by
  rcases h.2 with h0 | ⟨b, off, he, hc⟩
  · omega
  · cases he
    have := hc j hj
    rw [Nat.zero_add] at this; exact this
theorem u32_wrap (n : Int) : IntKind.u32.wrap n = n % 4294967296 := IntKind.wrap_u32' n
/-- The first k numbers, zeros behind them. -/
def upTo (l : List Nat) (k j : Nat) : Int := if j < k then ((l.getD j 0 : Nat) : Int) else 0
theorem upTo_zero (l : List Nat) (j : Nat) : upTo l 0 j = 0 := by simp [upTo]
theorem upTo_set (l : List Nat) (n k X : Nat) (h : X = l.getD k 0) : (tab n (upTo l k)).set k (X : Int) = tab n (upTo l (k + 1)) := by
  refine tab_set _ _ _ _ _ (by unfold upTo; rw [if_pos (by omega), h]) (fun i _ hne => ?_)
  unfold upTo
  by_cases h : i < k
  · rw [if_pos h, if_pos (by omega)]
  · rw [if_neg h, if_neg (by omega)]
theorem upTo_all (l : List Nat) (n : Nat) (h : l.length = n) : tab n (upTo l n) = ints l := by
  apply List.ext_getElem
  · rw [tab_length, ints_length, h]
  · intro i h1 h2
    have hi : i < n := by rw [tab_length] at h1; exact h1
    rw [tab_get n _ i hi]
    unfold upTo
    rw [if_pos hi]
    simp [ints, List.getD_eq_getElem?_getD, List.getElem?_eq_getElem (show i < l.length by omega)]
/-- Rows of words told place by place. -/
def tabN (n : Nat) (f : Nat → Nat) : List Nat := (List.range n).map f
theorem tabN_length (n : Nat) (f : Nat → Nat) : (tabN n f).length = n := by simp [tabN]
theorem tabN_getD (n : Nat) (f : Nat → Nat) (i : Nat) (h : i < n) : (tabN n f).getD i 0 = f i := map_range_getD n f i h
theorem tabN_congr (n : Nat) (f g : Nat → Nat) (h : ∀ i, i < n → f i = g i) : tabN n f = tabN n g := by
  unfold tabN; exact List.map_congr_left (fun i hi => h i (List.mem_range.1 hi))
theorem tabN_set (n : Nat) (f g : Nat → Nat) (j v : Nat) (hj : g j = v) (h : ∀ i, i < n → i ≠ j → f i = g i) : (tabN n f).set j v = tabN n g := by
  apply List.ext_getElem (by simp [tabN])
  intro i h1 h2
  have hi : i < n := by rw [tabN_length] at h2; exact h2
  rw [List.getElem_set]
  by_cases e : j = i
  · rw [if_pos e]; subst e; simp [tabN, hj]
  · rw [if_neg e]; simp [tabN]; exact h i hi (fun h => e h.symm)
/-- The first k of f, noughts behind them. -/
def cutN (f : Nat → Nat) (k j : Nat) : Nat := if j < k then f j else 0
theorem cutN_set (n : Nat) (f : Nat → Nat) (k : Nat) : (tabN n (cutN f k)).set k (f k) = tabN n (cutN f (k + 1)) := by
  refine tabN_set _ _ _ _ _ (by unfold cutN; rw [if_pos (by omega)]) (fun i _ hne => ?_)
  unfold cutN
  by_cases h : i < k
  · rw [if_pos h, if_pos (by omega)]
  · rw [if_neg h, if_neg (by omega)]
theorem cutN_all (n : Nat) (f : Nat → Nat) : tabN n (cutN f n) = tabN n f := tabN_congr _ _ _ (fun i hi => by unfold cutN; rw [if_pos hi])
theorem tabN_of (l : List Nat) (n : Nat) (h : l.length = n) : tabN n (fun i => l.getD i 0) = l := by
  apply List.ext_getElem
  · rw [tabN_length, h]
  · intro i h1 h2
    simp [tabN, List.getD_eq_getElem?_getD, List.getElem?_eq_getElem h2]
theorem i64_xor_nat (a b : Nat) (ha : a < 9223372036854775808) (hb : b < 9223372036854775808) : bits .xor .i64 (a : Int) (b : Int) = ((a ^^^ b : Nat) : Int) := by
  have ha' : a % 2 ^ 64 = a := Nat.mod_eq_of_lt (by omega)
  have hb' : b % 2 ^ 64 = b := Nat.mod_eq_of_lt (by omega)
  have hx : a ^^^ b < 2 ^ 63 := Nat.xor_lt_two_pow ha hb
  show IntKind.i64.wrap ((BitVec.ofInt 64 (a : Int) ^^^ BitVec.ofInt 64 (b : Int)).toNat : Nat) = _
  rw [BitVec.toNat_xor, BitVec.ofInt_natCast, BitVec.ofInt_natCast, BitVec.toNat_ofNat, BitVec.toNat_ofNat, ha', hb']
  exact wraps_i64 _ (Int.natCast_nonneg _) (by exact_mod_cast hx)
theorem OwnV.at {w : World} {B n : Nat} {e : TypeId} {K : IntKind} {v : Value} {l : List Int} (h : OwnV w B e K v n l) (hn : 0 < n) :
    ∃ g c, v = .slice (some ⟨g, 0, none⟩) n c ∧ ∀ j, j < n → w.cell? ⟨g, j, none⟩ = some (.int K (l.getD j 0)) := by
  rcases h.2 with ⟨rfl, rfl⟩ | ⟨g, cap, cur, rfl, r⟩
  · omega
  · have hl := h.len
    refine ⟨g, cap, rfl, fun i hi => ?_⟩
    rw [World.ownsRow.cellAt (⟨h.1, .inr ⟨g, cap, cur, rfl, r⟩⟩ : w.ownsRow B e 1 (.slice (some ⟨g, 0, none⟩) n cap) n _) i (by omega)]
    simp [List.getD, List.getElem?_eq_getElem (show i < l.length by omega)]
theorem OwnV.drewN {w : World} {B n m : Nat} {e : TypeId} {K : IntKind} {v : Value} {l : List Int} (h : OwnV w B e K v n l) : OwnV (w.drewN m) B e K v n l := h
theorem i64_small (n : Int) (h0 : 0 ≤ n) (h1 : n < 9223372036854775808) : IntKind.i64.wrap n = n := by rw [IntKind.wrap_i64]; omega
theorem wT_cut_set (f : Nat → Nat) (n k : Nat) : (wT (cutN f k) n).set k ((f k : Nat) : Int) = wT (cutN f (k + 1)) n := by
  unfold wT
  refine tab_set _ _ _ _ _ (by unfold cutN; rw [if_pos (by omega)]) (fun i _ hne => ?_)
  unfold cutN
  by_cases h : i < k
  · rw [if_pos h, if_pos (by omega)]
  · rw [if_neg h, if_neg (by omega)]
theorem wT_cut_all (f : Nat → Nat) (n : Nat) : wT (cutN f n) n = wT f n := by
  unfold wT; exact tab_congr _ _ _ (fun i hi => by unfold cutN; rw [if_pos hi])
end Go.Proofs.YtglgppeloolbhaaGreatDoor

/- Arrays of words in a block of the call's own: plain facts. -/
namespace Go.Proofs.YtglgppeloolbhaaGreatDoor
open Go.RowKit
set_option maxRecDepth 100000

/-- The cells of an array of words; a block that holds one. -/
def vals (l : List Nat) : Array Value := ((ints l).map (Value.int .u32)).toArray
def Arr (w : World) (t : TypeId) (g : Nat) (l : List Nat) : Prop := w.heap[g]? = some (.cells (vals l) t (0, 0))
theorem vals_size (l : List Nat) : (vals l).size = l.length := by simp [vals, ints]
theorem vals_get (l : List Nat) (j : Nat) (hj : j < l.length) : (vals l)[j]? = some (.int .u32 ((l.getD j 0 : Nat) : Int)) := by
  simp [vals, ints, List.getD_eq_getElem?_getD, List.getElem?_eq_getElem hj]
theorem vals_one (l : List Nat) : (vals l).all (·.oneCell') = true := by
  refine Array.all_eq_true_iff_forall_mem.2 (fun v hv => ?_)
  simp only [vals, List.mem_toArray, List.mem_map] at hv
  obtain ⟨z, _, rfl⟩ := hv
  rfl
theorem Arr.cell {w : World} {t : TypeId} {g : Nat} {l : List Nat} (h : Arr w t g l) (j : Nat) (hj : j < l.length) : w.cell? ⟨g, j, none⟩ = some (.int .u32 ((l.getD j 0 : Nat) : Int)) := by
  rw [cell_of_row _ _ _ _ t (0, 0) h, vals_get l j hj]
theorem Arr.lt {w : World} {t : TypeId} {g : Nat} {l : List Nat} (h : Arr w t g l) : g < w.heap.size := (Array.getElem?_eq_some_iff.1 h).1
theorem Arr.free {w : World} {t : TypeId} {g : Nat} {l : List Nat} (h : Arr w t g l) (j : Nat) : w.frozen? ⟨g, j, none⟩ = false := by
  unfold Arr at h
  simp [World.frozen?, h]
theorem Arr.below {w w' : World} {t : TypeId} {B g : Nat} {l : List Nat} (h : Arr w t g l) (hb : Below B w w') (hg : g < B) : Arr w' t g l := by
  unfold Arr; rw [hb.block g hg]; exact h
theorem Arr.alloc {w : World} {t : TypeId} {g : Nat} {l : List Nat} (h : Arr w t g l) (o : Obj) : Arr (w.alloc o) t g l := by
  unfold Arr; rw [Below.heap_alloc w o g h.lt]; exact h
theorem Arr.new (w : World) (t : TypeId) (l : List Nat) (c : Array Value) (hc : c = vals l) : Arr (w.alloc (.cells c t)) t w.heap.size l := by
  subst hc; exact heap_alloc_last w _
theorem Arr.other {w : World} {t : TypeId} {g : Nat} {l : List Nat} (h : Arr w t g l) (p : Addr) (hp : g ≠ p.block) (u : Value) : Arr (w.setCell p u) t g l := by
  unfold Arr; rw [Below.heap_setCell w p u g hp]; exact h
theorem Arr.set {w : World} {t : TypeId} {g : Nat} {l : List Nat} (h : Arr w t g l) (j : Nat) (x : Nat) : Arr (w.setCell ⟨g, j, none⟩ (.int .u32 (x : Int))) t g (l.set j x) := by
  have e : vals (l.set j x) = (vals l).setIfInBounds j (.int .u32 (x : Int)) := by simp [vals, ints, List.map_set]
  unfold Arr
  rw [e]
  exact heap_setCell_same w g j _ t _ h
theorem Arr.setRow {w : World} {t : TypeId} {g : Nat} {l : List Nat} (h : Arr w t g l) (l' : List Nat) : Arr (w.setRow g (vals l')) t g l' := setRow_heap w g _ _ t (0, 0) h
theorem Arr.setRowOther {w : World} {t : TypeId} {g : Nat} {l : List Nat} (h : Arr w t g l) (g' : Nat) (hg : g ≠ g') (c : Array Value) : Arr (w.setRow g' c) t g l := by
  unfold Arr; rw [setRow_other w g' g c hg]; exact h

section
variable {P : Program} {ops : Array Oper} {rest : List Oper} {o : Oper} {a : Act} {w : World} {Q : Exit → Act → World → Prop}
theorem results_cell {fn : Func} {p : Tmp} {ty : TypeId} (h : fn.results = #[.cell p ty]) (tmps : Array Value) (P : Program) (w : World) :
    (results fn tmps).run P w = ((asAddr (tmps.getD p undef)).run P w).andThen fun a w₁ => (loadVar ty a).run P w₁ := by
  simp only [results, h]
  simp [Sem.run_bind, Result.andThen]
theorem run_loadArr (t : TypeId) (g : Nat) (l : List Nat) (h : Arr w t g l) (n : Nat) (e : TypeId) (hu : P.underlying t = some (.array n e)) (hi : (P.info? t).map (·.size) = some l.length) :
    (loadVar t ⟨g, 0, none⟩).run P w = .ok (.agg (vals l)) w :=
  run_loadVar_row w g t t (vals l) (0, 0) _ h hu rfl (by rw [vals_size]; exact hi)
/-- An array that is handed back out of a cell. -/
theorem bodyPost_arr {fn : Func} {p : Tmp} {ty : TypeId} {R : Ending → World → Prop} (hf : fn.results = #[.cell p ty]) (g : Nat) (l : List Nat) (hp : a.tmps.getD p undef = .pointer (some ⟨g, 0, none⟩)) (hd : a.defers = []) (h : Arr w ty g l)
    (n : Nat) (e : TypeId) (hu : P.underlying ty = some (.array n e)) (hi : (P.info? ty).map (·.size) = some l.length) (hR : R (.returned (.agg (vals l))) w) : bodyPost P fn R .ret a w := by
  refine bodyPost_ret (v := .agg (vals l)) ?_ hd hR
  rw [results_cell hf, hp]
  simp [asAddr, Result.andThen, run_loadArr ty g l h n e hu hi]
/-- A whole array is read. -/
theorem wpList_loadArr (hgd : o.guard = none) (t : TypeId) (x : Operand) (ho : o.op = .load t x) (g : Nat) (l : List Nat) (hx : a.eval x = .pointer (some ⟨g, 0, none⟩)) (h : Arr w t g l)
    (n : Nat) (e : TypeId) (hu : P.underlying t = some (.array n e)) (hi : (P.info? t).map (·.size) = some l.length) (hk : wpList P ops Q rest (a.put o.dst (.agg (vals l))) w) : wpList P ops Q (o :: rest) a w :=
  wpList_plain hgd fun _ hK => by
    unfold Oper.wp execOp
    simp only [ho, hx, Instr.loadAt, Instr.sureAddr, Sem.run_bind, Sem.run_pure, Result.andThen_ok, run_loadArr t g l h n e hu hi]
    exact hK _ _ hk
/-- A whole array is written. -/
theorem wpList_storeArr (hgd : o.guard = none) (t : TypeId) (x y : Operand) (ho : o.op = .store t x y) (g : Nat) (l l' : List Nat) (hx : a.eval x = .pointer (some ⟨g, 0, none⟩)) (hy : a.eval y = .agg (vals l')) (h : Arr w t g l) (hl : l.length = l'.length)
    (hi : (P.info? t).map (·.size) = some l.length) (hk : wpList P ops Q rest (a.put o.dst undef) (w.setRow g (vals l'))) : wpList P ops Q (o :: rest) a w :=
  wpList_plain hgd fun _ hK => by
    unfold Oper.wp execOp
    have := run_storeVar_row (P := P) w g t t (vals l) (vals l') h (by rw [vals_size, ← hl]; exact hi) (by rw [vals_size, vals_size, hl]) (vals_one l')
    simp only [ho, hx, hy, Instr.storeAt, Instr.sureAddr, Sem.run_bind, Sem.run_pure, Result.andThen_ok, this]
    exact hK _ _ hk
end
end Go.Proofs.YtglgppeloolbhaaGreatDoor

/- More of them, behind Arr. -/
namespace Go.Proofs.YtglgppeloolbhaaGreatDoor
open Go.RowKit
set_option maxRecDepth 100000
set_option linter.unusedSimpArgs false

theorem IntsAt.other {w : World} {K : IntKind} {g n : Nat} {l : List Int} (h : IntsAt w K (some ⟨g, 0, none⟩) n l) (p : Addr) (hp : p.block ≠ g) (u : Value) : IntsAt (w.setCell p u) K (some ⟨g, 0, none⟩) n l := by
  refine ⟨h.1, ?_⟩
  rcases h.2 with h0 | ⟨b, off, ha, hc⟩
  · exact .inl h0
  · cases ha
    refine .inr ⟨g, 0, rfl, fun i hi => ?_⟩
    rw [World.cell?_setCell_far _ _ _ _ hp]
    exact hc i hi
theorem Arr.new' (w : World) (t : TypeId) (l : List Nat) (c : Array Value) (g : Nat) (hg : w.heap.size = g) (hc : c = vals l) : Arr (w.alloc (.cells c t)) t g l := by
  subst hg; exact Arr.new w t l c hc
section
variable {P : Program} {ops : Array Oper} {rest : List Oper} {o : Oper} {a : Act} {w : World} {Q : Exit → Act → World → Prop}
end
theorem bt_eq (s : ByteArray) (j : Nat) : bt s j = ((s.data[j]?).getD 0).toNat := by
  unfold bt
  rw [List.getD_eq_getElem?_getD]
  simp
theorem bt_extract (s : ByteArray) (a b j : Nat) (h : a + j < b) (hb : b ≤ s.size) : bt (s.extract a b) j = bt s (a + j) := by
  have hb' : b ≤ s.data.size := hb
  rw [bt_eq, bt_eq, ByteArray.data_extract, Array.getElem?_extract]
  rw [if_pos (by omega)]
theorem bt_append_left (s t : ByteArray) (j : Nat) (h : j < s.size) : bt (s ++ t) j = bt s j := by
  have h' : j < s.data.size := h
  rw [bt_eq, bt_eq, ByteArray.data_append, Array.getElem?_append_left h']
theorem bt_append_right (s t : ByteArray) (j : Nat) : bt (s ++ t) (s.size + j) = bt t j := by
  rw [bt_eq, bt_eq, ByteArray.data_append, Array.getElem?_append_right (by show s.data.size ≤ s.data.size + j; omega)]
  rw [show s.size + j - s.data.size = j by show s.data.size + j - s.data.size = j; omega]
section
variable {P : Program} {ops : Array Oper} {o : Oper} {a : Act} {w : World} {K' : Act → World → Prop} {Q : Exit → Act → World → Prop} {E : Prop}
/-- A whole array read, and written, at a step of a region that draws its order. -/
theorem step_loadArr {d : Tmp} (hgd : o.guard = none) (hd : o.dst = some d) (t : TypeId) (x : Operand) (ho : o.op = .load t x) (g : Nat) (l : List Nat) (hx : a.eval x = .pointer (some ⟨g, 0, none⟩)) (h : Arr w t g l)
    (n : Nat) (e : TypeId) (hu : P.underlying t = some (.array n e)) (hi : (P.info? t).map (·.size) = some l.length) (hk : K' (a.put (some d) (.agg (vals l))) w) :
    if Region.wanted o (yielded ops a.tmps) = true then Oper.wp P o a w K' Q else E := by
  rw [if_pos (by simp [Region.wanted, hgd])]
  unfold Oper.wp execOp
  simp only [ho, hx, Instr.loadAt, Instr.sureAddr, Sem.run_bind, Sem.run_pure, Result.andThen_ok, run_loadArr t g l h n e hu hi]
  show K' (a.put o.dst _) w
  rw [hd]; exact hk
theorem step_storeArr (hgd : o.guard = none) (hd : o.dst = none) (t : TypeId) (x y : Operand) (ho : o.op = .store t x y) (g : Nat) (l l' : List Nat) (hx : a.eval x = .pointer (some ⟨g, 0, none⟩)) (hy : a.eval y = .agg (vals l')) (h : Arr w t g l) (hl : l.length = l'.length)
    (hi : (P.info? t).map (·.size) = some l.length) (hk : K' (a.put none undef) (w.setRow g (vals l'))) :
    if Region.wanted o (yielded ops a.tmps) = true then Oper.wp P o a w K' Q else E := by
  rw [if_pos (by simp [Region.wanted, hgd])]
  unfold Oper.wp execOp
  have := run_storeVar_row (P := P) w g t t (vals l) (vals l') h (by rw [vals_size, ← hl]; exact hi) (by rw [vals_size, vals_size, hl]) (vals_one l')
  simp only [ho, hx, hy, Instr.storeAt, Instr.sureAddr, Sem.run_bind, Sem.run_pure, Result.andThen_ok, this]
  show K' (a.put o.dst _) _
  rw [hd]; exact hk
end
theorem Arr.cast {w : World} {t : TypeId} {g : Nat} {l l' : List Nat} (e : l = l') (h : Arr w t g l) : Arr w t g l' := e ▸ h
/-- Numbers that were just laid. -/
theorem ints_alloc (w : World) (l : List Int) (e : TypeId) (n : Nat) (c : Array Value) (hn : l.length = n) (hc : c = (l.map (Value.int .i64)).toArray) :
    IntsAt (w.alloc (.cells c e)) .i64 (some ⟨w.heap.size, 0, none⟩) n l := by
  refine ⟨hn, .inr ⟨w.heap.size, 0, rfl, fun i hi => ?_⟩⟩
  subst hc
  rw [cell_of_row _ _ _ _ e (0, 0) (heap_alloc_last w _), Nat.zero_add]
  simp [List.getD_eq_getElem?_getD, List.getElem?_eq_getElem (show i < l.length by omega)]
theorem IntsAt.cellOff {w : World} {g o n : Nat} {l : List Int} (h : IntsAt w .i64 (some ⟨g, o, none⟩) n l) (j : Nat) (hj : j < n) : w.cell? ⟨g, o + j, none⟩ = some (.int .i64 (l.getD j 0)) := by
  rcases h.2 with h0 | ⟨b, off, he, hc⟩
  · omega
  · cases he
    exact hc j hj
theorem OwnV.atV {w : World} {B n : Nat} {e : TypeId} {K : IntKind} {v : Value} {l : List Int} (h : OwnV w B e K v n l) (hn : 0 < n) : ∃ g c, v = .slice (some ⟨g, 0, none⟩) n c := by
  obtain ⟨g, c, h, _⟩ := h.at hn
  exact ⟨g, c, h⟩
theorem OwnV.cell' {w : World} {B g n c : Nat} {e : TypeId} {K : IntKind} {l : List Int} (h : OwnV w B e K (.slice (some ⟨g, 0, none⟩) n c) n l) (j : Nat) (hj : j < n) : w.cell? ⟨g, j, none⟩ = some (.int K (l.getD j 0)) := by
  have hl := h.len
  rw [World.ownsRow.cellAt h j (by omega)]
  simp [List.getD, List.getElem?_eq_getElem (show j < l.length by omega)]
theorem OwnV.free' {w : World} {B g n c : Nat} {e : TypeId} {K : IntKind} {l : List Int} (h : OwnV w B e K (.slice (some ⟨g, 0, none⟩) n c) n l) (j : Nat) : w.frozen? ⟨g, j, none⟩ = false := World.ownsRow.frozenAt h j
theorem OwnV.set' {w : World} {B g n c : Nat} {e : TypeId} {K : IntKind} {l : List Int} (h : OwnV w B e K (.slice (some ⟨g, 0, none⟩) n c) n l) (j : Nat) (x : Int) : OwnV (w.setCell ⟨g, j, none⟩ (.int K x)) B e K (.slice (some ⟨g, 0, none⟩) n c) n (l.set j x) := by
  have := (World.ownsRow.stored h j (.int K x)).1
  unfold OwnV; rw [List.map_set]; exact this
theorem OwnV.base' {w : World} {B g n c : Nat} {e : TypeId} {K : IntKind} {l : List Int} (h : OwnV w B e K (.slice (some ⟨g, 0, none⟩) n c) n l) : B ≤ g ∧ g < w.heap.size := World.ownsRow.lt h g rfl
theorem ints_set (x : List Nat) (j v : Nat) : (ints x).set j (v : Int) = ints (x.set j v) := by simp [ints, List.map_set]
end Go.Proofs.YtglgppeloolbhaaGreatDoor

/- Rows of bytes at the head of a block, whoever made it: plain facts. -/
namespace Go.Proofs.YtglgppeloolbhaaGreatDoor
open Go.RowKit
set_option maxRecDepth 100000
set_option linter.unusedSimpArgs false

/-- A row of bytes at the head of block g. -/
def Row8 (w : World) (g n : Nat) (f : Nat → Nat) : Prop := ∃ cs t fr, w.heap[g]? = some (.cells cs t fr) ∧ (n ≤ fr.1 ∨ fr.2 = 0) ∧ ∀ j, j < n → cs[j]? = some (.int .u8 ((f j : Nat) : Int))
theorem Row8.cell {w : World} {g n : Nat} {f : Nat → Nat} (h : Row8 w g n f) (j : Nat) (hj : j < n) : w.cell? ⟨g, j, none⟩ = some (.int .u8 ((f j : Nat) : Int)) := by
  obtain ⟨cs, t, fr, hg, _, hc⟩ := h
  rw [cell_of_row _ _ _ _ t fr hg]; exact hc j hj
theorem Row8.free {w : World} {g n : Nat} {f : Nat → Nat} (h : Row8 w g n f) (j : Nat) (hj : j < n) : w.frozen? ⟨g, j, none⟩ = false := by
  obtain ⟨cs, t, ⟨lo, hi⟩, hg, hn, _⟩ := h
  have hn' : n ≤ lo ∨ hi = 0 := hn
  unfold World.frozen?
  simp only [hg]
  rw [Bool.and_eq_false_iff]
  rcases hn' with h1 | h1
  · left; simp; omega
  · right; simp; omega
theorem Row8.lt {w : World} {g n : Nat} {f : Nat → Nat} (h : Row8 w g n f) : g < w.heap.size := by
  obtain ⟨cs, t, fr, hg, _⟩ := h
  exact (Array.getElem?_eq_some_iff.1 hg).1
theorem Row8.below {w w' : World} {B g n : Nat} {f : Nat → Nat} (h : Row8 w g n f) (hb : Below B w w') (hg : g < B) : Row8 w' g n f := by
  obtain ⟨cs, t, fr, h1, h2⟩ := h
  exact ⟨cs, t, fr, by rw [hb.block g hg]; exact h1, h2⟩
theorem Row8.set {w : World} {g n : Nat} {f : Nat → Nat} (h : Row8 w g n f) (j x : Nat) : Row8 (w.setCell ⟨g, j, none⟩ (.int .u8 (x : Int))) g n (fun i => if i = j then x else f i) := by
  obtain ⟨cs, t, fr, hg, hn, hc⟩ := h
  refine ⟨cs.setIfInBounds j (.int .u8 (x : Int)), t, fr, by rw [setCell_eq_setRow w g j cs t fr _ hg]; exact setRow_heap w g cs _ t _ hg, hn, fun i hi => ?_⟩
  rw [Array.getElem?_setIfInBounds]
  have hsz : i < cs.size := (Array.getElem?_eq_some_iff.1 (hc i hi)).1
  by_cases e : i = j
  · subst e
    rw [if_pos rfl, if_pos hsz]
    show _ = some (Value.int .u8 ((if i = i then x else f i : Nat) : Int))
    rw [if_pos rfl]
  · rw [if_neg (fun h => e h.symm)]
    show _ = some (Value.int .u8 ((if i = j then x else f i : Nat) : Int))
    rw [if_neg e]; exact hc i hi
theorem Row8.conv {P : Program} {w : World} {g n : Nat} {f : Nat → Nat} {e : TypeId} (h : Row8 w g n f) (hf : ∀ i, f i < 256) (k c : Nat) (hk : k ≤ n) (src dst : TypeId)
    (hs : P.underlying src = some (.slice e)) (he : P.underlying e = some (.int .u8)) (hd : P.underlying dst = some .string) :
    (convert src dst (.slice (some ⟨g, 0, none⟩) k c)).run P w = .ok (.string ⟨(bytesOf k f).toArray⟩) w := by
  rw [← str_nums, nums_bytesOf k f (fun i _ => hf i)]
  exact run_convert_bytes_arg w src e hs he g 0 k c (tab k fun i => (f i : Int)) (tab_length _ _) (fun i hi => by rw [Nat.zero_add, tab_getD _ _ _ hi, h.cell i (by omega)]) dst hd

theorem bytes_new {P : Program} (w : World) (src dst e : TypeId) (s : ByteArray) (hs : P.underlying src = some .string) (hd : P.underlying dst = some (.slice e)) (he : P.underlying e = some (.int .u8)) :
    ∃ c w', (convert src dst (.string s)).run P w = .ok (.slice (some ⟨w.heap.size, 0, none⟩) s.size c) w' ∧ s.size ≤ c ∧ Row8 w' w.heap.size s.size (bt s) ∧ Below w.heap.size w w' := by
  refine ⟨_, _, run_bytes_of_string w src dst e s hs hd he, grownCap_ge _ _ _ _, ?_, ?_⟩
  · refine ⟨_, e, _, heap_alloc_last w.drew _, Or.inl ?_, fun j hj => ?_⟩
    · show s.size ≤ (bytesRow s _).size
      unfold bytesRow
      rw [Array.size_append, Array.size_map]
      exact Nat.le_add_right _ _
    · rw [bytesRow_at s _ j hj, ← bt_get s j hj]; rfl
  · exact (Below.refl _ _).drew.alloc (Nat.le_refl _) _

theorem bytesOf_bt (s : ByteArray) (n : Nat) (h : s.size = n) : (⟨(bytesOf n (bt s)).toArray⟩ : ByteArray) = s := by
  apply bytes_ext
  show (bytesOf n (bt s)).toArray.toList = _
  have hl : s.data.toList.length = n := by rw [Array.length_toList]; exact h
  rw [List.toList_toArray]
  apply List.ext_getElem
  · rw [bytesOf_length, hl]
  · intro i h1 h2
    have h3 : i < s.data.size := by rw [Array.length_toList] at h2; exact h2
    simp [bytesOf, bt, List.getD_eq_getElem?_getD, Array.getElem?_eq_getElem h3]
theorem bt_bytesOf (n : Nat) (f : Nat → Nat) (i : Nat) (hi : i < n) (hf : f i < 256) : bt ⟨(bytesOf n f).toArray⟩ i = f i := by
  rw [bt_mk, List.getD_eq_getElem?_getD]
  simp [bytesOf, hi, Nat.mod_eq_of_lt hf]
theorem Row8.other {w : World} {g n : Nat} {f : Nat → Nat} (h : Row8 w g n f) (p : Addr) (hp : g ≠ p.block) (u : Value) : Row8 (w.setCell p u) g n f := by
  obtain ⟨cs, t, fr, h1, h2⟩ := h
  exact ⟨cs, t, fr, by rw [heap_setCell_other w p g u hp]; exact h1, h2⟩
theorem Row8.alloc {w : World} {g n : Nat} {f : Nat → Nat} (h : Row8 w g n f) (o : Obj) : Row8 (w.alloc o) g n f := by
  have hl := h.lt
  obtain ⟨cs, t, fr, h1, h2⟩ := h
  exact ⟨cs, t, fr, by rw [Below.heap_alloc w o g hl]; exact h1, h2⟩
theorem Row8.cast {w : World} {g n : Nat} {f f' : Nat → Nat} (e : f = f') (h : Row8 w g n f) : Row8 w g n f' := e ▸ h
theorem Row8.made (w : World) (e : TypeId) (n : Nat) : Row8 (w.alloc (.cells (madeCells #[Value.int .u8 0] n) e)) w.heap.size n (fun _ => 0) := by
  refine ⟨_, e, _, heap_alloc_last w _, Or.inr rfl, fun j hj => ?_⟩
  have h := toList_madeCells_one (Value.int .u8 0) n
  rw [← Array.getElem?_toList, h, List.getElem?_replicate, if_pos hj]; rfl
theorem cutN_nil (f : Nat → Nat) : (fun _ => 0) = cutN f 0 := by funext i; unfold cutN; rw [if_neg (by omega)]
theorem cutN_put (f : Nat → Nat) (k : Nat) : (fun i => if i = k then f k else cutN f k i) = cutN f (k + 1) := by
  funext i
  unfold cutN
  by_cases h : i = k
  · rw [if_pos h, if_pos (by omega), h]
  · rw [if_neg h]
    by_cases h2 : i < k
    · rw [if_pos h2, if_pos (by omega)]
    · rw [if_neg h2, if_neg (by omega)]
theorem bytesOf_congr (n : Nat) (f g : Nat → Nat) (h : ∀ i, i < n → f i = g i) : bytesOf n f = bytesOf n g := by
  unfold bytesOf
  exact List.map_congr_left (fun i hi => by simp only [h i (List.mem_range.1 hi)])
theorem bytesOf_cut (n : Nat) (f : Nat → Nat) : bytesOf n (cutN f n) = bytesOf n f := bytesOf_congr _ _ _ (fun i hi => by unfold cutN; rw [if_pos hi])
end Go.Proofs.YtglgppeloolbhaaGreatDoor

/- Noughts; texts put behind a row within its room. -/
namespace Go.Proofs.YtglgppeloolbhaaGreatDoor
open Go.RowKit
set_option maxRecDepth 100000
set_option linter.unusedSimpArgs false

def zeroB (n : Nat) : ByteArray := ⟨(List.replicate n 0).toArray⟩
theorem zeroB_size (n : Nat) : (zeroB n).size = n := by show (List.replicate n 0).toArray.size = n; simp
theorem bt_zeroB (n j : Nat) : bt (zeroB n) j = 0 := by
  unfold zeroB
  rw [bt_mk, List.getD_eq_getElem?_getD, List.getElem?_replicate]
  by_cases h : j < n
  · rw [if_pos h]; rfl
  · rw [if_neg h]; rfl
theorem bt_ext (a b : ByteArray) (h : a.size = b.size) (hb : ∀ i, i < a.size → bt a i = bt b i) : a = b := by
  rw [← bytesOf_bt a a.size rfl, ← bytesOf_bt b a.size h.symm, bytesOf_congr a.size (bt a) (bt b) hb]
def oneByte (i : Nat) : ByteArray := ⟨#[UInt8.ofNat i]⟩
theorem bytesOf_extract (s : ByteArray) (n : Nat) (h : n ≤ s.size) : (⟨(bytesOf n (bt s)).toArray⟩ : ByteArray) = s.extract 0 n := by
  have hs : (s.extract 0 n).size = n := by rw [ByteArray.size_extract]; omega
  rw [← bytesOf_bt (s.extract 0 n) n hs]
  rw [bytesOf_congr n (bt s) (bt (s.extract 0 n)) (fun i hi => by rw [bt_extract _ 0 n i (by omega) h, Nat.zero_add])]
theorem strCells_append (s t : ByteArray) : Lib.strCells (s ++ t) = Lib.strCells s ++ Lib.strCells t := by
  unfold Lib.strCells; simp [ByteArray.data_append]
theorem strCells_bt (s : ByteArray) (j : Nat) (h : j < s.size) : (Lib.strCells s)[j]? = some (.int .u8 ((bt s j : Nat) : Int)) := by
  have h' : j < s.data.size := h
  unfold Lib.strCells
  rw [List.getElem?_map, Array.getElem?_toList, Array.getElem?_eq_getElem h', ← bt_get s j h]
  rfl
theorem row_of_owns {w : World} {B g n c : Nat} {e : TypeId} {s : ByteArray} (h : w.ownsRow B e 1 (.slice (some ⟨g, 0, none⟩) n c) n (Lib.strCells s)) : Row8 w g s.size (bt s) := by
  obtain ⟨hl, h | ⟨g', cap, cur, hv, hb, hg, hn, hm, hs, ht⟩⟩ := h
  · cases h.1
  · cases hv
    refine ⟨cur, e, (0, 0), hg, Or.inr rfl, fun j hj => ?_⟩
    rw [Lib.strCells_length] at hl
    rw [← strCells_bt s j hj, ← ht, List.getElem?_take, if_pos (by omega), Array.getElem?_toList]
theorem owns_lt {w : World} {B g n c : Nat} {e : TypeId} {xs : List Value} (h : w.ownsRow B e 1 (.slice (some ⟨g, 0, none⟩) n c) n xs) : g < w.heap.size := by
  obtain ⟨hl, h | ⟨g', cap, cur, hv, hb, hg, r⟩⟩ := h
  · cases h.1
  · cases hv
    exact (Array.getElem?_eq_some_iff.1 hg).1
theorem owns_below {w w' : World} {B B' g n c : Nat} {e : TypeId} {xs : List Value} (h : w.ownsRow B e 1 (.slice (some ⟨g, 0, none⟩) n c) n xs) (hb : Below B' w w') (hg : g < B') : w'.ownsRow B e 1 (.slice (some ⟨g, 0, none⟩) n c) n xs := by
  obtain ⟨hl, h | ⟨g', cap, cur, hv, hB, hc, r⟩⟩ := h
  · cases h.1
  · cases hv
    exact ⟨hl, .inr ⟨g, c, cur, rfl, hB, by rw [hb.block g hg]; exact hc, r⟩⟩
/-- 'string(make([]byte, n))' -/
theorem zeros_conv {P : Program} {w : World} {B g n c : Nat} {e : TypeId} (h : w.ownsRow B e 1 (.slice (some ⟨g, 0, none⟩) n c) n (madeCells (Value.int .u8 0).cells (n * 1)).toList) (src dst : TypeId)
    (hs : P.underlying src = some (.slice e)) (he : P.underlying e = some (.int .u8)) (hd : P.underlying dst = some .string) :
    (convert src dst (.slice (some ⟨g, 0, none⟩) n c)).run P w = .ok (.string (zeroB n)) w := by
  have hc := toList_madeCells_one (Value.int .u8 0) (n * 1)
  have hr : Row8 w g n (fun _ => 0) := by
    obtain ⟨hl, h | ⟨g', cap, cur, hv, hb, hg, hn, hm, hs, ht⟩⟩ := h
    · cases h.1
    · cases hv
      refine ⟨cur, e, (0, 0), hg, Or.inr rfl, fun j hj => ?_⟩
      have h2 : cur.toList.take (n * 1) = List.replicate (n * 1) (Value.int .u8 0) := ht.trans hc
      have h1 : (cur.toList.take (n * 1))[j]? = some (Value.int .u8 0) := by rw [h2, List.getElem?_replicate, if_pos (by omega)]
      rw [List.getElem?_take, if_pos (by omega), Array.getElem?_toList] at h1
      exact h1
  have h3 := hr.conv (P := P) (fun _ => by decide) n c (Nat.le_refl _) src dst hs he hd
  rw [h3]
  congr 2
  apply bytes_ext
  show (bytesOf n fun _ => 0).toArray.toList = (List.replicate n 0).toArray.toList
  rw [List.toList_toArray, List.toList_toArray]
  unfold bytesOf
  rw [List.map_const', List.length_range]
  rfl
/-- 'string([]byte{x})' -/
theorem one_conv {P : Program} (w : World) (x : Nat) (hx : x < 256) (e src dst : TypeId) (hs : P.underlying src = some (.slice e)) (he : P.underlying e = some (.int .u8)) (hd : P.underlying dst = some .string) :
    (convert src dst (.slice (some ⟨w.heap.size, 0, none⟩) 1 1)).run P (w.alloc (.cells #[.int .u8 (x : Int)] e)) = .ok (.string (oneByte x)) (w.alloc (.cells #[.int .u8 (x : Int)] e)) := by
  have hr : Row8 (w.alloc (.cells #[.int .u8 (x : Int)] e)) w.heap.size 1 (fun _ => x) := by
    refine ⟨_, e, _, heap_alloc_last w _, Or.inr rfl, fun j hj => ?_⟩
    have : j = 0 := by omega
    subst this; rfl
  exact hr.conv (fun _ => hx) 1 1 (Nat.le_refl _) src dst hs he hd
end Go.Proofs.YtglgppeloolbhaaGreatDoor

/- A block of the call's own with all its cells: plain facts. -/
namespace Go.Proofs.YtglgppeloolbhaaGreatDoor
open Go.RowKit
set_option maxRecDepth 100000
set_option linter.unusedSimpArgs false

def Blk (w : World) (t : TypeId) (g : Nat) (cs : Array Value) : Prop := w.heap[g]? = some (.cells cs t (0, 0))
theorem Blk.lt {w : World} {t : TypeId} {g : Nat} {cs : Array Value} (h : Blk w t g cs) : g < w.heap.size := (Array.getElem?_eq_some_iff.1 h).1
theorem Blk.cell {w : World} {t : TypeId} {g : Nat} {cs : Array Value} (h : Blk w t g cs) (j : Nat) : w.cell? ⟨g, j, none⟩ = cs[j]? := cell_of_row _ _ _ _ t (0, 0) h
theorem Blk.free {w : World} {t : TypeId} {g : Nat} {cs : Array Value} (h : Blk w t g cs) (j : Nat) : w.frozen? ⟨g, j, none⟩ = false := by
  unfold Blk at h
  simp [World.frozen?, h]
theorem Blk.below {w w' : World} {t : TypeId} {B g : Nat} {cs : Array Value} (h : Blk w t g cs) (hb : Below B w w') (hg : g < B) : Blk w' t g cs := by
  unfold Blk; rw [hb.block g hg]; exact h
theorem Blk.on {w w' : World} {t : TypeId} {g : Nat} {cs : Array Value} (h : Blk w t g cs) (hb : Below w.heap.size w w') : Blk w' t g cs := h.below hb h.lt
theorem Blk.alloc {w : World} {t : TypeId} {g : Nat} {cs : Array Value} (h : Blk w t g cs) (o : Obj) : Blk (w.alloc o) t g cs := by
  unfold Blk; rw [Below.heap_alloc w o g h.lt]; exact h
theorem Blk.new (w : World) (t : TypeId) (cs : Array Value) : Blk (w.alloc (.cells cs t)) t w.heap.size cs := heap_alloc_last w _
theorem Blk.new' (w : World) (t : TypeId) (cs : Array Value) (g : Nat) (hg : w.heap.size = g) : Blk (w.alloc (.cells cs t)) t g cs := by
  subst hg; exact Blk.new w t cs
theorem Blk.other {w : World} {t : TypeId} {g : Nat} {cs : Array Value} (h : Blk w t g cs) (p : Addr) (hp : g ≠ p.block) (u : Value) : Blk (w.setCell p u) t g cs := by
  unfold Blk; rw [Below.heap_setCell w p u g hp]; exact h
theorem Blk.setRow {w : World} {t : TypeId} {g : Nat} {cs : Array Value} (h : Blk w t g cs) (cs' : Array Value) : Blk (w.setRow g cs') t g cs' := setRow_heap w g _ _ t (0, 0) h
theorem Blk.setRowOther {w : World} {t : TypeId} {g : Nat} {cs : Array Value} (h : Blk w t g cs) (g' : Nat) (hg : g ≠ g') (c : Array Value) : Blk (w.setRow g' c) t g cs := by
  unfold Blk; rw [setRow_other w g' g c hg]; exact h

section
variable {P : Program} {ops : Array Oper} {rest : List Oper} {o : Oper} {a : Act} {w : World} {Q : Exit → Act → World → Prop}
theorem run_loadBlk (t : TypeId) (g : Nat) (cs : Array Value) (h : Blk w t g cs) (n : Nat) (e : TypeId) (hu : P.underlying t = some (.array n e)) (hi : (P.info? t).map (·.size) = some cs.size) :
    (loadVar t ⟨g, 0, none⟩).run P w = .ok (.agg cs) w :=
  run_loadVar_row w g t t cs (0, 0) _ h hu rfl hi
/-- An array that is handed back out of a cell. -/
theorem bodyPost_blk {fn : Func} {p : Tmp} {ty : TypeId} {R : Ending → World → Prop} (hf : fn.results = #[.cell p ty]) (g : Nat) (cs : Array Value) (hp : a.tmps.getD p undef = .pointer (some ⟨g, 0, none⟩)) (hd : a.defers = []) (h : Blk w ty g cs)
    (n : Nat) (e : TypeId) (hu : P.underlying ty = some (.array n e)) (hi : (P.info? ty).map (·.size) = some cs.size) (hR : R (.returned (.agg cs)) w) : bodyPost P fn R .ret a w := by
  refine bodyPost_ret (v := .agg cs) ?_ hd hR
  rw [results_cell hf, hp]
  simp [asAddr, Result.andThen, run_loadBlk ty g cs h n e hu hi]
/-- A whole array is read. -/
theorem wpList_loadBlk (hgd : o.guard = none) (t : TypeId) (x : Operand) (ho : o.op = .load t x) (g : Nat) (cs : Array Value) (hx : a.eval x = .pointer (some ⟨g, 0, none⟩)) (h : Blk w t g cs)
    (n : Nat) (e : TypeId) (hu : P.underlying t = some (.array n e)) (hi : (P.info? t).map (·.size) = some cs.size) (hk : wpList P ops Q rest (a.put o.dst (.agg cs)) w) : wpList P ops Q (o :: rest) a w :=
  wpList_plain hgd fun _ hK => by
    unfold Oper.wp execOp
    simp only [ho, hx, Instr.loadAt, Instr.sureAddr, Sem.run_bind, Sem.run_pure, Result.andThen_ok, run_loadBlk t g cs h n e hu hi]
    exact hK _ _ hk
/-- A whole array is written. -/
theorem wpList_storeBlk (hgd : o.guard = none) (t : TypeId) (x y : Operand) (ho : o.op = .store t x y) (g : Nat) (cs cs' : Array Value) (hx : a.eval x = .pointer (some ⟨g, 0, none⟩)) (hy : a.eval y = .agg cs') (h : Blk w t g cs) (hl : cs.size = cs'.size)
    (hi : (P.info? t).map (·.size) = some cs.size) (h1 : cs'.all (·.oneCell') = true) (hk : wpList P ops Q rest (a.put o.dst undef) (w.setRow g cs')) : wpList P ops Q (o :: rest) a w :=
  wpList_plain hgd fun _ hK => by
    unfold Oper.wp execOp
    have := run_storeVar_row (P := P) w g t t cs cs' h (hl ▸ hi) hl h1
    simp only [ho, hx, hy, Instr.storeAt, Instr.sureAddr, Sem.run_bind, Sem.run_pure, Result.andThen_ok, this]
    exact hK _ _ hk
/-- The same, and the walk stands behind it. -/
theorem wpList_storeArrH (hgd : o.guard = none) (t : TypeId) (x y : Operand) (ho : o.op = .store t x y) (g : Nat) (l l' : List Nat) (hx : a.eval x = .pointer (some ⟨g, 0, none⟩)) (hy : a.eval y = .agg (vals l')) (h : Arr w t g l) (hl : l.length = l'.length)
    (hi : (P.info? t).map (·.size) = some l.length) (hk : Hid (wpList P ops Q rest (a.put o.dst undef) (w.setRow g (vals l')))) : wpList P ops Q (o :: rest) a w :=
  wpList_storeArr hgd t x y ho g l l' hx hy h hl hi hk.out
end
end Go.Proofs.YtglgppeloolbhaaGreatDoor

/- A region that draws its order, in two phases: what is known of the world till operation c has come up, and what is known all along. A load of a cell that an operation behind c writes may be taken first all the same, where c waits for it. -/
namespace Go.Proofs.YtglgppeloolbhaaGreatDoor
open Go.RowKit
set_option maxRecDepth 100000

section
variable {P : Program} {ops : Array Oper} {Q : Exit → Act → World → Prop} {md : Region.Mode} {c : Nat} {S T : World → Prop}

/-- Whatever order is picked; T all along, S too till c has come up. -/
def wpTill (P : Program) (md : Region.Mode) (ops : Array Oper) (Q : Exit → Act → World → Prop) (c : Nat) (S T : World → Prop) : Nat → Array Bool → Act → World → Prop
  | 0, l, a, w => Region.ready md ops l = [] ∧ Q .normal a w
  | n + 1, l, a, w => (Region.ready md ops l = [] → Q .normal a w) ∧
    ∀ i ∈ Region.ready md ops l, wpOp P ops Q i (fun a' w' => (T w' ∧ ((l.setIfInBounds i true).getD c true = false → S w')) ∧ wpTill P md ops Q c S T n (l.setIfInBounds i true) a' w') a w

theorem wpAny_of_till : ∀ (n : Nat) (l : Array Bool) (a : Act) (w : World), wpTill P md ops Q c S T n l a w → wpAny P md ops Q n l a w
  | 0, _, _, _, h => h
  | n + 1, _, _, _, h => ⟨h.1, fun i hi => wpOp_mono (fun a' w' h' => wpAny_of_till n _ a' w' h'.2) (h.2 i hi)⟩

/-- What is at hand while c has not come up (b), or whenever. -/
def held (b : Bool) (S T : World → Prop) (w : World) : Prop := T w ∧ (b = true → S w)

theorem till_first {i : Nat} {oi : Oper} {v : Value} (b : Bool) (hi : ops[i]? = some oi) (hsel : ∀ (j : Nat) (o : Oper) cs b, ops[j]? = some o → o.op ≠ .select cs b)
    (hQ : ∀ k a w, Q (.panic k) (a.put oi.dst v) w → Q (.panic k) a w) (hic : i ≠ c)
    (hw : b = true → ∀ oc, ops[c]? = some oc → ∃ e ∈ oc.after, Region.binds md e = true ∧ e.on = i) :
    ∀ (n : Nat) (l : Array Bool) (a : Act) (w : World),
      (∀ j oj, ops[j]? = some oj → j ≠ i → l.getD j true = false → (∀ e ∈ oj.after, Region.binds md e = true → e.on ≠ i) → oi.apart ops oj = true) →
      i ∈ Region.ready md ops l → (b = true → l.getD c true = false) → YieldsIf P ops (held b S T) oi v a → T w → (l.getD c true = false → S w) →
      wpTill P md ops Q c S T n (l.setIfInBounds i true) (a.put oi.dst v) w → wpTill P md ops Q c S T (n + 1) l a w := by
  intro n
  induction n with
  | zero =>
    intro l a w _ hr hb hy hT hS H
    refine ⟨fun h => (by rw [h] at hr; cases hr), fun j hj => ?_⟩
    by_cases hji : j = i
    · subst hji
      exact hy.wpOp hi ⟨hT, fun e => hS (hb e)⟩ ⟨⟨hT, fun e => hS (by rwa [getD_set_ne true hic] at e)⟩, H⟩
    · have h1 := ready_mono hj hji
      rw [H.1] at h1
      cases h1
  | succ n ih =>
    intro l a w hfree hr hb hy hT hS H
    refine ⟨fun h => (by rw [h] at hr; cases hr), fun j hj => ?_⟩
    by_cases hji : j = i
    · subst hji
      exact hy.wpOp hi ⟨hT, fun e => hS (hb e)⟩ ⟨⟨hT, fun e => hS (by rwa [getD_set_ne true hic] at e)⟩, H⟩
    · obtain ⟨hjun, oj, hoj, hall⟩ := mem_ready.1 hj
      have hun := (mem_ready.1 hr).1
      have hnot : ∀ e ∈ oj.after, Region.binds md e = true → e.on ≠ i := by
        intro e he hb' heq
        have h1 := hall e he hb'
        rw [heq] at h1
        by_cases hs : i < l.size
        · simp [hs] at hun h1
          rw [hun] at h1
          cases h1
        · simp [Array.getElem?_eq_none (Nat.le_of_not_lt hs)] at h1
      have h2 := wpOp_putIf hoj (hfree j oj hoj hji hjun hnot) (fun cs b => hsel i oi cs b hi) (fun cs b => hsel j oj cs b hoj) hQ hy (H.2 j (ready_mono hj hji))
      refine wpOp_mono (fun a' w' h3 => ?_) h2
      obtain ⟨hy', ⟨hT', hS'⟩, H'⟩ := h3
      have hS'' : (l.setIfInBounds j true).getD c true = false → S w' := fun e => hS' (by
        rw [Array.setIfInBounds_comm _ _ (Ne.symm hji), getD_set_ne true hic]; exact e)
      refine ⟨⟨hT', hS''⟩, ih (l.setIfInBounds j true) a' w' (fun k ok hk hki hun' hno => ?_) (ready_mono hr (Ne.symm hji)) (fun e => ?_) hy' hT' hS'' ?_⟩
      · refine hfree k ok hk hki ?_ hno
        by_cases hjk : j = k
        · subst hjk; exact hjun
        · rwa [getD_set_ne true hjk] at hun'
      · by_cases hjc : j = c
        · subst hjc
          obtain ⟨e', he', hb', ho'⟩ := hw e oj hoj
          exact absurd ho' (hnot e' he' hb')
        · rw [getD_set_ne true hjc]; exact hb e
      · rw [Array.setIfInBounds_comm _ _ hji]; exact H'

/-- c waits for i. -/
def waits (md : Region.Mode) (ops : Array Oper) (c i : Nat) : Bool := (ops[c]?).all fun o => o.after.any fun e => Region.binds md e && e.on == i
theorem waits_spec {i : Nat} (h : waits md ops c i = true) : ∀ oc, ops[c]? = some oc → ∃ e ∈ oc.after, Region.binds md e = true ∧ e.on = i := by
  intro oc hoc
  unfold waits at h
  rw [hoc] at h
  simp only [Option.all_some, Array.any_eq_true', Bool.and_eq_true, beq_iff_eq] at h
  obtain ⟨e, he, h1, h2⟩ := h
  exact ⟨e, he, h1, h2⟩

/-- Taken first: what yields wherever T holds. -/
theorem till_take {i : Nat} {oi : Oper} {v : Value} {d : Tmp} {n : Nat} {l : Array Bool} {a : Act} {w : World} (hi : ops[i]? = some oi) (hd : oi.dst = some d)
    (hs : Region.noSelect ops = true) (hf : Region.free md ops l i = true) (hr : (Region.ready md ops l).contains i = true) (hic : (i == c) = false)
    (hQ : ∀ k a w, Q (.panic k) (a.put (some d) v) w → Q (.panic k) a w) (hy : YieldsIf P ops T oi v a) (hT : T w) (hS : l.getD c true = false → S w)
    (h : wpTill P md ops Q c S T n (l.setIfInBounds i true) (a.put (some d) v) w) : wpTill P md ops Q c S T (n + 1) l a w :=
  till_first false hi (Region.noSelect_spec hs) (by rw [hd]; exact hQ) (by simpa using hic) (fun e => by cases e) n l a w (Region.free_spec hi hf) (by simpa using hr) (fun e => by cases e)
    (hy.imp (fun ⟨h1, h2⟩ => ⟨h1, fun w hw => h2 w hw.1⟩) id) hT hS (by rw [hd]; exact h)
/-- Taken first: what yields wherever S and T hold, where c waits for it. -/
theorem till_take' {i : Nat} {oi : Oper} {v : Value} {d : Tmp} {n : Nat} {l : Array Bool} {a : Act} {w : World} (hi : ops[i]? = some oi) (hd : oi.dst = some d)
    (hs : Region.noSelect ops = true) (hf : Region.free md ops l i = true) (hr : (Region.ready md ops l).contains i = true) (hic : (i == c) = false)
    (hc : waits md ops c i = true) (hl : l.getD c true = false)
    (hQ : ∀ k a w, Q (.panic k) (a.put (some d) v) w → Q (.panic k) a w) (hy : YieldsIf P ops (fun w => T w ∧ S w) oi v a) (hT : T w) (hS : S w)
    (h : wpTill P md ops Q c S T n (l.setIfInBounds i true) (a.put (some d) v) w) : wpTill P md ops Q c S T (n + 1) l a w :=
  till_first true hi (Region.noSelect_spec hs) (by rw [hd]; exact hQ) (by simpa using hic) (fun _ => waits_spec hc) n l a w (Region.free_spec hi hf) (by simpa using hr) (fun _ => hl)
    (hy.imp (fun ⟨h1, h2⟩ => ⟨h1, fun w hw => h2 w ⟨hw.1, hw.2 rfl⟩⟩) id) hT (fun _ => hS) (by rw [hd]; exact h)

/-- The one operation that may come up comes up. -/
theorem till_step {i : Nat} {o : Oper} {n : Nat} {l : Array Bool} {a : Act} {w : World} (hr : Region.ready md ops l = [i]) (ho : ops[i]? = some o)
    (h : ∀ K' : Act → World → Prop, Shut (∀ a w, T w → ((l.setIfInBounds i true).getD c true = false → S w) → wpTill P md ops Q c S T n (l.setIfInBounds i true) a w → K' a w) →
      if Region.wanted o (yielded ops a.tmps) = true then Oper.wp P o a w K' Q else K' (a.put o.dst undef) w) : wpTill P md ops Q c S T (n + 1) l a w := by
  refine ⟨fun h0 => (by rw [hr] at h0; cases h0), fun j hj => ?_⟩
  rw [hr] at hj
  obtain rfl : j = i := by simpa using hj
  exact wpOp_step ho (fun K' hK => h K' (fun a w hT hS hW => hK a w ⟨⟨hT, hS⟩, hW⟩))

theorem till_no {b : Bool} {p : Prop} (h : b = true) (h' : b = false) : p := by rw [h] at h'; cases h'
theorem till_done {l : Array Bool} {a : Act} {w : World} (hr : Region.ready md ops l = []) (h : Q .normal a w) : ∀ n, wpTill P md ops Q c S T n l a w
  | 0 => ⟨hr, h⟩
  | _ + 1 => ⟨fun _ => h, by rw [hr]; simp⟩

theorem till_begin {id : Nat} {a : Act} {w : World} (c : Nat) (S T : World → Prop) (hm : P.follows .mixedOrders = true)
    (h : wpTill P .any ops Q c S T ops.size (Array.replicate ops.size false) a w.drew) : (Code.region id ops true).wp P Q a w :=
  wp_region_any hm (wpAny_of_till _ _ _ _ h)
end
end Go.Proofs.YtglgppeloolbhaaGreatDoor

/- Structs by value: out of cells, read and written whole. Plain facts. -/
namespace Go.Proofs.YtglgppeloolbhaaGreatDoor
open Go.RowKit
set_option maxRecDepth 100000
set_option linter.unusedSimpArgs false

section
variable {P : Program} {ops : Array Oper} {rest : List Oper} {o : Oper} {a : Act} {w : World} {Q : Exit → Act → World → Prop}
end

end Go.Proofs.YtglgppeloolbhaaGreatDoor
