/- Arrays of words in a block of the call's own: plain facts. -/
import Derived.Test.YtfbgofbjbfidoaaDoorRVals
import Derived.Deep.WholeRow
import Derived.Lib.LaidTab
namespace Go.Proofs.YtfbgofbjbfidoaaDoor
open Go.RowKit

/-- The cells of an array of words; a block that holds one. -/
def vals (l : List Nat) : Array Value := ((ints l).map (Value.int .u32)).toArray
def Arr (w : World) (t : TypeId) (g : Nat) (l : List Nat) : Prop := w.heap[g]? = some (.cells (vals l) t (0, 0))
theorem vals_size (l : List Nat) : (vals l).size = l.length := by simp [vals, ints]
theorem vals_get (l : List Nat) (j : Nat) (hj : j < l.length) : (vals l)[j]? = some (.int .u32 ((l.getD j 0 : Nat) : Int)) := by
  simp [vals, ints, List.getD_eq_getElem?_getD, List.getElem?_eq_getElem hj]
theorem vals_one (l : List Nat) : (vals l).all (·.oneCell') = true := by
  refine Array.all_eq_true_iff_forall_mem.2 (fun v hv => ?_)
  simp only [vals, List.mem_toArray, List.mem_map] at hv
  obtain ⟨z, _, rfl⟩ := hv
  rfl
theorem Arr.cell {w : World} {t : TypeId} {g : Nat} {l : List Nat} (h : Arr w t g l) (j : Nat) (hj : j < l.length) : w.cell? ⟨g, j, none⟩ = some (.int .u32 ((l.getD j 0 : Nat) : Int)) := by
  rw [cell_of_row _ _ _ _ t (0, 0) h, vals_get l j hj]
theorem Arr.lt {w : World} {t : TypeId} {g : Nat} {l : List Nat} (h : Arr w t g l) : g < w.heap.size := (Array.getElem?_eq_some_iff.1 h).1
theorem Arr.free {w : World} {t : TypeId} {g : Nat} {l : List Nat} (h : Arr w t g l) (j : Nat) : w.frozen? ⟨g, j, none⟩ = false := by
  unfold Arr at h
  simp [World.frozen?, h]
theorem Arr.below {w w' : World} {t : TypeId} {B g : Nat} {l : List Nat} (h : Arr w t g l) (hb : Below B w w') (hg : g < B) : Arr w' t g l := by
  unfold Arr; rw [hb.block g hg]; exact h
theorem Arr.alloc {w : World} {t : TypeId} {g : Nat} {l : List Nat} (h : Arr w t g l) (o : Obj) : Arr (w.alloc o) t g l := by
  unfold Arr; rw [Below.heap_alloc w o g h.lt]; exact h
theorem Arr.new (w : World) (t : TypeId) (l : List Nat) (c : Array Value) (hc : c = vals l) : Arr (w.alloc (.cells c t)) t w.heap.size l := by
  subst hc; exact heap_alloc_last w _
theorem Arr.other {w : World} {t : TypeId} {g : Nat} {l : List Nat} (h : Arr w t g l) (p : Addr) (hp : g ≠ p.block) (u : Value) : Arr (w.setCell p u) t g l := by
  unfold Arr; rw [Below.heap_setCell w p u g hp]; exact h
theorem Arr.set {w : World} {t : TypeId} {g : Nat} {l : List Nat} (h : Arr w t g l) (j : Nat) (x : Nat) : Arr (w.setCell ⟨g, j, none⟩ (.int .u32 (x : Int))) t g (l.set j x) := by
  have e : vals (l.set j x) = (vals l).setIfInBounds j (.int .u32 (x : Int)) := by simp [vals, ints, List.map_set]
  unfold Arr
  rw [e]
  exact heap_setCell_same w g j _ t _ h
theorem Arr.setRow {w : World} {t : TypeId} {g : Nat} {l : List Nat} (h : Arr w t g l) (l' : List Nat) : Arr (w.setRow g (vals l')) t g l' := setRow_heap w g _ _ t (0, 0) h
theorem Arr.setRowOther {w : World} {t : TypeId} {g : Nat} {l : List Nat} (h : Arr w t g l) (g' : Nat) (hg : g ≠ g') (c : Array Value) : Arr (w.setRow g' c) t g l := by
  unfold Arr; rw [setRow_other w g' g c hg]; exact h

section
variable {P : Program} {ops : Array Oper} {rest : List Oper} {o : Oper} {a : Act} {w : World} {Q : Exit → Act → World → Prop}
theorem results_cell {fn : Func} {p : Tmp} {ty : TypeId} (h : fn.results = #[.cell p ty]) (tmps : Array Value) (P : Program) (w : World) :
    (results fn tmps).run P w = ((asAddr (tmps.getD p undef)).run P w).andThen fun a w₁ => (loadVar ty a).run P w₁ := by
  simp only [results, h]
  simp [Sem.run_bind, Result.andThen]
theorem run_loadArr (t : TypeId) (g : Nat) (l : List Nat) (h : Arr w t g l) (n : Nat) (e : TypeId) (hu : P.underlying t = some (.array n e)) (hi : (P.info? t).map (·.size) = some l.length) :
    (loadVar t ⟨g, 0, none⟩).run P w = .ok (.agg (vals l)) w :=
  run_loadVar_row w g t t (vals l) (0, 0) _ h hu rfl (by rw [vals_size]; exact hi)
/-- An array that is handed back out of a cell. -/
theorem bodyPost_arr {fn : Func} {p : Tmp} {ty : TypeId} {R : Ending → World → Prop} (hf : fn.results = #[.cell p ty]) (g : Nat) (l : List Nat) (hp : a.tmps.getD p undef = .pointer (some ⟨g, 0, none⟩)) (hd : a.defers = []) (h : Arr w ty g l)
    (n : Nat) (e : TypeId) (hu : P.underlying ty = some (.array n e)) (hi : (P.info? ty).map (·.size) = some l.length) (hR : R (.returned (.agg (vals l))) w) : bodyPost P fn R .ret a w := by
  refine bodyPost_ret (v := .agg (vals l)) ?_ hd hR
  rw [results_cell hf, hp]
  simp [asAddr, Result.andThen, run_loadArr ty g l h n e hu hi]
/-- A whole array is read. -/
theorem wpList_loadArr (hgd : o.guard = none) (t : TypeId) (x : Operand) (ho : o.op = .load t x) (g : Nat) (l : List Nat) (hx : a.eval x = .pointer (some ⟨g, 0, none⟩)) (h : Arr w t g l)
    (n : Nat) (e : TypeId) (hu : P.underlying t = some (.array n e)) (hi : (P.info? t).map (·.size) = some l.length) (hk : wpList P ops Q rest (a.put o.dst (.agg (vals l))) w) : wpList P ops Q (o :: rest) a w :=
  wpList_plain hgd fun _ hK => by
    unfold Oper.wp execOp
    simp only [ho, hx, Instr.loadAt, Instr.sureAddr, Sem.run_bind, Sem.run_pure, Result.andThen_ok, run_loadArr t g l h n e hu hi]
    exact hK _ _ hk
/-- A whole array is written. -/
theorem wpList_storeArr (hgd : o.guard = none) (t : TypeId) (x y : Operand) (ho : o.op = .store t x y) (g : Nat) (l l' : List Nat) (hx : a.eval x = .pointer (some ⟨g, 0, none⟩)) (hy : a.eval y = .agg (vals l')) (h : Arr w t g l) (hl : l.length = l'.length)
    (hi : (P.info? t).map (·.size) = some l.length) (hk : wpList P ops Q rest (a.put o.dst undef) (w.setRow g (vals l'))) : wpList P ops Q (o :: rest) a w :=
  wpList_plain hgd fun _ hK => by
    unfold Oper.wp execOp
    have := run_storeVar_row (P := P) w g t t (vals l) (vals l') h (by rw [vals_size, ← hl]; exact hi) (by rw [vals_size, vals_size, hl]) (vals_one l')
    simp only [ho, hx, hy, Instr.storeAt, Instr.sureAddr, Sem.run_bind, Sem.run_pure, Result.andThen_ok, this]
    exact hK _ _ hk
end
end Go.Proofs.YtfbgofbjbfidoaaDoor
