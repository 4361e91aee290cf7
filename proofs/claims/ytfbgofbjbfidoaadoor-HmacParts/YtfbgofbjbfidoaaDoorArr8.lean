/- Arrays of bytes in a block of the call's own: plain facts. -/
import Derived.Test.YtfbgofbjbfidoaaDoorRSum
namespace Go.Proofs.YtfbgofbjbfidoaaDoor
open Go.RowKit

/-- The cells of an array of bytes; a block that holds one. -/
def bvals (l : List Nat) : Array Value := ((ints l).map (Value.int .u8)).toArray
def Brr (w : World) (t : TypeId) (g : Nat) (l : List Nat) : Prop := w.heap[g]? = some (.cells (bvals l) t (0, 0))
theorem bvals_size (l : List Nat) : (bvals l).size = l.length := by simp [bvals, ints]
theorem bvals_get (l : List Nat) (j : Nat) (hj : j < l.length) : (bvals l)[j]? = some (.int .u8 ((l.getD j 0 : Nat) : Int)) := by
  simp [bvals, ints, List.getD_eq_getElem?_getD, List.getElem?_eq_getElem hj]
theorem bvals_one (l : List Nat) : (bvals l).all (·.oneCell') = true := by
  refine Array.all_eq_true_iff_forall_mem.2 (fun v hv => ?_)
  simp only [bvals, List.mem_toArray, List.mem_map] at hv
  obtain ⟨z, _, rfl⟩ := hv
  rfl
theorem Brr.cell {w : World} {t : TypeId} {g : Nat} {l : List Nat} (h : Brr w t g l) (j : Nat) (hj : j < l.length) : w.cell? ⟨g, j, none⟩ = some (.int .u8 ((l.getD j 0 : Nat) : Int)) := by
  rw [cell_of_row _ _ _ _ t (0, 0) h, bvals_get l j hj]
theorem Brr.lt {w : World} {t : TypeId} {g : Nat} {l : List Nat} (h : Brr w t g l) : g < w.heap.size := (Array.getElem?_eq_some_iff.1 h).1
theorem Brr.free {w : World} {t : TypeId} {g : Nat} {l : List Nat} (h : Brr w t g l) (j : Nat) : w.frozen? ⟨g, j, none⟩ = false := by
  unfold Brr at h
  simp [World.frozen?, h]
theorem Brr.below {w w' : World} {t : TypeId} {B g : Nat} {l : List Nat} (h : Brr w t g l) (hb : Below B w w') (hg : g < B) : Brr w' t g l := by
  unfold Brr; rw [hb.block g hg]; exact h
theorem Brr.alloc {w : World} {t : TypeId} {g : Nat} {l : List Nat} (h : Brr w t g l) (o : Obj) : Brr (w.alloc o) t g l := by
  unfold Brr; rw [Below.heap_alloc w o g h.lt]; exact h
theorem Brr.new (w : World) (t : TypeId) (l : List Nat) (c : Array Value) (hc : c = bvals l) : Brr (w.alloc (.cells c t)) t w.heap.size l := by
  subst hc; exact heap_alloc_last w _
theorem Brr.other {w : World} {t : TypeId} {g : Nat} {l : List Nat} (h : Brr w t g l) (p : Addr) (hp : g ≠ p.block) (u : Value) : Brr (w.setCell p u) t g l := by
  unfold Brr; rw [Below.heap_setCell w p u g hp]; exact h
theorem Brr.set {w : World} {t : TypeId} {g : Nat} {l : List Nat} (h : Brr w t g l) (j : Nat) (x : Nat) : Brr (w.setCell ⟨g, j, none⟩ (.int .u8 (x : Int))) t g (l.set j x) := by
  have e : bvals (l.set j x) = (bvals l).setIfInBounds j (.int .u8 (x : Int)) := by simp [bvals, ints, List.map_set]
  unfold Brr
  rw [e]
  exact heap_setCell_same w g j _ t _ h
theorem Brr.setRow {w : World} {t : TypeId} {g : Nat} {l : List Nat} (h : Brr w t g l) (l' : List Nat) : Brr (w.setRow g (bvals l')) t g l' := setRow_heap w g _ _ t (0, 0) h
theorem Brr.setRowOther {w : World} {t : TypeId} {g : Nat} {l : List Nat} (h : Brr w t g l) (g' : Nat) (hg : g ≠ g') (c : Array Value) : Brr (w.setRow g' c) t g l := by
  unfold Brr; rw [setRow_other w g' g c hg]; exact h

section
variable {P : Program} {ops : Array Oper} {rest : List Oper} {o : Oper} {a : Act} {w : World} {Q : Exit → Act → World → Prop}
theorem run_loadBrr (t : TypeId) (g : Nat) (l : List Nat) (h : Brr w t g l) (n : Nat) (e : TypeId) (hu : P.underlying t = some (.array n e)) (hi : (P.info? t).map (·.size) = some l.length) :
    (loadVar t ⟨g, 0, none⟩).run P w = .ok (.agg (bvals l)) w :=
  run_loadVar_row w g t t (bvals l) (0, 0) _ h hu rfl (by rw [bvals_size]; exact hi)
/-- An array that is handed back out of a cell. -/
theorem bodyPost_brr {fn : Func} {p : Tmp} {ty : TypeId} {R : Ending → World → Prop} (hf : fn.results = #[.cell p ty]) (g : Nat) (l : List Nat) (hp : a.tmps.getD p undef = .pointer (some ⟨g, 0, none⟩)) (hd : a.defers = []) (h : Brr w ty g l)
    (n : Nat) (e : TypeId) (hu : P.underlying ty = some (.array n e)) (hi : (P.info? ty).map (·.size) = some l.length) (hR : R (.returned (.agg (bvals l))) w) : bodyPost P fn R .ret a w := by
  refine bodyPost_ret (v := .agg (bvals l)) ?_ hd hR
  rw [results_cell hf, hp]
  simp [asAddr, Result.andThen, run_loadBrr ty g l h n e hu hi]
/-- A whole array is read. -/
theorem wpList_loadBrr (hgd : o.guard = none) (t : TypeId) (x : Operand) (ho : o.op = .load t x) (g : Nat) (l : List Nat) (hx : a.eval x = .pointer (some ⟨g, 0, none⟩)) (h : Brr w t g l)
    (n : Nat) (e : TypeId) (hu : P.underlying t = some (.array n e)) (hi : (P.info? t).map (·.size) = some l.length) (hk : wpList P ops Q rest (a.put o.dst (.agg (bvals l))) w) : wpList P ops Q (o :: rest) a w :=
  wpList_plain hgd fun _ hK => by
    unfold Oper.wp execOp
    simp only [ho, hx, Instr.loadAt, Instr.sureAddr, Sem.run_bind, Sem.run_pure, Result.andThen_ok, run_loadBrr t g l h n e hu hi]
    exact hK _ _ hk
/-- A whole array is written. -/
theorem wpList_storeBrr (hgd : o.guard = none) (t : TypeId) (x y : Operand) (ho : o.op = .store t x y) (g : Nat) (l l' : List Nat) (hx : a.eval x = .pointer (some ⟨g, 0, none⟩)) (hy : a.eval y = .agg (bvals l')) (h : Brr w t g l) (hl : l.length = l'.length)
    (hi : (P.info? t).map (·.size) = some l.length) (hk : wpList P ops Q rest (a.put o.dst undef) (w.setRow g (bvals l'))) : wpList P ops Q (o :: rest) a w :=
  wpList_plain hgd fun _ hK => by
    unfold Oper.wp execOp
    have := run_storeVar_row (P := P) w g t t (bvals l) (bvals l') h (by rw [bvals_size, ← hl]; exact hi) (by rw [bvals_size, bvals_size, hl]) (bvals_one l')
    simp only [ho, hx, hy, Instr.storeAt, Instr.sureAddr, Sem.run_bind, Sem.run_pure, Result.andThen_ok, this]
    exact hK _ _ hk
end
section
variable {P : Program} {ops : Array Oper} {o : Oper} {a : Act} {w : World} {K' : Act → World → Prop} {Q : Exit → Act → World → Prop} {E : Prop}
/-- A whole array read, and written, at a step of a region that draws its order. -/
theorem step_loadBrr {d : Tmp} (hgd : o.guard = none) (hd : o.dst = some d) (t : TypeId) (x : Operand) (ho : o.op = .load t x) (g : Nat) (l : List Nat) (hx : a.eval x = .pointer (some ⟨g, 0, none⟩)) (h : Brr w t g l)
    (n : Nat) (e : TypeId) (hu : P.underlying t = some (.array n e)) (hi : (P.info? t).map (·.size) = some l.length) (hk : K' (a.put (some d) (.agg (bvals l))) w) :
    if Region.wanted o (yielded ops a.tmps) = true then Oper.wp P o a w K' Q else E := by
  rw [if_pos (by simp [Region.wanted, hgd])]
  unfold Oper.wp execOp
  simp only [ho, hx, Instr.loadAt, Instr.sureAddr, Sem.run_bind, Sem.run_pure, Result.andThen_ok, run_loadBrr t g l h n e hu hi]
  show K' (a.put o.dst _) w
  rw [hd]; exact hk
theorem step_storeBrr (hgd : o.guard = none) (hd : o.dst = none) (t : TypeId) (x y : Operand) (ho : o.op = .store t x y) (g : Nat) (l l' : List Nat) (hx : a.eval x = .pointer (some ⟨g, 0, none⟩)) (hy : a.eval y = .agg (bvals l')) (h : Brr w t g l) (hl : l.length = l'.length)
    (hi : (P.info? t).map (·.size) = some l.length) (hk : K' (a.put none undef) (w.setRow g (bvals l'))) :
    if Region.wanted o (yielded ops a.tmps) = true then Oper.wp P o a w K' Q else E := by
  rw [if_pos (by simp [Region.wanted, hgd])]
  unfold Oper.wp execOp
  have := run_storeVar_row (P := P) w g t t (bvals l) (bvals l') h (by rw [bvals_size, ← hl]; exact hi) (by rw [bvals_size, bvals_size, hl]) (bvals_one l')
  simp only [ho, hx, hy, Instr.storeAt, Instr.sureAddr, Sem.run_bind, Sem.run_pure, Result.andThen_ok, this]
  show K' (a.put o.dst _) _
  rw [hd]; exact hk
end

theorem Brr.cast {w : World} {t : TypeId} {g : Nat} {l l' : List Nat} (e : l = l') (h : Brr w t g l) : Brr w t g l' := e ▸ h
end Go.Proofs.YtfbgofbjbfidoaaDoor
