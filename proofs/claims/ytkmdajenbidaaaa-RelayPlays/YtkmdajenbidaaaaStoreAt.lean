/- A struct is written into the midst of another one's block. Nothing of the program. -/
import Derived.Test.YtkmdajenbidaaaaG
namespace Go.Proofs.Ytkmdajenbidaaaa
open Go.RowKit
set_option maxRecDepth 100000
set_option linter.unusedSimpArgs false
set_option linter.unusedVariables false
set_option maxRecDepth 100000

theorem run_storeVar_at {P : Program} (w : World) (g d : Nat) (t ty : TypeId) (cs cs' N : Array Value) (hg : Blk w t g cs) (hi : (P.info? ty).map (·.size) = some cs'.size) (hf : d + cs'.size ≤ cs.size) (h1 : cs'.all (·.oneCell') = true) (hN : (cs.toList.take d ++ cs'.toList ++ cs.toList.drop (d + cs'.size)).toArray = N) :
    (storeVar ty ⟨g, d, none⟩ (.agg cs')).run P w = .ok () (w.setRow g N) := by
  have := run_storeCells_at P g d t cs'.toList 0 cs w hg (by simp; omega) (fun v hv => (Array.all_eq_true_iff_forall_mem.1 h1) v (by simpa using hv))
  simp only [Nat.add_zero, Array.length_toList, hN] at this
  cases hq : P.info? ty with
  | none => simp [hq] at hi
  | some i =>
    have hs : cs'.size = i.size := by simp [hq] at hi; omega
    simp [storeVar, sizeOf, typeInfo, hq, Value.cells, hs, this]
section
variable {P : Program} {ops : Array Oper} {rest : List Oper} {o : Oper} {a : Act} {w : World} {Q : Exit → Act → World → Prop}
theorem wpList_storeAt (hgd : o.guard = none) (ty : TypeId) (x y : Operand) (ho : o.op = .store ty x y) (g d : Nat) (t : TypeId) (cs cs' N : Array Value) (hx : a.eval x = .pointer (some ⟨g, d, none⟩)) (hy : a.eval y = .agg cs') (h : Blk w t g cs)
    (hi : (P.info? ty).map (·.size) = some cs'.size) (hf : d + cs'.size ≤ cs.size) (h1 : cs'.all (·.oneCell') = true) (hN : (cs.toList.take d ++ cs'.toList ++ cs.toList.drop (d + cs'.size)).toArray = N) (hk : wpList P ops Q rest (a.put o.dst undef) (w.setRow g N)) : wpList P ops Q (o :: rest) a w :=
  wpList_plain hgd fun _ hK => by
    unfold Oper.wp execOp
    have := run_storeVar_at (P := P) w g d t ty cs cs' N h hi hf h1 hN
    simp only [ho, hx, hy, Instr.storeAt, Instr.sureAddr, Sem.run_bind, Sem.run_pure, Result.andThen_ok, this]
    exact hK _ _ hk
theorem step_storeAt {K' : Act → World → Prop} {E : Prop} (hgd : o.guard = none) (hd : o.dst = none) (ty : TypeId) (x y : Operand) (ho : o.op = .store ty x y) (g d : Nat) (t : TypeId) (cs cs' N : Array Value)
    (hx : a.eval x = .pointer (some ⟨g, d, none⟩)) (hy : a.eval y = .agg cs') (h : Blk w t g cs) (hi : (P.info? ty).map (·.size) = some cs'.size) (hf : d + cs'.size ≤ cs.size) (h1 : cs'.all (·.oneCell') = true) (hN : (cs.toList.take d ++ cs'.toList ++ cs.toList.drop (d + cs'.size)).toArray = N) (hk : K' (a.put none undef) (w.setRow g N)) :
    if Region.wanted o (yielded ops a.tmps) = true then Oper.wp P o a w K' Q else E := by
  rw [if_pos (by simp [Region.wanted, hgd])]
  unfold Oper.wp execOp
  have := run_storeVar_at (P := P) w g d t ty cs cs' N h hi hf h1 hN
  simp only [ho, hx, hy, Instr.storeAt, Instr.sureAddr, Sem.run_bind, Sem.run_pure, Result.andThen_ok, this]
  show K' (a.put o.dst _) _
  rw [hd]; exact hk
end

end Go.Proofs.Ytkmdajenbidaaaa
