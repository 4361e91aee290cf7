import Derived.Test.YtfbgofbjbfidoaaDoorShaBehind
import Derived.Test.YtfbgofbjbfidoaaDoorRBlock
import Derived.Deep.MidRow
namespace Go.Proofs.YtfbgofbjbfidoaaDoor
open Go.RowKit
set_option linter.unusedSimpArgs false

section
variable {P : Program} {ops : Array Oper} {rest : List Oper} {o : Oper} {a : Act} {w : World} {Q : Exit → Act → World → Prop}
/-- Words that lie somewhere, read as a whole. -/
theorem wpList_loadCells (hgd : o.guard = none) (t : TypeId) (x : Operand) (ho : o.op = .load t x) (g : Nat) (l : List Nat) (hx : a.eval x = .pointer (some ⟨g, 0, none⟩)) (h : ∀ j, j < l.length → w.cell? ⟨g, j, none⟩ = some (.int .u32 ((l.getD j 0 : Nat) : Int)))
    (n : Nat) (e : TypeId) (hu : P.underlying t = some (.array n e)) (hi : (P.info? t).map (·.size) = some l.length) (hk : wpList P ops Q rest (a.put o.dst (.agg (vals l))) w) : wpList P ops Q (o :: rest) a w := by
  refine wpList_load_mid hgd t x ho g 0 hx (vals l).toList _ (fun j v hv => ?_) hu rfl ?_ ?_
  · rw [Nat.zero_add]
    have hj : j < l.length := by
      have := (List.getElem?_eq_some_iff.1 hv).1
      simpa [vals_size] using this
    rw [h j hj, ← vals_get l j hj, ← hv]; simp
  · rw [hi]; simp [vals_size]
  · simpa using hk
end

end Go.Proofs.YtfbgofbjbfidoaaDoor
