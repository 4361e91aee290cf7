import Derived.Test.YtdmlffbpcjadfaaDoorTmFx
import Derived.Test.YtdmlffbpcjadfaaDoorRTrT
/- The code's Of, on plain data (layer 11). -/
namespace Go.Proofs.YtdmlffbpcjadfaaDoor
open Go.RowKit

theorem nL_at (l : List NodeT) (i : Nat) (hi : i < l.length) : nL l i = l[i] := by unfold nL; rw [List.getD_eq_getElem?_getD, List.getElem?_eq_getElem hi]; rfl

/-- What the code's Of answers. -/
def codeP (M : OpT → Bool) (D : Bool) (t : TreeT) : TreeT × Int :=
  if t.2.2 ≠ (0, 0) ∧ ¬ MayS t.2.2 then (emptyT, 1) else if D = false then (emptyT, 1) else ofF M t.2.1 (t.1, [], t.2.2)

theorem ofF_joinK (M : OpT → Bool) (ops : List OpT) (k : Nat) (h : k < ops.length) (t : TreeT) : ofF M (ops.drop k) t = if (joinP M t (oL ops k)).2 ≠ 0 then (emptyT, (joinP M t (oL ops k)).2) else ofF M (ops.drop (k + 1)) (joinP M t (oL ops k)).1 := by
  rw [drop_oL ops k h]; exact ofF_join M _ _ t

theorem joinP_len (M : OpT → Bool) (t : TreeT) (o : OpT) : (joinP M t o).1.1 = t.1 ∧ (joinP M t o).1.2.1.length ≤ t.2.1.length + 1 := by
  unfold joinP
  split
  · exact ⟨rfl, Nat.le_succ _⟩
  · exact applyP_len M t o

theorem FxS.tree {w0 w : World} {g f m : Nat} {b1 b2 : Int} {l : List NodeT} (h : FxS w0 w g f m b1 b2 l) (hR : Rooted l) : TreeIn w g f m none (l, [], (b1, b2)) :=
  ⟨⟨hR, List.Pairwise.nil, fun _ h => absurd h List.not_mem_nil⟩, h.ne, .slice none 0 0, true, rfl, h.obj, OwnO.nil _ _, h.fx, [], h.nd, fun e => by cases e⟩
end Go.Proofs.YtdmlffbpcjadfaaDoor
