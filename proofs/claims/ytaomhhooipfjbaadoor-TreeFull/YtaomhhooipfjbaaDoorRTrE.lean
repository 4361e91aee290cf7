/- Rows of structs of the call's own; the document's with (layer 11). -/
import Derived.Test.YtaomhhooipfjbaaDoorRTrD
namespace Go.Proofs.YtaomhhooipfjbaaDoor
open Go.RowKit
set_option linter.unusedSimpArgs false

/-- Nodes of the call's own. -/
def cellsN (l : List ((Int × Int) × (Int × Int) × ByteArray × ByteArray)) : List Value := l.flatMap (fun x => (nodeA x).toList)

theorem cellsN_at (l : List ((Int × Int) × (Int × Int) × ByteArray × ByteArray)) : ∀ i, i < l.length → ∀ j, j < 6 → ∃ u, (nodeA (nL l i))[j]? = some u ∧ (cellsN l)[i * 6 + j]? = some u := by
  induction l with
  | nil => intro i hi; exact absurd hi (Nat.not_lt_zero _)
  | cons x l ih =>
    intro i hi j hj
    have hs : (nodeA x).toList.length = 6 := rfl
    cases i with
    | zero =>
      refine ⟨(nodeA x)[j]'(by show j < 6; exact hj), ?_, ?_⟩
      · show (nodeA x)[j]? = _
        exact Array.getElem?_eq_getElem _
      · show ((nodeA x).toList ++ cellsN l)[0 * 6 + j]? = _
        rw [Nat.zero_mul, Nat.zero_add, List.getElem?_append_left (by rw [hs]; exact hj), Array.getElem?_toList]
        exact Array.getElem?_eq_getElem _
    | succ i =>
      obtain ⟨u, h1, h2⟩ := ih i (by simp at hi; omega) j hj
      refine ⟨u, ?_, ?_⟩
      · have : nL (x :: l) (i + 1) = nL l i := rfl
        rw [this]; exact h1
      · show ((nodeA x).toList ++ cellsN l)[(i + 1) * 6 + j]? = _
        rw [List.getElem?_append_right (by rw [hs]; omega), hs, show (i + 1) * 6 + j - 6 = i * 6 + j by omega]
        exact h2

def OwnN (w : World) (B : Nat) (v : Value) (l : List ((Int × Int) × (Int × Int) × ByteArray × ByteArray)) : Prop := w.ownsRow B 40 6 v l.length (cellsN l)

theorem OwnN.nodes {w : World} {B : Nat} {v : Value} {l : List ((Int × Int) × (Int × Int) × ByteArray × ByteArray)} (h : OwnN w B v l) : ∃ a cap, v = .slice a l.length cap ∧ NodesAt w a l.length l := by
  obtain ⟨a, cap, hv, hr⟩ := rows_of_owns h (cellsN_at l)
  exact ⟨a, cap, hv, rfl, hr⟩

theorem OwnN.nil (w : World) (B : Nat) : OwnN w B (.slice none 0 0) [] := World.ownsRow_nil _ _ _ _

theorem cellsN_snoc (l : List ((Int × Int) × (Int × Int) × ByteArray × ByteArray)) (x : (Int × Int) × (Int × Int) × ByteArray × ByteArray) : cellsN (l ++ [x]) = cellsN l ++ (nodeA x).toList := by
  unfold cellsN
  rw [List.flatMap_append]
  simp

/-- Nodes with one in place of its like, or more: behind the first k. -/
def withF (l : List ((Int × Int) × (Int × Int) × ByteArray × ByteArray)) (x : (Int × Int) × (Int × Int) × ByteArray × ByteArray) : Nat → List ((Int × Int) × (Int × Int) × ByteArray × ByteArray) × Bool
  | 0 => ([], false)
  | k + 1 =>
    let p := if (withF l x k).2 = false ∧ ¬ LessS (nL l k).1 x.1 then ((withF l x k).1 ++ [x], true) else withF l x k
    if (nL l k).1 = x.1 then p else (p.1 ++ [nL l k], p.2)

def withP (l : List ((Int × Int) × (Int × Int) × ByteArray × ByteArray)) (x : (Int × Int) × (Int × Int) × ByteArray × ByteArray) : List ((Int × Int) × (Int × Int) × ByteArray × ByteArray) :=
  if (withF l x l.length).2 then (withF l x l.length).1 else (withF l x l.length).1 ++ [x]

theorem withF_le (l : List ((Int × Int) × (Int × Int) × ByteArray × ByteArray)) (x : (Int × Int) × (Int × Int) × ByteArray × ByteArray) (k : Nat) : (withF l x k).1.length + (if (withF l x k).2 then 0 else 1) ≤ k + 1 := by
  induction k with
  | zero => exact Nat.le_refl _
  | succ k ih =>
    unfold withF
    simp only []
    generalize withF l x k = p at *
    obtain ⟨O, d⟩ := p
    cases d <;> (split <;> split <;> simp_all <;> omega)

end Go.Proofs.YtaomhhooipfjbaaDoor
