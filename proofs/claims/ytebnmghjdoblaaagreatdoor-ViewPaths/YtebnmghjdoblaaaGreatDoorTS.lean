import Derived.Test.YtebnmghjdoblaaaGreatDoorRT
import Derived.Test.YtebnmghjdoblaaaGreatDoorBA
import Derived.Lib.AppendZerosOnto
import Derived.Lib.Overlaps
import Derived.Laws.CopyOwn
import Derived.Laws.Externs
import Derived.Lib.SliceRun
/- The document's Apply (layer 11). -/
namespace Go.Proofs.YtebnmghjdoblaaaGreatDoor
open Go.RowKit
set_option linter.unusedSimpArgs false

/-- Operations of the call's own. -/
def cellsO (l : List OpT) : List Value := l.flatMap (fun x => (opA x).toList)

theorem cellsO_at (l : List OpT) : ∀ i, i < l.length → ∀ j, j < 9 → ∃ u, (opA (oL l i))[j]? = some u ∧ (cellsO l)[i * 9 + j]? = some u := by
  induction l with
  | nil => intro i hi; exact absurd hi (Nat.not_lt_zero _)
  | cons x l ih =>
    intro i hi j hj
    have hs : (opA x).toList.length = 9 := rfl
    cases i with
    | zero =>
      refine ⟨(opA x)[j]'(by show j < 9; exact hj), ?_, ?_⟩
      · show (opA x)[j]? = _
        exact Array.getElem?_eq_getElem _
      · show ((opA x).toList ++ cellsO l)[0 * 9 + j]? = _
        rw [Nat.zero_mul, Nat.zero_add, List.getElem?_append_left (by rw [hs]; exact hj), Array.getElem?_toList]
        exact Array.getElem?_eq_getElem _
    | succ i =>
      obtain ⟨u, h1, h2⟩ := ih i (by simp at hi; omega) j hj
      refine ⟨u, ?_, ?_⟩
      · have : oL (x :: l) (i + 1) = oL l i := rfl
        rw [this]; exact h1
      · show ((opA x).toList ++ cellsO l)[(i + 1) * 9 + j]? = _
        rw [List.getElem?_append_right (by rw [hs]; omega), hs, show (i + 1) * 9 + j - 9 = i * 9 + j by omega]
        exact h2

theorem cellsO_app (l m : List OpT) : cellsO (l ++ m) = cellsO l ++ cellsO m := by
  unfold cellsO; rw [List.flatMap_append]

theorem cellsO_len (l : List OpT) : (cellsO l).length = l.length * 9 := by
  induction l with
  | nil => rfl
  | cons x l ih =>
    show ((opA x).toList ++ cellsO l).length = _
    rw [List.length_append, ih, List.length_cons]
    show 9 + _ = _
    omega

theorem opA_one (x : OpT) : ∀ u ∈ (opA x).toList, u.oneCell' = true := by
  intro u hu
  simp [opA] at hu
  rcases hu with rfl | rfl | rfl | rfl | rfl | rfl | rfl | rfl | rfl <;> rfl

theorem cellsO_one (l : List OpT) : ∀ u ∈ cellsO l, u.oneCell' = true := by
  intro u hu
  unfold cellsO at hu
  obtain ⟨x, _, hx⟩ := List.mem_flatMap.1 hu
  exact opA_one x u hx

def OwnO (w : World) (B : Nat) (v : Value) (l : List OpT) : Prop := w.ownsRow B 56 9 v l.length (cellsO l)

theorem OwnO.nil (w : World) (B : Nat) : OwnO w B (.slice none 0 0) [] := World.ownsRow_nil _ _ _ _

theorem OwnO.ops {w : World} {B : Nat} {v : Value} {l : List OpT} (h : OwnO w B v l) : ∃ a cap, v = .slice a l.length cap ∧ OpsAt w a l.length l ∧ SliceOk a l.length cap := by
  obtain ⟨a, cap, hv, hr⟩ := rows_of_owns h (cellsO_at l)
  refine ⟨a, cap, hv, ⟨rfl, hr⟩, ?_⟩
  rcases h.2 with ⟨e, _⟩ | ⟨g, cap', cur, e, _, _, hnc, _⟩
  · rw [e] at hv; injection hv with e1 e2 e3; exact .inl ⟨e1.symm, e2.symm, e3.symm⟩
  · rw [e] at hv; cases hv; exact .inr ⟨_, rfl, hnc⟩

theorem Tryz.infoOp : (Tryz.prog.info? 56).map (fun i => (i.zero, i.size, i.bytes)) = some (some (.agg #[.int .i64 0, .int .i64 0, .int .i64 0, .int .i64 0, .int .i64 0, .int .i64 0, .int .i64 0, .string ⟨#[]⟩, .string ⟨#[]⟩]), 9, 88) := by kernel_rfl

/-- The operations from the k'th on, and the first k, put behind others. -/
theorem opsO_src {w : World} {b off n k m c : Nat} {l : List OpT} (h : OpsAt w (some ⟨b, off, none⟩) n l) (hk : k + m ≤ n) : SrcAt w (.slice (some ⟨b, off + k * 9, none⟩) m c) m (cellsO ((l.drop k).take m)) := by
  refine .inr ⟨_, c, rfl, fun j u hj => ?_⟩
  have hln := h.1
  have hjl := (List.getElem?_eq_some_iff.1 hj).1
  rw [cellsO_len, List.length_take, List.length_drop] at hjl
  have hi : j / 9 < ((l.drop k).take m).length := by rw [List.length_take, List.length_drop]; omega
  obtain ⟨u', h1, h2⟩ := cellsO_at ((l.drop k).take m) (j / 9) hi (j % 9) (by omega)
  rw [show j / 9 * 9 + j % 9 = j by omega, hj] at h2
  cases h2
  obtain ⟨b', off', ha, hc⟩ := h.2.some (by omega)
  cases ha
  obtain ⟨u2, h3, h4⟩ := hc (k + j / 9) (by omega) (j % 9) (by omega)
  have e : oL ((l.drop k).take m) (j / 9) = oL l (k + j / 9) := by
    unfold oL
    rw [List.getD_eq_getElem?_getD, List.getD_eq_getElem?_getD, List.getElem?_take_of_lt (by omega), List.getElem?_drop]
  rw [e, h3] at h1
  cases h1
  rw [Go.WideShapes.add_plain, ← h4]
  congr 2
  omega

end Go.Proofs.YtebnmghjdoblaaaGreatDoor

/- Operations of the call's own: put behind, copied, cleared. Plain facts. -/
namespace Go.Proofs.YtebnmghjdoblaaaGreatDoor
open Go.RowKit
set_option linter.unusedSimpArgs false

section
variable {P : Program} {ops : Array Oper} {rest : List Oper} {o : Oper} {a : Act} {K : Act → World → Prop} {Q : Exit → Act → World → Prop}

end
end Go.Proofs.YtebnmghjdoblaaaGreatDoor

/- The library's slices.Delete, slices.Clone at operations (layer 11). -/
namespace Go.Proofs.YtebnmghjdoblaaaGreatDoor
open Go.RowKit
set_option linter.unusedSimpArgs false

/-- A row of operations of the call's own, with its block. -/
theorem OwnO.blk {w : World} {B : Nat} {v : Value} {l : List OpT} (h : OwnO w B v l) : (v = .slice none 0 0 ∧ l = []) ∨ ∃ g cap cur, v = .slice (some ⟨g, 0, none⟩) l.length cap ∧ B ≤ g ∧ Blk w 56 g cur ∧ l.length ≤ cap ∧ cap ≤ maxLen ∧ cur.size = cap * 9 ∧ cur.toList.take (l.length * 9) = cellsO l := by
  rcases h.2 with ⟨rfl, h0⟩ | ⟨g, cap, cur, h1, h2, h3, h4, h5, h6, h7⟩
  · exact .inl ⟨rfl, List.length_eq_zero_iff.1 h0⟩
  · exact .inr ⟨g, cap, cur, h1, h2, h3, h4, h5, h6, h7⟩

theorem OwnO.of {w : World} {B g cap : Nat} {cur : Array Value} {l : List OpT} {n : Nat} (hn : l.length = n) (hB : B ≤ g) (h : Blk w 56 g cur) (h1 : l.length ≤ cap) (h2 : cap ≤ maxLen) (h3 : cur.size = cap * 9) (h4 : cur.toList.take (l.length * 9) = cellsO l) : OwnO w B (.slice (some ⟨g, 0, none⟩) n cap) l := by
  subst hn
  exact ⟨cellsO_len l, .inr ⟨g, cap, cur, rfl, hB, h, h1, h2, h3, h4⟩⟩

theorem grown_setRow (w : World) (g : Nat) (cs : Array Value) : w.grownBy (w.setRow g cs) (some g) :=
  ⟨rfl, rfl, rfl, by simp [World.setRow], fun k _ hk => setRow_other w g k cs (fun e => hk (by rw [e]))⟩

end Go.Proofs.YtebnmghjdoblaaaGreatDoor

/- The library's slices.Insert, slices.Clone at operations (layer 11). -/
namespace Go.Proofs.YtebnmghjdoblaaaGreatDoor
open Go.RowKit
set_option linter.unusedSimpArgs false

end Go.Proofs.YtebnmghjdoblaaaGreatDoor

/- Rows of operations and of nodes, and snapshots by value, among a law's parameters. -/
namespace Go.Proofs.YtebnmghjdoblaaaGreatDoor
open Go.ChangeShapes Go.WideShapes Go.RowKit

def OpOk (q : OpT) : Prop := (Lit.int .i64 q.1).wf = true ∧ q.2.2.2.2.1.size ≤ maxLen ∧ q.2.2.2.2.2.size ≤ maxLen

def NodeOkT (q : NodeT) : Prop := q.2.2.1.size ≤ maxLen ∧ q.2.2.2.size ≤ maxLen

end Go.Proofs.YtebnmghjdoblaaaGreatDoor
