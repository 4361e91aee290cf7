/- Layer 20, the document's: rows of members that are one's own; New. -/
import Derived.Test.YtkmdajenbidaaaaDoorRGpC
namespace Go.Proofs.YtkmdajenbidaaaaDoor
open Go.RowKit
set_option maxRecDepth 100000
set_option linter.unusedSimpArgs false
set_option linter.unusedVariables false
set_option maxRecDepth 100000

theorem Tryd.infoM20 : (Tryd.prog.info? 42).map (fun i => (i.zero, i.size, i.bytes)) = some (some (.agg #[.int .i64 0, .int .i64 0, .bool false]), 3, 24) := by kernel_rfl

def cellsM (l : List MemT) : List Value := l.flatMap (fun x => (memA x).toList)

theorem cellsM_at (l : List MemT) : ∀ i, i < l.length → ∀ j, j < 3 → ∃ u, (memA (mmL l i))[j]? = some u ∧ (cellsM l)[i * 3 + j]? = some u := by
  induction l with
  | nil => intro i hi; exact absurd hi (Nat.not_lt_zero _)
  | cons x l ih =>
    intro i hi j hj
    have hs : (memA x).toList.length = 3 := rfl
    cases i with
    | zero =>
      refine ⟨(memA x)[j]'(by show j < 3; exact hj), ?_, ?_⟩
      · show (memA x)[j]? = _
        exact Array.getElem?_eq_getElem _
      · show ((memA x).toList ++ cellsM l)[0 * 3 + j]? = _
        rw [Nat.zero_mul, Nat.zero_add, List.getElem?_append_left (by rw [hs]; exact hj), Array.getElem?_toList]
        exact Array.getElem?_eq_getElem _
    | succ i =>
      obtain ⟨u, h1, h2⟩ := ih i (by simp at hi; omega) j hj
      refine ⟨u, ?_, ?_⟩
      · have : mmL (x :: l) (i + 1) = mmL l i := rfl
        rw [this]; exact h1
      · show ((memA x).toList ++ cellsM l)[(i + 1) * 3 + j]? = _
        rw [List.getElem?_append_right (by rw [hs]; omega), hs, show (i + 1) * 3 + j - 3 = i * 3 + j by omega]
        exact h2

def OwnM (w : World) (B : Nat) (v : Value) (l : List MemT) : Prop := w.ownsRow B 42 3 v l.length (cellsM l)

theorem OwnM.rows {w : World} {B : Nat} {v : Value} {l : List MemT} (h : OwnM w B v l) : ∃ a cap, v = .slice a l.length cap ∧ l.length ≤ cap ∧ cap ≤ 9223372036854775807 ∧ MmsAt w a l.length l := by
  obtain ⟨a, cap, hv, hr⟩ := rows_of_owns h (cellsM_at l)
  refine ⟨a, cap, hv, ?_, ?_, rfl, ?_⟩
  · rcases h.2 with ⟨k1, k2⟩ | ⟨g, cap', cur, k1, _, _, k2, _⟩
    · omega
    · rw [hv] at k1
      injection k1 with _ _ e
      omega
  · rcases h.2 with ⟨k1, k2⟩ | ⟨g, cap', cur, k1, _, _, _, k2, _⟩
    · rw [hv] at k1
      injection k1 with _ _ e
      omega
    · rw [hv] at k1
      injection k1 with _ _ e
      unfold maxLen at k2
      omega
  · refine hr.imp id (fun ⟨b, off, e, hc⟩ => ⟨b, off, e, fun i hi => ?_⟩)
    obtain ⟨u0, a0, b0⟩ := hc i hi 0 (by decide)
    obtain ⟨u1, a1, b1⟩ := hc i hi 1 (by decide)
    obtain ⟨u2, a2, b2⟩ := hc i hi 2 (by decide)
    cases a0
    cases a1
    cases a2
    exact ⟨b0, b1, b2⟩

theorem cellsM_snoc (l : List MemT) (x : MemT) : cellsM (l ++ [x]) = cellsM l ++ (memA x).toList := by
  unfold cellsM
  rw [List.flatMap_append]
  simp

theorem memA_one (x : MemT) : ∀ u ∈ (memA x).toList, u.oneCell' = true := by
  intro u hu
  simp [memA] at hu
  rcases hu with rfl | rfl | rfl <;> rfl

theorem below_grown20 {w w' w'' : World} {r : Option Nat} (h : Below w.heap.size w w') (g : w'.grownBy w'' r) (hr : ∀ j, r = some j → w.heap.size ≤ j) : Below w.heap.size w w'' :=
  ⟨g.os.trans h.os, g.tape.trans h.tape, g.output.trans h.output, Nat.le_trans h.size g.size, fun k hk => (g.block k (by have := h.size; omega) (fun e => by have := hr k e.symm; omega)).trans (h.block k hk)⟩

/-- The members of New. -/
def newM (n : Nat) : List MemT := (List.range n).map (fun (i : Nat) => (((i : Int) + 1, 0, decide (i = 0)) : MemT))
theorem newM_len (n : Nat) : (newM n).length = n := by unfold newM; simp
theorem newM_snoc (n : Nat) : newM (n + 1) = newM n ++ [((n : Int) + 1, 0, decide (n = 0))] := by
  unfold newM; rw [List.range_succ, List.map_append]; rfl

/-- The group's cell and its members. -/
def FiG (w W : World) (h B : Nat) (v : Value) (l : List MemT) : Prop := Below w.heap.size w W ∧ Blk W 26 h #[.int .i64 1, v, .int .i64 0] ∧ OwnM W B v l ∧ h < B ∧ w.heap.size < h ∧ B ≤ W.heap.size ∧ Blk W 26 w.heap.size #[.int .i64 0, .slice none 0 0, .int .i64 0]

end Go.Proofs.YtkmdajenbidaaaaDoor
