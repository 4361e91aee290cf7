/- Layer 20, the document's: with. -/
import Derived.Test.YtkmdajenbidaaaaDoorRGpD
namespace Go.Proofs.YtkmdajenbidaaaaDoor
open Go.RowKit
set_option maxRecDepth 100000
set_option linter.unusedSimpArgs false
set_option linter.unusedVariables false
set_option maxRecDepth 100000

theorem cellsM_len (l : List MemT) : (cellsM l).length = l.length * 3 := by
  induction l with
  | nil => rfl
  | cons x l ih =>
    show ((memA x).toList ++ cellsM l).length = _
    rw [List.length_append, ih, List.length_cons]
    show 3 + _ = _
    omega
theorem cellsM_one (l : List MemT) : ∀ u ∈ cellsM l, u.oneCell' = true := by
  intro u hu
  unfold cellsM at hu
  obtain ⟨x, _, hx⟩ := List.mem_flatMap.1 hu
  exact memA_one x u hx
theorem cellsM_app (l m : List MemT) : cellsM (l ++ m) = cellsM l ++ cellsM m := by unfold cellsM; rw [List.flatMap_append]

/-- The members from the k'th on, so many of them, put behind others. -/
theorem mmsM_src {w : World} {b off n k m c : Nat} {l : List MemT} (h : MmsAt w (some ⟨b, off, none⟩) n l) (hk : k + m ≤ n) : SrcAt w (.slice (some ⟨b, off + k * 3, none⟩) m c) m (cellsM ((l.drop k).take m)) := by
  refine .inr ⟨_, c, rfl, fun j u hj => ?_⟩
  have hln := h.1
  have hjl := (List.getElem?_eq_some_iff.1 hj).1
  rw [cellsM_len, List.length_take, List.length_drop] at hjl
  have hi : j / 3 < ((l.drop k).take m).length := by rw [List.length_take, List.length_drop]; omega
  obtain ⟨u', h1, h2⟩ := cellsM_at ((l.drop k).take m) (j / 3) hi (j % 3) (by omega)
  rw [show j / 3 * 3 + j % 3 = j by omega, hj] at h2
  cases h2
  obtain ⟨b', off', ha, hc⟩ := h.2.resolve_left (by omega)
  cases ha
  have e : mmL ((l.drop k).take m) (j / 3) = mmL l (k + j / 3) := by
    unfold mmL
    rw [List.getD_eq_getElem?_getD, List.getD_eq_getElem?_getD, List.getElem?_take_of_lt (by omega), List.getElem?_drop]
  rw [e] at h1
  obtain ⟨q0, q1, q2⟩ := hc (k + j / 3) (by omega)
  rw [Go.WideShapes.add_plain]
  rcases (by omega : j % 3 = 0 ∨ j % 3 = 1 ∨ j % 3 = 2) with r | r | r
  · rw [r] at h1
    have h1' : (memA (mmL l (k + j / 3)))[0]? = some (.int .i64 (mmL l (k + j / 3)).1) := rfl
    rw [h1'] at h1
    cases h1
    rw [← q0]; congr 2; omega
  · rw [r] at h1
    have h1' : (memA (mmL l (k + j / 3)))[1]? = some (.int .i64 (mmL l (k + j / 3)).2.1) := rfl
    rw [h1'] at h1
    cases h1
    rw [← q1]; congr 2; omega
  · rw [r] at h1
    have h1' : (memA (mmL l (k + j / 3)))[2]? = some (.bool (mmL l (k + j / 3)).2.2) := rfl
    rw [h1'] at h1
    cases h1
    rw [← q2]; congr 2; omega

def withM (l : List MemT) (k : Nat) (x : MemT) : List MemT := l.take k ++ [x] ++ l.drop (k + 1)

end Go.Proofs.YtkmdajenbidaaaaDoor
