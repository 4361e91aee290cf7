/- Layer 11 on plain data: nodes as a sorted list, and as a look-up. Nothing of the program. -/
import Derived.Test.YtaomhhooipfjbaaDoorTrD
import Derived.Test.YtaomhhooipfjbaaDoorR10
namespace Go.Proofs.YtaomhhooipfjbaaDoor
open Go.RowKit
set_option linter.unusedSimpArgs false

/-- Nodes by rising numbers. -/
def SortN (l : List NodeT) : Prop := l.Pairwise (fun a b => LessS a.1 b.1)

/-- The node of a number. -/
def look (l : List NodeT) (id : Int × Int) : Option NodeT := l.find? (fun x => decide (x.1 = id))

/-- One in place of its like, or more. -/
def withR (x : NodeT) : List NodeT → List NodeT
  | [] => [x]
  | y :: l => if LessS y.1 x.1 then y :: withR x l else x :: (y :: l).filter (fun z => decide (z.1 ≠ x.1))

def stepW (x : NodeT) (p : List NodeT × Bool) (y : NodeT) : List NodeT × Bool :=
  let q := if p.2 = false ∧ ¬ LessS y.1 x.1 then (p.1 ++ [x], true) else p
  if y.1 = x.1 then q else (q.1 ++ [y], q.2)

theorem withF_fold (l : List NodeT) (x : NodeT) (k : Nat) (h : k ≤ l.length) : withF l x k = (l.take k).foldl (stepW x) ([], false) := by
  induction k with
  | zero => rfl
  | succ k ih =>
    have hk : k < l.length := by omega
    rw [List.take_succ_eq_append_getElem hk, List.foldl_append, ← ih (by omega)]
    have e : nL l k = l[k] := by unfold nL; rw [List.getD_eq_getElem?_getD, List.getElem?_eq_getElem hk]; rfl
    show _ = stepW x (withF l x k) l[k]
    rw [← e]; rfl

theorem stepW_done (x : NodeT) (l : List NodeT) (acc : List NodeT) : l.foldl (stepW x) (acc, true) = (acc ++ l.filter (fun z => decide (z.1 ≠ x.1)), true) := by
  induction l generalizing acc with
  | nil => simp
  | cons y l ih =>
    rw [List.foldl_cons]
    by_cases h : y.1 = x.1
    · rw [show stepW x (acc, true) y = (acc, true) by simp [stepW, h], ih]
      simp [h]
    · rw [show stepW x (acc, true) y = (acc ++ [y], true) by simp [stepW, h], ih]
      simp [h]

theorem stepW_all (x : NodeT) (l : List NodeT) (acc : List NodeT) : (if (l.foldl (stepW x) (acc, false)).2 then (l.foldl (stepW x) (acc, false)).1 else (l.foldl (stepW x) (acc, false)).1 ++ [x]) = acc ++ withR x l := by
  induction l generalizing acc with
  | nil => simp [withR]
  | cons y l ih =>
    rw [List.foldl_cons]
    by_cases hl : LessS y.1 x.1
    · have hne : y.1 ≠ x.1 := fun e => by rw [e] at hl; exact lessS_self _ hl
      rw [show stepW x (acc, false) y = (acc ++ [y], false) by simp only [stepW, hl, not_true_eq_false, and_false, if_false, hne], ih]
      rw [show withR x (y :: l) = if LessS y.1 x.1 then y :: withR x l else x :: (y :: l).filter (fun z => decide (z.1 ≠ x.1)) from rfl, if_pos hl, List.append_assoc]; rfl
    · by_cases h : y.1 = x.1
      · rw [show stepW x (acc, false) y = (acc ++ [x], true) by simp [stepW, h, lessS_self], stepW_done]
        rw [show withR x (y :: l) = if LessS y.1 x.1 then y :: withR x l else x :: (y :: l).filter (fun z => decide (z.1 ≠ x.1)) from rfl, if_neg hl]
        simp [h]
      · rw [show stepW x (acc, false) y = (acc ++ [x] ++ [y], true) by simp only [stepW, hl, not_false_eq_true, and_self, if_true, if_false, h], stepW_done]
        rw [show withR x (y :: l) = if LessS y.1 x.1 then y :: withR x l else x :: (y :: l).filter (fun z => decide (z.1 ≠ x.1)) from rfl, if_neg hl]
        simp [h]

theorem withP_R (l : List NodeT) (x : NodeT) : withP l x = withR x l := by
  unfold withP
  rw [withF_fold l x l.length (Nat.le_refl _), List.take_length]
  have := stepW_all x l []
  rw [List.nil_append] at this
  exact this

theorem withR_mem (x : NodeT) (l : List NodeT) (y : NodeT) : y ∈ withR x l ↔ y = x ∨ (y ∈ l ∧ y.1 ≠ x.1) := by
  induction l with
  | nil => simp [withR]
  | cons z l ih =>
    unfold withR
    by_cases hl : LessS z.1 x.1
    · have hne : z.1 ≠ x.1 := fun e => by rw [e] at hl; exact lessS_self _ hl
      rw [if_pos hl, List.mem_cons, ih, List.mem_cons]
      constructor
      · rintro (rfl | h | ⟨h1, h2⟩)
        · exact .inr ⟨.inl rfl, hne⟩
        · exact .inl h
        · exact .inr ⟨.inr h1, h2⟩
      · rintro (h | ⟨rfl | h1, h2⟩)
        · exact .inr (.inl h)
        · exact .inl rfl
        · exact .inr (.inr ⟨h1, h2⟩)
    · rw [if_neg hl, List.mem_cons, List.mem_filter]
      simp

theorem lessS_or (a b : Int × Int) (h : ¬ LessS a b) (hne : a ≠ b) : LessS b a := by
  rcases (lessS_one a b).2 hne with k | k
  · exact absurd k h
  · exact k

theorem withR_sort (x : NodeT) (l : List NodeT) (h : SortN l) : SortN (withR x l) := by
  induction l with
  | nil => exact List.pairwise_singleton _ _
  | cons z l ih =>
    unfold SortN at h
    rw [List.pairwise_cons] at h
    unfold withR
    by_cases hl : LessS z.1 x.1
    · rw [if_pos hl]
      unfold SortN
      rw [List.pairwise_cons]
      refine ⟨fun y hy => ?_, ih h.2⟩
      rcases (withR_mem x l y).1 hy with rfl | ⟨h1, _⟩
      · exact hl
      · exact h.1 y h1
    · rw [if_neg hl]
      unfold SortN
      rw [List.pairwise_cons]
      refine ⟨fun y hy => ?_, List.Pairwise.filter _ (List.pairwise_cons.2 h)⟩
      rw [List.mem_filter] at hy
      obtain ⟨hy, hne⟩ := hy
      have hne : y.1 ≠ x.1 := by simpa using hne
      rcases List.mem_cons.1 hy with rfl | h1
      · exact lessS_or _ _ hl hne
      · have hzy := h.1 y h1
        by_cases e : z.1 = x.1
        · rw [← e]; exact hzy
        · exact lessS_trans _ _ _ (lessS_or _ _ hl e) hzy

theorem look_mem {l : List NodeT} {id : Int × Int} {x : NodeT} (h : look l id = some x) : x ∈ l ∧ x.1 = id := by
  unfold look at h
  exact ⟨List.mem_of_find?_eq_some h, by simpa using List.find?_some h⟩

theorem look_none {l : List NodeT} {id : Int × Int} : look l id = none ↔ ∀ x ∈ l, x.1 ≠ id := by
  unfold look
  rw [List.find?_eq_none]
  simp

theorem sortN_uniq {l : List NodeT} (h : SortN l) {x y : NodeT} (hx : x ∈ l) (hy : y ∈ l) (e : x.1 = y.1) : x = y := by
  induction l with
  | nil => cases hx
  | cons z l ih =>
    unfold SortN at h
    rw [List.pairwise_cons] at h
    rcases List.mem_cons.1 hx with rfl | hx
    · rcases List.mem_cons.1 hy with rfl | hy
      · rfl
      · have := h.1 y hy
        rw [e] at this
        exact absurd this (lessS_self _)
    · rcases List.mem_cons.1 hy with e2 | hy2
      · have := h.1 x hx
        rw [e, e2] at this
        exact absurd this (lessS_self _)
      · exact ih h.2 hx hy2

theorem look_is {l : List NodeT} (h : SortN l) {x : NodeT} (hx : x ∈ l) : look l x.1 = some x := by
  cases hl : look l x.1 with
  | none => exact absurd rfl (look_none.1 hl x hx)
  | some y =>
    obtain ⟨h1, h2⟩ := look_mem hl
    rw [sortN_uniq h h1 hx h2]

theorem look_with {l : List NodeT} (h : SortN l) (x : NodeT) (id : Int × Int) : look (withR x l) id = if id = x.1 then some x else look l id := by
  have hs := withR_sort x l h
  by_cases e : id = x.1
  · rw [if_pos e, e]
    exact look_is hs ((withR_mem x l x).2 (.inl rfl))
  · rw [if_neg e]
    cases hl : look l id with
    | none =>
      rw [look_none]
      intro y hy
      rcases (withR_mem x l y).1 hy with rfl | ⟨h1, _⟩
      · exact fun e2 => e e2.symm
      · exact look_none.1 hl y h1
    | some y =>
      obtain ⟨h1, h2⟩ := look_mem hl
      have : y ∈ withR x l := (withR_mem x l y).2 (.inr ⟨h1, by rw [h2]; exact e⟩)
      have := look_is hs this
      rw [h2] at this; exact this

/-- Two sorted lists with the same look-ups are one. -/
theorem sortN_ext {l m : List NodeT} (hl : SortN l) (hm : SortN m) (h : ∀ id, look l id = look m id) : l = m := by
  have hmem : ∀ x, x ∈ l ↔ x ∈ m := fun x => ⟨fun hx => (look_mem (by rw [← h]; exact look_is hl hx)).1, fun hx => (look_mem (by rw [h]; exact look_is hm hx)).1⟩
  clear h
  induction l generalizing m with
  | nil =>
    cases m with
    | nil => rfl
    | cons y m => exact absurd ((hmem y).2 (List.mem_cons_self ..)) (by simp)
  | cons x l ih =>
    cases m with
    | nil => exact absurd ((hmem x).1 (List.mem_cons_self ..)) (by simp)
    | cons y m =>
      unfold SortN at hl hm
      rw [List.pairwise_cons] at hl hm
      have e : x = y := by
        rcases List.mem_cons.1 ((hmem x).1 (List.mem_cons_self ..)) with e | hx
        · exact e
        · rcases List.mem_cons.1 ((hmem y).2 (List.mem_cons_self ..)) with e | hy
          · exact e.symm
          · exact absurd (hl.1 y hy) (lessS_not _ _ (hm.1 x hx))
      subst e
      congr 1
      refine ih hl.2 hm.2 (fun z => ⟨fun hz => ?_, fun hz => ?_⟩)
      · rcases List.mem_cons.1 ((hmem z).1 (List.mem_cons_of_mem _ hz)) with e | h
        · subst e; exact absurd (hl.1 z hz) (lessS_self _)
        · exact h
      · rcases List.mem_cons.1 ((hmem z).2 (List.mem_cons_of_mem _ hz)) with e | h
        · subst e; exact absurd (hm.1 z hz) (lessS_self _)
        · exact h

theorem withR_len (x : NodeT) (l : List NodeT) : (withR x l).length ≤ l.length + 1 := by
  induction l with
  | nil => exact Nat.le_refl _
  | cons y l ih =>
    rw [show withR x (y :: l) = if LessS y.1 x.1 then y :: withR x l else x :: (y :: l).filter (fun z => decide (z.1 ≠ x.1)) from rfl]
    split
    · rw [List.length_cons, List.length_cons]; omega
    · rw [List.length_cons]
      have := List.length_filter_le (fun z : NodeT => decide (z.1 ≠ x.1)) (y :: l)
      omega

theorem doP_len (l : List NodeT) (o : OpT) : (doP l o).length ≤ l.length + 1 := by
  unfold doP
  simp only [withP_R]
  (repeat' split) <;> first | omega | exact withR_len _ _

/-- Nodes behind operations. -/
def nodesP (l : List NodeT) (ops : List OpT) : List NodeT := ops.foldl doP l

theorem nodesP_len (l : List NodeT) (ops : List OpT) : (nodesP l ops).length ≤ l.length + ops.length := by
  unfold nodesP
  induction ops generalizing l with
  | nil => exact Nat.le_refl _
  | cons o ops ih =>
    rw [List.foldl_cons, List.length_cons]
    have a := ih (doP l o)
    have b := doP_len l o
    omega

theorem nodesP_step (l : List NodeT) (ops : List OpT) (k : Nat) (h : k < ops.length) : nodesP l (ops.take (k + 1)) = doP (nodesP l (ops.take k)) (oL ops k) := by
  unfold nodesP
  rw [List.take_succ_eq_append_getElem h, List.foldl_append]
  have e : oL ops k = ops[k] := by unfold oL; rw [List.getD_eq_getElem?_getD, List.getElem?_eq_getElem h]; rfl
  rw [e]; rfl

end Go.Proofs.YtaomhhooipfjbaaDoor
