import Derived.Test.YtdmlffbpcjadfaaDoorTrOg
/- A tree's own snapshot makes it again, on plain data (layer 11). -/
namespace Go.Proofs.YtdmlffbpcjadfaaDoor
open Go.RowKit

theorem less_not {a b : Int × Int} (h : LessS a b) : ¬ LessS b a ∧ a ≠ b := by
  obtain ⟨a1, a2⟩ := a
  obtain ⟨b1, b2⟩ := b
  unfold LessS at h ⊢
  simp only at h ⊢
  refine ⟨by omega, fun e => ?_⟩
  cases e
  omega

theorem join_last (M : OpT → Bool) (l : List NodeT) (p : List OpT) (b : Int × Int) (o : OpT) (hM : M o = true) (hb : LessS b o.2.1) (hp : ∀ x ∈ p, LessS x.2.1 o.2.1) (hn : l.length + p.length ≤ 500) : joinP M (l, p, b) o = ((l, p ++ [o], b), 0) := by
  have hd : ¬ dupO o.2.1 p = true := fun h => by
    obtain ⟨x, hx, e⟩ := (dupO_iff _ _).1 h
    exact (less_not (hp x hx)).2 e
  have hput : putO o p = p ++ [o] := by
    have h := putO_past o p [] (fun x hx => (less_not (hp x hx)).1)
    rw [List.append_nil] at h
    exact h
  have hc : creO p ≤ p.length := List.countP_le_length
  unfold joinP
  rw [if_neg hd]
  unfold applyP
  rw [if_neg (fun h => h.elim (fun h => by rw [hM] at h; cases h) (fun h => h hb)), if_neg hd, if_neg (by simp only; omega)]
  simp only [hput]

/-- Operations in their order, put among none, are these. -/
theorem of_again (M : OpT → Bool) (l : List NodeT) (b : Int × Int) : ∀ (q p : List OpT), SortO (p ++ q) → (∀ o ∈ q, M o = true ∧ LessS b o.2.1) → l.length + (p ++ q).length ≤ 500 → ofF M q (l, p, b) = ((l, p ++ q, b), 0) := by
  intro q
  induction q with
  | nil => intro p _ _ _; rw [List.append_nil]; rfl
  | cons o q ih =>
    intro p hs hm hn
    have ho := hm o (List.mem_cons_self ..)
    have hp : ∀ x ∈ p, LessS x.2.1 o.2.1 := fun x hx => (List.pairwise_append.1 hs).2.2 x hx o (List.mem_cons_self ..)
    rw [List.length_append, List.length_cons] at hn
    have e : p ++ o :: q = (p ++ [o]) ++ q := by rw [List.append_assoc]; rfl
    rw [ofF_join, join_last M l p b o ho.1 ho.2 hp (by omega), if_neg (by simp), e]
    rw [e] at hs
    exact ih (p ++ [o]) hs (fun x hx => hm x (List.mem_cons_of_mem _ hx)) (by simp only [List.length_append, List.length_cons, List.length_nil]; omega)

end Go.Proofs.YtdmlffbpcjadfaaDoor
