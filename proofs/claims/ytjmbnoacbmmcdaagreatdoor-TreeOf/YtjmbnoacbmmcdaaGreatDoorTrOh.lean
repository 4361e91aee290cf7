/- A tree's own snapshot makes it again, on plain data (layer 11). -/
import Derived.Test.YtjmbnoacbmmcdaaGreatDoorTrOg
namespace Go.Proofs.YtjmbnoacbmmcdaaGreatDoor
open Go.RowKit

theorem less_not {a b : Int × Int} (h : LessS a b) : ¬ LessS b a ∧ a ≠ b := by
  obtain ⟨a1, a2⟩ := a
  obtain ⟨b1, b2⟩ := b
  unfold LessS at h ⊢
  simp only at h ⊢
  refine ⟨by omega, fun e => ?_⟩
  cases e
  omega

theorem join_last (M : OpT → Bool) (l : List NodeT) (p : List OpT) (b : Int × Int) (o : OpT) (hM : M o = true) (hb : LessS b o.2.1) (hp : ∀ x ∈ p, LessS x.2.1 o.2.1) (hn : l.length + p.length ≤ 500) : joinP M (l, p, b) o = ((l, p ++ [o], b), 0) := by
  have hd : ¬ dupO o.2.1 p = true := fun h => by
    obtain ⟨x, hx, e⟩ := (dupO_iff _ _).1 h
    exact (less_not (hp x hx)).2 e
  have hput : putO o p = p ++ [o] := by
    have h := putO_past o p [] (fun x hx => (less_not (hp x hx)).1)
    rw [List.append_nil] at h
    exact h
  have hc : creO p ≤ p.length := List.countP_le_length
  unfold joinP
  rw [if_neg hd]
  unfold applyP
  rw [if_neg (fun h => h.elim (fun h => by rw [hM] at h; cases h) (fun h => h hb)), if_neg hd, if_neg (by simp only; omega)]
  simp only [hput]

/-- Operations in their order, put among none, are these. -/
theorem of_again (M : OpT → Bool) (l : List NodeT) (b : Int × Int) : ∀ (q p : List OpT), SortO (p ++ q) → (∀ o ∈ q, M o = true ∧ LessS b o.2.1) → l.length + (p ++ q).length ≤ 500 → ofF M q (l, p, b) = ((l, p ++ q, b), 0) := by
  intro q
  induction q with
  | nil => intro p _ _ _; rw [List.append_nil]; rfl
  | cons o q ih =>
    intro p hs hm hn
    have ho := hm o (List.mem_cons_self ..)
    have hp : ∀ x ∈ p, LessS x.2.1 o.2.1 := fun x hx => (List.pairwise_append.1 hs).2.2 x hx o (List.mem_cons_self ..)
    rw [List.length_append, List.length_cons] at hn
    have e : p ++ o :: q = (p ++ [o]) ++ q := by rw [List.append_assoc]; rfl
    rw [ofF_join, join_last M l p b o ho.1 ho.2 hp (by omega), if_neg (by simp), e]
    rw [e] at hs
    exact ih (p ++ [o]) hs (fun x hx => hm x (List.mem_cons_of_mem _ hx)) (by simp only [List.length_append, List.length_cons, List.length_nil]; omega)

theorem join_inv (M : OpT → Bool) (t : TreeT) (o : OpT) (h : (joinP M t o).2 = 0) : (joinP M t o).1 = (t.1, putO o t.2.1, t.2.2) ∧ M o = true ∧ LessS t.2.2 o.2.1 := by
  unfold joinP at h ⊢
  by_cases hd : dupO o.2.1 t.2.1 = true
  · rw [if_pos hd] at h; cases h
  · rw [if_neg hd] at h ⊢
    unfold applyP at h ⊢
    by_cases h1 : M o = false ∨ ¬ LessS t.2.2 o.2.1
    · rw [if_pos h1] at h; cases h
    · rw [if_neg h1, if_neg hd] at h ⊢
      by_cases h2 : 512 ≤ t.2.1.length ∨ (o.1 = 1 ∧ 512 ≤ t.1.length + creO t.2.1)
      · rw [if_pos h2] at h; cases h
      · rw [if_neg h2]
        refine ⟨rfl, ?_, Classical.byContradiction fun h => h1 (.inr h)⟩
        cases hm : M o with
        | true => rfl
        | false => exact absurd (.inl hm) h1

/-- What a tree made of operations keeps. -/
theorem of_inv (M : OpT → Bool) : ∀ (q : List OpT) (t T : TreeT), ofF M q t = (T, 0) → (∀ o ∈ t.2.1, M o = true ∧ LessS t.2.2 o.2.1) → T.1 = t.1 ∧ T.2.2 = t.2.2 ∧ T.2.1.length = t.2.1.length + q.length ∧ ∀ o ∈ T.2.1, M o = true ∧ LessS t.2.2 o.2.1 := by
  intro q
  induction q with
  | nil =>
    intro t T h hm
    obtain rfl : t = T := congrArg Prod.fst h
    exact ⟨rfl, rfl, rfl, hm⟩
  | cons o q ih =>
    intro t T h hm
    rw [ofF_join] at h
    by_cases h0 : (joinP M t o).2 = 0
    · rw [if_neg (by simp [h0])] at h
      obtain ⟨hj, h1, h2⟩ := join_inv M t o h0
      rw [hj] at h
      obtain ⟨k1, k2, k3, k4⟩ := ih _ _ h (fun x hx => by
        rcases (putO_mem o t.2.1 x).1 hx with rfl | hx
        · exact ⟨h1, h2⟩
        · exact hm x hx)
      refine ⟨k1, k2, ?_, k4⟩
      rw [k3]
      simp only [putO_lenT, List.length_cons]
      omega
    · rw [if_pos h0] at h
      exact absurd (congrArg Prod.snd h) h0

/-- The snapshot of a tree that came of one makes it again. -/
theorem of_twice (M : OpT → Bool) (l : List NodeT) (ops : List OpT) (b : Int × Int) (T : TreeT) (h : ofF M ops (l, [], b) = (T, 0)) (hs : SortO T.2.1) (hn : l.length + ops.length ≤ 500) : ofF M T.2.1 (T.1, [], T.2.2) = (T, 0) := by
  obtain ⟨h1, h2, h3, h4⟩ := of_inv M ops _ T h (fun _ h => absurd h List.not_mem_nil)
  obtain ⟨x, y, z⟩ := T
  simp only at h1 h2 h3 h4 hs ⊢
  subst h1 h2
  rw [of_again M x z y [] hs h4 (by rw [List.nil_append, h3]; simpa using hn)]
  rfl
end Go.Proofs.YtjmbnoacbmmcdaaGreatDoor
