/- Layer 11 on plain data: no ring, whatever is done; parents lead up in fewer steps than there are nodes. -/
import Derived.Test.YtaomhhooipfjbaaDoorTrE
namespace Go.Proofs.YtaomhhooipfjbaaDoor
open Go.RowKit
set_option linter.unusedSimpArgs false

theorem thereP_is {l : List NodeT} {p : Int × Int} (h : thereP l p = true) : p.1 = 0 ∨ ∃ y ∈ l, y.1 = p := by
  unfold thereP at h
  by_cases h0 : p.1 = 0
  · exact .inl h0
  · rw [if_neg h0] at h
    have h1 : 0 ≤ findI l p := by simpa using h
    obtain ⟨h2, h3⟩ := findI_is (l := l) (id := p) (by omega)
    exact .inr ⟨_, h2, h3⟩

/-- FROM EACH NODE parents lead to the root, or to the trash: an operation keeps that. -/
theorem rooted_do {l : List NodeT} (h : Rooted l) {o : OpT} (hm : MayO o) : Rooted (doP l o) := by
  obtain ⟨hAt, hNo, hk⟩ := hm
  unfold doP
  simp only [withP_R]
  by_cases k1 : o.1 = 1
  · rw [if_pos k1]
    by_cases hf : 0 ≤ findI l o.2.2.1
    · rw [if_pos hf]; exact h
    · rw [if_neg hf]
      by_cases ht : thereP l (parO o) = true
      · rw [if_pos ht]
        have hp : parO o = o.2.2.2.1 := by unfold parO; rw [if_neg (by omega)]
        have hpar : ParS (parO o) := by
          rw [hp]
          rcases hk with ⟨_, _, h3, _⟩ | ⟨h1, _⟩ | ⟨h1, _⟩ | ⟨h1, _⟩ | ⟨h1, _⟩
          · exact h3
          all_goals omega
        exact rooted_new h hNo (findI_no (l := l) (id := o.2.2.1) (by omega)) ⟨hpar, thereP_is ht⟩
      · rw [if_neg ht]; exact h
  · rw [if_neg k1]
    by_cases hf : findI l o.2.2.1 < 0
    · rw [if_pos hf]; exact h
    · rw [if_neg hf]
      obtain ⟨hx, hid⟩ := findI_is hf
      by_cases k3 : o.1 = 3
      · rw [if_pos k3]
        exact rooted_with h hx rfl (h.par (nL l (findI l o.2.2.1).toNat) hx) (.inl rfl)
      · rw [if_neg k3]
        by_cases k4 : o.1 = 4
        · rw [if_pos k4]
          exact rooted_with h hx rfl (h.par (nL l (findI l o.2.2.1).toNat) hx) (.inl rfl)
        · rw [if_neg k4]
          by_cases ht : thereP l (parO o) = true
          · rw [if_pos ht]
            by_cases hu : underF l o.2.2.1 (l.length + 1) (parO o) = true
            · rw [if_pos hu]; exact h
            · rw [if_neg hu]
              have hpar : ParS (parO o) := by
                unfold parO
                rcases hk with ⟨h1, _⟩ | ⟨h1, h2, _⟩ | ⟨h1, _⟩ | ⟨h1, _⟩ | ⟨h1, _⟩
                · omega
                · rw [if_neg (by omega)]; exact h2
                · omega
                · omega
                · rw [if_pos h1]; exact .inr ⟨rfl, .inr rfl⟩
              refine rooted_with h hx rfl ⟨hpar, thereP_is ht⟩ (.inr ?_)
              show Off l (nL l (findI l o.2.2.1).toNat).1 (parO o)
              rw [hid]
              exact off_of _ _ (by simpa using hu)
          · rw [if_neg ht]; exact h

theorem rooted_nodes {l : List NodeT} (h : Rooted l) (ops : List OpT) (hm : ∀ o ∈ ops, MayO o) : Rooted (nodesP l ops) := by
  unfold nodesP
  induction ops generalizing l with
  | nil => exact h
  | cons o ops ih =>
    rw [List.foldl_cons]
    exact ih (rooted_do h (hm o (List.mem_cons_self ..))) (fun x hx => hm x (List.mem_cons_of_mem _ hx))

/-- As many as fit. -/
theorem pigeon {α : Type} : ∀ (vs l : List α), vs.Nodup → (∀ v ∈ vs, v ∈ l) → vs.length ≤ l.length := by
  intro vs
  induction vs with
  | nil => intro l _ _; exact Nat.zero_le _
  | cons v vs ih =>
    intro l hn hs
    rw [List.nodup_cons] at hn
    obtain ⟨a, b, rfl⟩ := List.append_of_mem (hs v (List.mem_cons_self ..))
    have := ih (a ++ b) hn.2 (fun u hu => by
      have h1 := hs u (List.mem_cons_of_mem _ hu)
      rw [List.mem_append, List.mem_cons] at h1
      rw [List.mem_append]
      rcases h1 with h1 | rfl | h1
      · exact .inl h1
      · exact absurd hu hn.1
      · exact .inr h1)
    rw [List.length_append] at this
    rw [List.length_cons, List.length_append, List.length_cons]
    omega

/-- The node that parents lead to in so many steps. -/
def Up (l : List NodeT) (x : NodeT) : Nat → NodeT → Prop
  | 0, z => z = x
  | k + 1, z => ∃ y, Up l x k y ∧ z ∈ l ∧ z.1 = y.2.1

theorem up_few {l : List NodeT} (h : Rooted l) {x z : NodeT} (hx : x ∈ l) {k : Nat} (hu : Up l x k z) : k < l.length := by
  obtain ⟨rk, hrk⟩ := h.rank
  have key : ∃ vs : List NodeT, vs.length = k + 1 ∧ vs.Nodup ∧ (∀ v ∈ vs, v ∈ l) ∧ z ∈ vs ∧ ∀ v ∈ vs, rk z.1 ≤ rk v.1 := by
    induction k generalizing z with
    | zero =>
      have hu : z = x := hu
      subst hu
      exact ⟨[z], rfl, by simp, fun v hv => by rw [List.mem_singleton.1 hv]; exact hx, List.mem_singleton.2 rfl, fun v hv => by rw [List.mem_singleton.1 hv]; exact Nat.le_refl _⟩
    | succ k ih =>
      obtain ⟨y, hu, hz, e⟩ := hu
      obtain ⟨vs, h1, h2, h3, h4, h5⟩ := ih hu
      have hlt := hrk y (h3 y h4) z hz e
      refine ⟨z :: vs, by rw [List.length_cons, h1], List.nodup_cons.2 ⟨fun hm => ?_, h2⟩, fun v hv => ?_, List.mem_cons_self .., fun v hv => ?_⟩
      · have := h5 z hm; omega
      · rcases List.mem_cons.1 hv with rfl | hv
        · exact hz
        · exact h3 v hv
      · rcases List.mem_cons.1 hv with rfl | hv
        · exact Nat.le_refl _
        · have := h5 v hv; omega
  obtain ⟨vs, h1, h2, h3, _⟩ := key
  have := pigeon vs l h2 h3
  omega

end Go.Proofs.YtaomhhooipfjbaaDoor
