/- Layer 18, plain: one step of StoreBefore. -/
import Derived.Test.YtaakmcihpdbilaaDoorStD
namespace Go.Proofs.YtaakmcihpdbilaaDoor
open Go.RowKit
set_option maxRecDepth 100000
set_option linter.unusedSimpArgs false
set_option maxRecDepth 100000

theorem wrsF_two (S : ByteArray) (p : Nat) : ∀ f i D, (wrsF S p f i D).2 = 0 ∨ (wrsF S p f i D).2 = 170
  | 0, _, _ => .inl rfl
  | f + 1, i, D => by
    show (if _ = _ then _ else _ : DevT × Int).2 = 0 ∨ (if _ = _ then _ else _ : DevT × Int).2 = 170
    split
    · exact wrsF_two S p f (i + 1) _
    · exact writeB_two _ _ _
theorem writesP_two (D : DevT) (turn m : Nat) (s : ByteArray) : (writesP D turn m s).2 = 0 ∨ (writesP D turn m s).2 = 170 := by
  unfold writesP
  simp only
  split
  · exact writeB_two _ _ _
  · exact wrsF_two _ _ _ _ _
theorem add_three (D : DevT) (X : StoT) (t : ByteArray) : (addP D X t).2.2 = 0 ∨ (addP D X t).2.2 = 2 ∨ (addP D X t).2.2 = 170 := by
  unfold addP
  split
  · exact .inr (.inl rfl)
  · simp only
    split
    · exact .inl rfl
    · next h0 =>
      rcases writesP_two D X.2.2.1.toNat (X.2.2.2.size / 64) (X.2.2.2 ++ txB t) with h | h
      · exact absurd h h0
      · exact .inr (.inr h)
theorem lay_three (D : DevT) (X : StoT) (t : ByteArray) : (layS D X t).2.2 = 0 ∨ (layS D X t).2.2 = 2 ∨ (layS D X t).2.2 = 170 := by
  unfold layS
  split
  · exact .inr (.inl rfl)
  · simp only
    split
    · exact .inl rfl
    · next h0 =>
      rcases writesP_two D (X.2.2.1 + 1).toNat 0 (txB t) with h | h
      · exact absurd h h0
      · exact .inr (.inr h)

/-- A device of 40 blocks at round k of StoreBefore, and its store. -/
structure BeP (c : Int) (k : Nat) (D : DevT) (X : StoT) : Prop where
  d : DvO 40 c D
  m : StM 40 X
  f : ∃ wh, Fresh D.1 X wh
  t : X.2.2.1 ≤ (k : Int) + 1
theorem BeP.fuse {c : Int} {k : Nat} {D : DevT} {X : StoT} (h : BeP c k D X) (q : Int) (h0 : 0 ≤ q) (h1 : q ≤ 7) : BeP c k (fuseB D q) X :=
  ⟨⟨h.d.len, h.d.n0, h.d.n1, by show -1 ≤ max q (-1); omega, by show max q (-1) ≤ _; omega⟩, h.m, h.f, h.t⟩
theorem BeP.on {c : Int} {k : Nat} {D : DevT} {X : StoT} (h : BeP c k D X) : BeP c k (onB D) X :=
  ⟨⟨h.d.len, h.d.n0, h.d.n1, by show (-1 : Int) ≤ -1; omega, by show (-1 : Int) ≤ _; omega⟩, h.m, h.f, h.t⟩
theorem BeP.open {c : Int} {k : Nat} {D : DevT} {X : StoT} (h : BeP c k D X) : openP D.1 = X := by
  obtain ⟨wh, F⟩ := h.f
  exact F.open
theorem BeP.add {c : Int} {k : Nat} {D : DevT} {X : StoT} (h : BeP c k D X) (t : ByteArray) :
    BeP (c + 1024) (k + 1) (addP D X t).1 (addP D X t).2.1 ∧ ((addP D X t).2.2 = 0 → (addP D X t).2.1.1 = X.1 ∧ (addP D X t).2.1.2.1 = X.2.1 ++ [t] ∧ (addP D X t).2.1.2.2.1 = X.2.2.1) ∧ (¬ (addP D X t).2.2 = 0 → (addP D X t).2.1 = X) := by
  obtain ⟨wh, F⟩ := h.f
  obtain ⟨b1, b2⟩ := before_add D X t wh F
  have hm := stM_add D X t (by rw [h.d.len]; exact h.m)
  rw [h.d.len] at hm
  have ht := h.t
  by_cases h0 : (addP D X t).2.2 = 0
  · obtain ⟨e, F'⟩ := b1 h0
    exact ⟨⟨h.d.add X t (by decide), hm, ⟨wh, F'⟩, by rw [e]; show X.2.2.1 ≤ _; omega⟩, fun _ => by rw [e]; exact ⟨rfl, rfl, rfl⟩, fun hn => absurd h0 hn⟩
  · obtain ⟨e, F'⟩ := b2 h0
    exact ⟨⟨h.d.add X t (by decide), hm, ⟨wh, by rw [e]; exact F'⟩, by rw [e]; omega⟩, fun hz => absurd hz h0, fun _ => e⟩
theorem BeP.lay {c : Int} {k : Nat} {D : DevT} {X : StoT} (h : BeP c k D X) (t : ByteArray) :
    BeP (c + 1024) (k + 1) (layS D X t).1 (layS D X t).2.1 ∧ ((layS D X t).2.2 = 0 → (layS D X t).2.1.1 = t ∧ (layS D X t).2.1.2.1 = [] ∧ (layS D X t).2.1.2.2.1 = X.2.2.1 + 1) ∧ (¬ (layS D X t).2.2 = 0 → (layS D X t).2.1 = X) := by
  obtain ⟨wh, F⟩ := h.f
  obtain ⟨b1, b2⟩ := before_lay D X t wh F
  have hm := stM_lay D X t (by rw [h.d.len]; exact h.m)
  rw [h.d.len] at hm
  have ht := h.t
  by_cases h0 : (layS D X t).2.2 = 0
  · obtain ⟨e, F'⟩ := b1 h0
    exact ⟨⟨h.d.lay X t (by decide), hm, ⟨_, F'⟩, by rw [e]; show X.2.2.1 + 1 ≤ _; omega⟩, fun _ => by rw [e]; exact ⟨rfl, rfl, rfl⟩, fun hn => absurd h0 hn⟩
  · obtain ⟨e, F'⟩ := b2 h0
    exact ⟨⟨h.d.lay X t (by decide), hm, ⟨wh, by rw [e]; exact F'⟩, by rw [e]; omega⟩, fun hz => absurd hz h0, fun _ => e⟩

end Go.Proofs.YtaakmcihpdbilaaDoor
