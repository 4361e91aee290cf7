import Derived.Test.YtogbkfakihnbdaaGreatDoorTX
import Derived.Test.YtogbkfakihnbdaaGreatDoorRTrT
/- Layer 11 on plain data: which nodes may be for good: the code's test and the document's are one. -/
namespace Go.Proofs.YtogbkfakihnbdaaGreatDoor
open Go.RowKit
set_option linter.unusedSimpArgs false

/-- The code's test: each parent is there, and no node stands within itself. -/
def FixC (l : List NodeT) : Prop := ∀ x ∈ l, holdB l x.2.1 = true ∧ withinF l x.1 l.length x.2.1 = false

theorem lead_within {l : List NodeT} (hs : SortN l) {id : Int × Int} : ∀ (i F : Nat) (p : Int × Int), i < F → Lead l i p id → withinF l id F p = true := by
  intro i
  induction i with
  | zero =>
    intro F p hF h
    have h : p = id := h
    cases F with
    | zero => omega
    | succ F => unfold withinF; rw [if_pos h]
  | succ i ih =>
    intro F p hF h
    obtain ⟨y, hy, e, h2⟩ := h
    cases F with
    | zero => omega
    | succ F =>
      by_cases he : p = id
      · unfold withinF; rw [if_pos he]
      · have hl := look_is hs hy
        rw [e] at hl
        rw [withinF_on he hl]
        exact ih F y.2.1 (by omega) h2

theorem lead_list {l : List NodeT} (hs : SortN l) (hC : FixC l) : ∀ (f : Nat) (p q : Int × Int), f ≤ l.length + 1 → Lead l f p q → ∃ vs : List NodeT, vs.length = f ∧ (∀ v ∈ vs, v ∈ l) ∧ vs.Nodup ∧ ∀ v ∈ vs, ∃ i, i < f ∧ Lead l i p v.1 := by
  intro f
  induction f with
  | zero => intro p q _ _; exact ⟨[], rfl, fun _ h => absurd h List.not_mem_nil, List.nodup_nil, fun _ h => absurd h List.not_mem_nil⟩
  | succ f ih =>
    intro p q hf h
    obtain ⟨x, hx, e, h2⟩ := h
    obtain ⟨vs, h1, h3, h4, h5⟩ := ih x.2.1 q (by omega) h2
    refine ⟨x :: vs, by rw [List.length_cons, h1], fun v hv => ?_, List.nodup_cons.2 ⟨fun hm => ?_, h4⟩, fun v hv => ?_⟩
    · rcases List.mem_cons.1 hv with rfl | hv
      · exact hx
      · exact h3 v hv
    · obtain ⟨i, hi, hl⟩ := h5 x hm
      have := lead_within hs i l.length x.2.1 (by omega) hl
      rw [(hC x hx).2] at this
      cases this
    · rcases List.mem_cons.1 hv with rfl | hv
      · exact ⟨0, by omega, e.symm⟩
      · obtain ⟨i, hi, hl⟩ := h5 v hv
        exact ⟨i + 1, by omega, x, hx, e, hl⟩

theorem lead_short {l : List NodeT} (hs : SortN l) (hC : FixC l) (p q : Int × Int) : ¬ Lead l (l.length + 1) p q := fun h => by
  obtain ⟨vs, h1, h2, h3, _⟩ := lead_list hs hC (l.length + 1) p q (Nat.le_refl _) h
  have := pigeon vs l h3 h2
  omega

/-- How far parents lead. -/
def depF (l : List NodeT) : Nat → Int × Int → Nat
  | 0, _ => 0
  | f + 1, p => match look l p with
    | none => 0
    | some x => depF l f x.2.1 + 1

theorem depF_on {l : List NodeT} {p : Int × Int} {x : NodeT} (f : Nat) (h : look l p = some x) : depF l (f + 1) p = depF l f x.2.1 + 1 := by
  show (match look l p with | none => 0 | some x => depF l f x.2.1 + 1) = _
  rw [h]

theorem depF_no {l : List NodeT} {p : Int × Int} (f : Nat) (h : look l p = none) : depF l (f + 1) p = 0 := by
  show (match look l p with | none => 0 | some x => depF l f x.2.1 + 1) = _
  rw [h]

theorem depF_same {l : List NodeT} : ∀ (f : Nat) (p : Int × Int), (∀ q, ¬ Lead l f p q) → depF l (f + 1) p = depF l f p := by
  intro f
  induction f with
  | zero => intro p h; exact absurd rfl (h p)
  | succ f ih =>
    intro p h
    cases hl : look l p with
    | none => rw [depF_no _ hl, depF_no _ hl]
    | some x =>
      obtain ⟨h1, h2⟩ := look_mem hl
      rw [depF_on _ hl, depF_on _ hl, ih x.2.1 (fun q hq => h q ⟨x, h1, h2, hq⟩)]

theorem fix_rooted {l : List NodeT} (hs : SortN l) (hm : ∀ x ∈ l, MayS x.1) (hC : FixC l) : Rooted l := by
  refine ⟨hs, hm, fun x hx => ?_, depF l (l.length + 1), fun x hx y hy e => ?_⟩
  · have h := (hC x hx).1
    unfold holdB at h
    cases hl : look l x.2.1 with
    | some y =>
      obtain ⟨h1, h2⟩ := look_mem hl
      exact ⟨.inl (by rw [← h2]; exact hm y h1), .inr ⟨y, h1, h2⟩⟩
    | none =>
      rw [hl] at h
      have h' : x.2.1 = (0, 0) ∨ x.2.1 = (0, 1) := by simpa using h
      rcases h' with h' | h'
      · rw [h']; exact ⟨.inr ⟨rfl, .inl rfl⟩, .inl rfl⟩
      · rw [h']; exact ⟨.inr ⟨rfl, .inr rfl⟩, .inl rfl⟩
  · have hl := look_is hs hx
    rw [e, depF_on _ hl, depF_same l.length x.2.1 (fun q hq => lead_short hs hC x.1 q ⟨x, hx, rfl, hq⟩)]
    omega

theorem look_top {l : List NodeT} (hm : ∀ x ∈ l, MayS x.1) {p : Int × Int} (h : p.1 = 0) : look l p = none := by
  rw [look_none]
  intro x hx e
  have := (hm x hx).1
  rw [e] at this
  omega

/-- The code's test and the document's are one. -/
theorem fix_same {l : List NodeT} (hs : SortN l) (hm : ∀ x ∈ l, MayS x.1) : FixC l ↔ ∀ x ∈ l, NodeQ l x := by
  constructor
  · intro hC x hx
    have hR := fix_rooted hs hm hC
    unfold NodeQ
    by_cases h0 : x.2.1.1 = 0
    · rw [if_pos h0]; exact (hR.par x hx).1
    · rw [if_neg h0]
      have hp : ∃ y ∈ l, y.1 = x.2.1 := (hR.par x hx).2.elim (fun h => absurd h h0) id
      obtain ⟨y, hy, e⟩ := hp
      have hl := look_is hs hy
      rw [e] at hl
      have hf := (find_look hs hl).1
      exact ⟨by omega, by rw [← within_under hR ⟨x, hx, rfl⟩ x.2.1]; exact (hC x hx).2⟩
  · intro hD x hx
    have h := hD x hx
    unfold NodeQ at h
    have hlen : ∃ n, l.length = n + 1 := by
      cases hln : l.length with
      | zero => rw [List.length_eq_zero_iff.1 hln] at hx; exact absurd hx List.not_mem_nil
      | succ n => exact ⟨n, rfl⟩
    obtain ⟨n, hn⟩ := hlen
    by_cases h0 : x.2.1.1 = 0
    · rw [if_pos h0] at h
      have hno := look_top hm h0
      have hne : x.2.1 ≠ x.1 := fun e => by
        have := (hm x hx).1
        rw [← e] at this
        omega
      refine ⟨?_, by rw [hn]; exact withinF_no hne hno⟩
      unfold holdB
      rw [hno]
      rcases h with h | ⟨_, h⟩
      · have := h.1; omega
      · obtain ⟨⟨i1, i2⟩, ⟨p1, p2⟩, s, t⟩ := x
        simp only at h h0 ⊢
        rcases h with rfl | rfl <;> simp [h0]
    · rw [if_neg h0] at h
      refine ⟨?_, ?_⟩
      · unfold holdB
        cases hl : look l x.2.1 with
        | none => have := find_none.2 hl; omega
        | some y => rfl
      · cases hw : withinF l x.1 l.length x.2.1 with
        | false => rfl
        | true =>
          have := within_yes hs _ _ hw 1
          rw [h.2] at this
          cases this

end Go.Proofs.YtogbkfakihnbdaaGreatDoor
