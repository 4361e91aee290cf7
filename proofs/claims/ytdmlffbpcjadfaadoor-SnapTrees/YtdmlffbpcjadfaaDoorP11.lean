import Derived.Test.YtdmlffbpcjadfaaDoorT11
import Derived.Test.YtdmlffbpcjadfaaDoorTX
/- A tree of the call's own, and several (layer 11). -/
namespace Go.Proofs.YtdmlffbpcjadfaaDoor
open Go.RowKit
set_option linter.unusedSimpArgs false

/-- A tree all whose blocks are newer than a world. -/
structure Tr (w0 w : World) (g f m : Nat) (r : Option Nat) (T : TreeT) : Prop where
  tree : TreeIn w g f m r T
  bel : Below w0.heap.size w0 w
  new : ∀ k, tfoot g f m r k → w0.heap.size ≤ k

theorem Tr.on {w0 w w' : World} {g f m : Nat} {r : Option Nat} {T : TreeT} (h : Tr w0 w g f m r T) (hb : Below w.heap.size w w') : Tr w0 w' g f m r T :=
  ⟨h.tree.on hb, below_step h.bel (Nat.le_refl _) hb, h.new⟩

theorem tfoot_next {w : World} {g f m : Nat} {r r' : Option Nat} (hN : Nx w r r') {k : Nat} (hk : tfoot g f m r' k) : tfoot g f m r k ∨ w.heap.size ≤ k := by
  rcases hk with h | h | h | h
  · exact .inl (.inl h)
  · exact .inl (.inr (.inl h))
  · exact .inl (.inr (.inr (.inl h)))
  · rcases hN k h.symm with h' | h'
    · exact .inl (.inr (.inr (.inr h'.symm)))
    · exact .inr h'

theorem Tr.next {w0 w w' : World} {g f m : Nat} {r r' : Option Nat} {T T' : TreeT} (h : Tr w0 w g f m r T) (hT : TreeIn w' g f m r' T') (hK : KeptF (tfoot g f m r) w w') (hN : Nx w r r') : Tr w0 w' g f m r' T' :=
  ⟨hT, h.bel.trans (hK.below w0.heap.size h.bel.size h.new), fun k hk => by
    rcases tfoot_next hN hk with h' | h'
    · exact h.new k h'
    · exact Nat.le_trans h.bel.size h'⟩

/-- Another tree beside it. -/
theorem Tr.beside {w0 w w' : World} {g f m g' f' m' : Nat} {r r' : Option Nat} {T T' : TreeT} (h : Tr w0 w g f m r T) (h' : Tr w0 w g' f' m' r' T') (hK : KeptF (tfoot g f m r) w w') (hd : ∀ k, tfoot g f m r k → ¬ tfoot g' f' m' r' k) : Tr w0 w' g' f' m' r' T' :=
  ⟨h'.tree.kept hK (fun k hk hf => hd k hf hk), h.bel.trans (hK.below w0.heap.size h.bel.size h.new), h'.new⟩

end Go.Proofs.YtdmlffbpcjadfaaDoor

/- Layer 11 on plain data: operations turned about, and the other way round. -/
namespace Go.Proofs.YtdmlffbpcjadfaaDoor
open Go.RowKit
set_option linter.unusedSimpArgs false

theorem oL_mem (l : List OpT) (i : Nat) (h : i < l.length) : oL l i ∈ l := by
  have e : oL l i = l[i] := by unfold oL; rw [List.getD_eq_getElem?_getD, List.getElem?_eq_getElem h]; rfl
  rw [e]; exact List.getElem_mem h

theorem mem_oL (l : List OpT) (x : OpT) (h : x ∈ l) : ∃ i, i < l.length ∧ x = oL l i := by
  obtain ⟨i, hi, rfl⟩ := List.getElem_of_mem h
  exact ⟨i, hi, by unfold oL; rw [List.getD_eq_getElem?_getD, List.getElem?_eq_getElem hi]; rfl⟩

theorem take_oL (l : List OpT) (k : Nat) (h : k < l.length) : l.take (k + 1) = l.take k ++ [oL l k] := by
  have e : oL l k = l[k] := by unfold oL; rw [List.getD_eq_getElem?_getD, List.getElem?_eq_getElem h]; rfl
  rw [e]; exact List.take_succ_eq_append_getElem h

abbrev T0 : TreeT := ([], [], (0, 0))

theorem play_len (M : OpT → Bool) (l : List OpT) (h : l.length ≤ 512) : (playP M T0 l).1.length + (playP M T0 l).2.1.length ≤ 512 := by
  have s := stands_play M [] (0, 0) l (by simpa using h)
  have h1 := s.fx
  have h2 := s.len
  have h3 : (playP M ([], [], (0, 0)) l).1.length = 0 := by rw [h1]; rfl
  show (playP M ([], [], (0, 0)) l).1.length + (playP M ([], [], (0, 0)) l).2.1.length ≤ _
  omega

end Go.Proofs.YtdmlffbpcjadfaaDoor

/- Layer 11 on plain data: TreeCompacts. -/
namespace Go.Proofs.YtdmlffbpcjadfaaDoor
open Go.RowKit
set_option linter.unusedSimpArgs false

theorem take_pos (s : Int × Int) (l : List OpT) : ∀ x ∈ l.take (posO s l), ¬ LessS s x.2.1 := by
  induction l with
  | nil => intro x hx; rw [List.take_nil] at hx; exact absurd hx List.not_mem_nil
  | cons y l ih =>
    intro x hx
    rw [posO_cons] at hx
    by_cases h : LessS s y.2.1
    · rw [if_pos h, List.take_zero] at hx; exact absurd hx List.not_mem_nil
    · rw [if_neg h, List.take_succ_cons] at hx
      rcases List.mem_cons.1 hx with rfl | hx
      · exact h
      · exact ih x hx

end Go.Proofs.YtdmlffbpcjadfaaDoor
