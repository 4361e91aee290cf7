import Derived.Test.YtogbkfakihnbdaaGreatDoorT11
import Derived.Test.YtogbkfakihnbdaaGreatDoorTX
/- A tree of the call's own, and several (layer 11). -/
namespace Go.Proofs.YtogbkfakihnbdaaGreatDoor
open Go.RowKit
set_option linter.unusedSimpArgs false

/-- A tree all whose blocks are newer than a world. -/
structure Tr (w0 w : World) (g f m : Nat) (r : Option Nat) (T : TreeT) : Prop where
  tree : TreeIn w g f m r T
  bel : Below w0.heap.size w0 w
  new : ∀ k, tfoot g f m r k → w0.heap.size ≤ k

theorem Tr.on {w0 w w' : World} {g f m : Nat} {r : Option Nat} {T : TreeT} (h : Tr w0 w g f m r T) (hb : Below w.heap.size w w') : Tr w0 w' g f m r T :=
  ⟨h.tree.on hb, below_step h.bel (Nat.le_refl _) hb, h.new⟩

theorem tfoot_next {w : World} {g f m : Nat} {r r' : Option Nat} (hN : Nx w r r') {k : Nat} (hk : tfoot g f m r' k) : tfoot g f m r k ∨ w.heap.size ≤ k := by
  rcases hk with h | h | h | h
  · exact .inl (.inl h)
  · exact .inl (.inr (.inl h))
  · exact .inl (.inr (.inr (.inl h)))
  · rcases hN k h.symm with h' | h'
    · exact .inl (.inr (.inr (.inr h'.symm)))
    · exact .inr h'

theorem Tr.next {w0 w w' : World} {g f m : Nat} {r r' : Option Nat} {T T' : TreeT} (h : Tr w0 w g f m r T) (hT : TreeIn w' g f m r' T') (hK : KeptF (tfoot g f m r) w w') (hN : Nx w r r') : Tr w0 w' g f m r' T' :=
  ⟨hT, h.bel.trans (hK.below w0.heap.size h.bel.size h.new), fun k hk => by
    rcases tfoot_next hN hk with h' | h'
    · exact h.new k h'
    · exact Nat.le_trans h.bel.size h'⟩

/-- Another tree beside it. -/
theorem Tr.beside {w0 w w' : World} {g f m g' f' m' : Nat} {r r' : Option Nat} {T T' : TreeT} (h : Tr w0 w g f m r T) (h' : Tr w0 w g' f' m' r' T') (hK : KeptF (tfoot g f m r) w w') (hd : ∀ k, tfoot g f m r k → ¬ tfoot g' f' m' r' k) : Tr w0 w' g' f' m' r' T' :=
  ⟨h'.tree.kept hK (fun k hk hf => hd k hf hk), h.bel.trans (hK.below w0.heap.size h.bel.size h.new), h'.new⟩

/-- Rows that are newer than a tree stand behind what is done to it. -/
theorem ownN_kept {w w' : World} {F : Nat → Prop} {B : Nat} {v : Value} {N : List NodeT} (h : OwnN w B v N) (hK : KeptF F w w') (hF : ∀ k, F k → k < B) : OwnN w' B v N :=
  owns_same h (fun k hv => hK.block k (World.ownsRow.lt h k hv).2 (fun hf => by have h1 := hF k hf; have h2 := (World.ownsRow.lt h k hv).1; omega))

theorem ownO_kept {w w' : World} {F : Nat → Prop} {B : Nat} {v : Value} {N : List OpT} (h : OwnO w B v N) (hK : KeptF F w w') (hF : ∀ k, F k → k < B) : OwnO w' B v N :=
  owns_same h (fun k hv => hK.block k (World.ownsRow.lt h k hv).2 (fun hf => by have h1 := hF k hf; have h2 := (World.ownsRow.lt h k hv).1; omega))

end Go.Proofs.YtogbkfakihnbdaaGreatDoor

/- Layer 11 on plain data: operations turned about, and the other way round. -/
namespace Go.Proofs.YtogbkfakihnbdaaGreatDoor
open Go.RowKit
set_option linter.unusedSimpArgs false

theorem oL_mem (l : List OpT) (i : Nat) (h : i < l.length) : oL l i ∈ l := by
  have e : oL l i = l[i] := by unfold oL; rw [List.getD_eq_getElem?_getD, List.getElem?_eq_getElem h]; rfl
  rw [e]; exact List.getElem_mem h

abbrev T0 : TreeT := ([], [], (0, 0))

end Go.Proofs.YtogbkfakihnbdaaGreatDoor

/- Layer 11 on plain data: TreeCompacts. -/
namespace Go.Proofs.YtogbkfakihnbdaaGreatDoor
open Go.RowKit
set_option linter.unusedSimpArgs false

end Go.Proofs.YtogbkfakihnbdaaGreatDoor
