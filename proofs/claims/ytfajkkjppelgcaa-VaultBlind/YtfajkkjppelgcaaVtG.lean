/- Two ideal sealers side by side (layer 16). -/
import Derived.Test.YtfajkkjppelgcaaVtF
namespace Go.Proofs.Ytfajkkjppelgcaa
open Go.RowKit
set_option maxRecDepth 100000
set_option linter.unusedSimpArgs false
set_option linter.unusedSectionVars false
variable [Inhabited TabZ]

/-- What one of two ideal sealers does leaves the other one. -/
theorem SlrAt.beside {w w' : World} {g i m g' i' m' N N' : Nat} {S S' : ByteArray} {T T' : List (ByteArray × Value)} (h : SlrAt w g i m S N T) (h' : SlrAt w g' i' m' S' N' T') (k : Kept2 i' (some m') w w') (hne : i ≠ i') (hnm : m ≠ m') : SlrAt w' g i m S N T := by
  have hi := h.2.1
  have hi' := h'.2.1
  refine h.kept k (fun e => ?_) (fun e => ?_) hne (fun e => ?_) (fun e => ?_) hnm
  · have := h.1; unfold Blk at this hi'; rw [e, hi'] at this; exact absurd this (by simp [SlrV])
  · have := h.1; unfold Blk at this; obtain ⟨es, cl, h2, _⟩ := h'.2.2; rw [e, h2] at this; cases this
  · unfold Blk at hi; obtain ⟨es, cl, h2, _⟩ := h'.2.2; rw [e, h2] at hi; cases hi
  · unfold Blk at hi'; obtain ⟨es, cl, h2, _⟩ := h.2.2; rw [← e, h2] at hi'; cases hi'

/-- Two sealers of one seed, newer than w. -/
structure Two (w w' : World) (g i m g2 i2 m2 N N2 : Nat) (S : ByteArray) (T T2 : List (ByteArray × Value)) : Prop where
  one : SlrAt w' g i m S N T
  two : SlrAt w' g2 i2 m2 S N2 T2
  bel : Below w.heap.size w w'
  lo : w.heap.size ≤ i ∧ w.heap.size ≤ m
  lo2 : w.heap.size ≤ i2 ∧ w.heap.size ≤ m2
  ne : i ≠ i2
  nm : m ≠ m2

theorem Two.first {w w1 w2 : World} {g i m g2 i2 m2 N N2 N' : Nat} {S : ByteArray} {T T2 T' : List (ByteArray × Value)} (h : Two w w1 g i m g2 i2 m2 N N2 S T T2) (h1 : SlrAt w2 g i m S N' T') (k : Kept2 i (some m) w1 w2) : Two w w2 g i m g2 i2 m2 N' N2 S T' T2 :=
  ⟨h1, h.two.beside h.one k (fun e => h.ne e.symm) (fun e => h.nm e.symm), h.bel.trans (k.below w.heap.size h.bel.size h.lo.1 (fun x hx => by cases hx; exact h.lo.2)), h.lo, h.lo2, h.ne, h.nm⟩

theorem Two.second {w w1 w2 : World} {g i m g2 i2 m2 N N2 N' : Nat} {S : ByteArray} {T T2 T' : List (ByteArray × Value)} (h : Two w w1 g i m g2 i2 m2 N N2 S T T2) (h1 : SlrAt w2 g2 i2 m2 S N' T') (k : Kept2 i2 (some m2) w1 w2) : Two w w2 g i m g2 i2 m2 N N' S T T' :=
  ⟨h.one.beside h.two k h.ne h.nm, h1, h.bel.trans (k.below w.heap.size h.bel.size h.lo2.1 (fun x hx => by cases hx; exact h.lo2.2)), h.lo, h.lo2, h.ne, h.nm⟩

theorem Two.on {w w1 w2 : World} {g i m g2 i2 m2 N N2 : Nat} {S : ByteArray} {T T2 : List (ByteArray × Value)} (h : Two w w1 g i m g2 i2 m2 N N2 S T T2) (hb : Below w1.heap.size w1 w2) : Two w w2 g i m g2 i2 m2 N N2 S T T2 :=
  ⟨h.one.on hb, h.two.on hb, below_step h.bel (Nat.le_refl _) hb, h.lo, h.lo2, h.ne, h.nm⟩

/-- Two new ones. -/
theorem Two.made {w w1 w2 : World} {g i t g2 i2 t2 : Nat} {S : ByteArray} (h1 : SlrAt w1 g i t S 0 []) (l1 : w.heap.size ≤ g ∧ w.heap.size ≤ i ∧ w.heap.size ≤ t) (hb1 : Below w.heap.size w w1) (h2 : SlrAt w2 g2 i2 t2 S 0 []) (l2 : w1.heap.size ≤ g2 ∧ w1.heap.size ≤ i2 ∧ w1.heap.size ≤ t2) (hb2 : Below w1.heap.size w1 w2) : Two w w2 g i t g2 i2 t2 0 0 S [] [] := by
  have hl := h1.2.lt
  have hs := hb1.size
  exact ⟨h1.on hb2, h2, below_step hb1 (Nat.le_refl _) hb2, ⟨l1.2.1, l1.2.2⟩, ⟨by omega, by omega⟩, by omega, by omega⟩

end Go.Proofs.Ytfajkkjppelgcaa
