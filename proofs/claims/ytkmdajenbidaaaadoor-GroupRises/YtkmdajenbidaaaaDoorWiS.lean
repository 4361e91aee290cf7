/- Layer 19: what is held while parts are written and read. -/
import Derived.Test.YtkmdajenbidaaaaDoorWiP
import Derived.Test.YtkmdajenbidaaaaDoorS13
namespace Go.Proofs.YtkmdajenbidaaaaDoor
open Go.RowKit
set_option maxRecDepth 100000
set_option linter.unusedSimpArgs false
set_option linter.unusedVariables false

theorem writeA_app19 (st : ByteArray × Bool) (l m : List (Int × Int × Int × ByteArray)) : writeA st (l ++ m) = writeA (writeA st l) m := by
  unfold writeA; rw [List.foldl_append]

/-- What Put writes to, and the variable that its closures hold. -/
structure PutS (w0 : World) (g hc : Nat) (v : Value) (st : ByteArray × Bool) (W : World) : Prop where
  out : OutAt W g v st
  cap : Blk W 65 hc #[.pointer (some ⟨g, 0, none⟩)]
  bel : Below w0.heap.size w0 W
  lg : w0.heap.size ≤ g
  lh : w0.heap.size ≤ hc
  lv : ∀ k, v.ownBlock = some k → w0.heap.size ≤ k
  ne : hc ≠ g
  nv : some hc ≠ v.ownBlock

theorem PutS.on {w0 : World} {g hc : Nat} {v : Value} {st : ByteArray × Bool} {W W' : World} (h : PutS w0 g hc v st W) (hb : Below W.heap.size W W') : PutS w0 g hc v st W' :=
  ⟨h.out.on hb, h.cap.on hb, below_step h.bel (Nat.le_refl _) hb, h.lg, h.lh, h.lv, h.ne, h.nv⟩

theorem PutS.step {w0 : World} {g hc : Nat} {v : Value} {st st' : ByteArray × Bool} {W W' : World} (h : PutS w0 g hc v st W) (h2 : OutTo W g v st' W') : ∃ v', PutS w0 g hc v' st' W' := by
  obtain ⟨v', k1, k2, k3⟩ := h2
  refine ⟨v', k1, h.cap.kept k2 h.ne h.nv, h.bel.trans (k2.below _ h.bel.size h.lg h.lv), h.lg, h.lh, fun k hk => ?_, h.ne, k3.ne h.cap.lt h.nv⟩
  rcases k3 k hk with e | e
  · exact h.lv k e
  · have := h.bel.size; omega

/-- What readList holds: what is read of, the closure's variable. -/
structure RlS (w : World) (g hc : Nat) (i : ByteArray × Int) (W : World) : Prop where
  inn : InAt W g i
  cap : Blk W 70 hc #[.pointer (some ⟨g, 0, none⟩)]
  kept : Kept2 g none w W
  lg : g < w.heap.size
  lc : hc < w.heap.size
  ne : hc ≠ g

theorem RlS.step {w : World} {g hc : Nat} {i i' : ByteArray × Int} {W W' : World} (h : RlS w g hc i W) (h2 : InTo W g i' W') : RlS w g hc i' W' :=
  ⟨h2.1, h.cap.kept h2.2 h.ne (by simp), h.kept.trans h2.2 (Nx.refl _ _), h.lg, h.lc, h.ne⟩

theorem RlS.on {w : World} {g hc : Nat} {i : ByteArray × Int} {W W' : World} (h : RlS w g hc i W) (hb : Below W.heap.size W W') : RlS w g hc i W' :=
  ⟨h.inn.on hb, h.cap.on hb, h.kept.on hb, h.lg, h.lc, h.ne⟩

/-- A row of the call's own grows. -/
theorem RlS.grow {w : World} {g hc : Nat} {i : ByteArray × Int} {W W' : World} {r : Option Nat} (h : RlS w g hc i W) (k : W.grownBy W' r) (hr : ∀ j, r = some j → w.heap.size ≤ j) : RlS w g hc i W' := by
  have h1 := h.lg
  have h2 := h.lc
  refine ⟨⟨h.inn.1.grown k (fun e => by have := hr _ e.symm; omega), h.inn.2⟩, h.cap.grown k (fun e => by have := hr _ e.symm; omega), ⟨k.os.trans h.kept.os, k.tape.trans h.kept.tape, k.output.trans h.kept.output, Nat.le_trans h.kept.size k.size, fun j hj hg hn => ?_⟩, h.lg, h.lc, h.ne⟩
  have hsz := h.kept.size
  rw [k.block j (by omega) (fun e => by have := hr j e.symm; omega)]
  exact h.kept.block j hj hg hn

theorem own_kept2 {w w' : World} {B g c n : Nat} {e : TypeId} {v : Value} {xs : List Value} (h : w.ownsRow B e c v n xs) (k : Kept2 g none w w') (hg : g < B) : w'.ownsRow B e c v n xs :=
  owns_same h (fun j hj => k.block j (World.ownsRow.lt h j hj).2 (by have := (World.ownsRow.lt h j hj).1; omega) (by simp))

end Go.Proofs.YtkmdajenbidaaaaDoor
