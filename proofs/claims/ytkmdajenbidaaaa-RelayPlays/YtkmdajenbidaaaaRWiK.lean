/- Layer 19, the document's: what is held while a frame, or a record, is read. -/
import Derived.Test.YtkmdajenbidaaaaWiH
import Derived.Test.YtkmdajenbidaaaaD13
namespace Go.Proofs.Ytkmdajenbidaaaa
open Go.RowKit
set_option maxRecDepth 100000
set_option linter.unusedSimpArgs false
set_option linter.unusedVariables false
set_option maxRecDepth 100000

theorem below_grownR {w w' w'' : World} {r : Option Nat} (h : Below w.heap.size w w') (g : w'.grownBy w'' r) (hr : ∀ j, r = some j → w.heap.size ≤ j) : Below w.heap.size w w'' :=
  ⟨g.os.trans h.os, g.tape.trans h.tape, g.output.trans h.output, Nat.le_trans h.size g.size, fun k hk => (g.block k (by have := h.size; omega) (fun e => by have := hr k e.symm; omega)).trans (h.block k hk)⟩

/-- The answer's cell, the frame's (the record's), what is left to read. -/
structure RfS (t : TypeId) (Z : Array Value) (w : World) (ga gf gi : Nat) (fs : Array Value) (i : ByteArray × Int) (W : World) : Prop where
  a : Blk W t ga Z
  f : Blk W t gf fs
  i : Blk W 74 gi #[.string i.1, .int .i64 i.2]
  bel : Below w.heap.size w W
  la : w.heap.size ≤ ga
  lf : ga < gf
  li : gf < gi

theorem RfS.on {t : TypeId} {Z : Array Value} {w : World} {ga gf gi : Nat} {fs : Array Value} {i : ByteArray × Int} {W W' : World} (h : RfS t Z w ga gf gi fs i W) (hb : Below W.heap.size W W') : RfS t Z w ga gf gi fs i W' :=
  ⟨h.a.on hb, h.f.on hb, h.i.on hb, below_step h.bel (Nat.le_refl _) hb, h.la, h.lf, h.li⟩

theorem RfS.setI {t : TypeId} {Z : Array Value} {w : World} {ga gf gi : Nat} {fs : Array Value} {i : ByteArray × Int} {W : World} (h : RfS t Z w ga gf gi fs i W) (i' : ByteArray × Int) : RfS t Z w ga gf gi fs i' (W.setRow gi #[.string i'.1, .int .i64 i'.2]) := by
  have h1 := h.lf
  have h2 := h.li
  have h3 := h.la
  exact ⟨h.a.setRowOther _ (by omega) _, h.f.setRowOther _ (by omega) _, h.i.setRow _, below_setRow h.bel (by omega) _, h.la, h.lf, h.li⟩

theorem RfS.setF {t : TypeId} {Z : Array Value} {w : World} {ga gf gi : Nat} {fs : Array Value} {i : ByteArray × Int} {W : World} (h : RfS t Z w ga gf gi fs i W) (j : Nat) (u : Value) : RfS t Z w ga gf gi (fs.setIfInBounds j u) i (W.setCell ⟨gf, j, none⟩ u) := by
  have h1 := h.lf
  have h2 := h.li
  have h3 := h.la
  have G := grown_set W gf j u
  exact ⟨h.a.grown G (fun e => by have := Option.some.inj e; omega), h.f.setAt j u, h.i.grown G (fun e => by have := Option.some.inj e; omega), h.bel.setCell (p := ⟨gf, j, none⟩) (by show _ ≤ gf; omega) u, h.la, h.lf, h.li⟩

theorem RfS.rowF {t : TypeId} {Z : Array Value} {w : World} {ga gf gi : Nat} {fs : Array Value} {i : ByteArray × Int} {W : World} (h : RfS t Z w ga gf gi fs i W) (N : Array Value) : RfS t Z w ga gf gi N i (W.setRow gf N) := by
  have h1 := h.lf
  have h2 := h.li
  have h3 := h.la
  exact ⟨h.a.setRowOther _ (by omega) _, h.f.setRow _, h.i.setRowOther _ (by omega) _, below_setRow h.bel (by omega) _, h.la, h.lf, h.li⟩

theorem RfS.grown {t : TypeId} {Z : Array Value} {w : World} {ga gf gi : Nat} {fs : Array Value} {i : ByteArray × Int} {W W' : World} {r : Option Nat} (h : RfS t Z w ga gf gi fs i W) (g : W.grownBy W' r) (hr : ∀ j, r = some j → gi < j) : RfS t Z w ga gf gi fs i W' := by
  have h1 := h.lf
  have h2 := h.li
  have h3 := h.la
  exact ⟨h.a.grown g (fun e => by have := hr _ e.symm; omega), h.f.grown g (fun e => by have := hr _ e.symm; omega), h.i.grown g (fun e => by have := hr _ e.symm; omega), below_grownR h.bel g (fun j hj => by have := hr j hj; omega), h.la, h.lf, h.li⟩

/-- While an item (a wrap) is read: its cell (gx); what lies between stays. -/
structure RxS (t : TypeId) (Z : Array Value) (w : World) (ga gf gi : Nat) (fs : Array Value) (i : ByteArray × Int) (wr : World) (tx : TypeId) (gx : Nat) (xs : Array Value) (W : World) : Prop where
  base : RfS t Z w ga gf gi fs i W
  x : Blk W tx gx xs
  lx : gi < gx
  keep : ∀ j, gi < j → j < gx → W.heap[j]? = wr.heap[j]?

theorem RxS.on {t : TypeId} {Z : Array Value} {w : World} {ga gf gi : Nat} {fs : Array Value} {i : ByteArray × Int} {wr : World} {tx : TypeId} {gx : Nat} {xs : Array Value} {W W' : World} (h : RxS t Z w ga gf gi fs i wr tx gx xs W) (hb : Below W.heap.size W W') : RxS t Z w ga gf gi fs i wr tx gx xs W' :=
  ⟨h.base.on hb, h.x.on hb, h.lx, fun j h1 h2 => (hb.block j (by have := h.x.lt; omega)).trans (h.keep j h1 h2)⟩

theorem RxS.setI {t : TypeId} {Z : Array Value} {w : World} {ga gf gi : Nat} {fs : Array Value} {i : ByteArray × Int} {wr : World} {tx : TypeId} {gx : Nat} {xs : Array Value} {W : World} (h : RxS t Z w ga gf gi fs i wr tx gx xs W) (i' : ByteArray × Int) : RxS t Z w ga gf gi fs i' wr tx gx xs (W.setRow gi #[.string i'.1, .int .i64 i'.2]) := by
  have hl := h.lx
  exact ⟨h.base.setI i', h.x.setRowOther _ (by omega) _, h.lx, fun j h1 h2 => by rw [setRow_other _ _ _ _ (by omega)]; exact h.keep j h1 h2⟩

theorem RxS.setX {t : TypeId} {Z : Array Value} {w : World} {ga gf gi : Nat} {fs : Array Value} {i : ByteArray × Int} {wr : World} {tx : TypeId} {gx : Nat} {xs : Array Value} {W : World} (h : RxS t Z w ga gf gi fs i wr tx gx xs W) (j : Nat) (u : Value) : RxS t Z w ga gf gi fs i wr tx gx (xs.setIfInBounds j u) (W.setCell ⟨gx, j, none⟩ u) := by
  have hl := h.lx
  have G := grown_set W gx j u
  exact ⟨h.base.grown G (fun k e => by have := Option.some.inj e; omega), h.x.setAt j u, h.lx, fun k h1 h2 => (Below.heap_setCell W ⟨gx, j, none⟩ u k (by show k ≠ gx; omega)).trans (h.keep k h1 h2)⟩

end Go.Proofs.Ytkmdajenbidaaaa
