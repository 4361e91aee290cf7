/- Layer 19, the document's: what is held while a frame, or a record, is put. -/
import Derived.Test.YtkmdajenbidaaaaWiS
import Derived.Test.YtkmdajenbidaaaaD13
namespace Go.Proofs.Ytkmdajenbidaaaa
open Go.RowKit
set_option maxRecDepth 100000
set_option linter.unusedSimpArgs false
set_option linter.unusedVariables false

/-- The frame's (the record's) cell, and what is written to. -/
structure PtS (t : TypeId) (w : World) (h g : Nat) (fs : Array Value) (o : ByteArray × Bool) (W : World) : Prop where
  f : Blk W t h fs
  o : Blk W 55 g #[.string o.1, .bool o.2]
  bel : Below w.heap.size w W
  lf : w.heap.size ≤ h
  lo : h < g

theorem PtS.on {t : TypeId} {w : World} {h g : Nat} {fs : Array Value} {o : ByteArray × Bool} {W W' : World} (k : PtS t w h g fs o W) (hb : Below W.heap.size W W') : PtS t w h g fs o W' :=
  ⟨k.f.on hb, k.o.on hb, below_step k.bel (Nat.le_refl _) hb, k.lf, k.lo⟩

theorem PtS.setO {t : TypeId} {w : World} {h g : Nat} {fs : Array Value} {o : ByteArray × Bool} {W : World} (k : PtS t w h g fs o W) (o' : ByteArray × Bool) : PtS t w h g fs o' (W.setRow g #[.string o'.1, .bool o'.2]) := by
  have h1 := k.lf
  have h2 := k.lo
  exact ⟨k.f.setRowOther _ (by omega) _, k.o.setRow _, below_setRow k.bel (by omega) _, k.lf, k.lo⟩

theorem layP_sizeO {o : ByteArray × Bool} {T : ByteArray} {b : Bool} {p : ByteArray × Bool} (h : o.1.size ≤ 65536) (e : layP o T b = p) : p.1.size ≤ 65536 := by
  rw [← e]; exact layP_sizeW o T b h

theorem textP_sizeO {o : ByteArray × Bool} {s : ByteArray} {p : ByteArray × Bool} (h : o.1.size ≤ 65536) (e : textP o s = p) : p.1.size ≤ 65536 := by
  rw [← e]; exact textP_size o s h

end Go.Proofs.Ytkmdajenbidaaaa
