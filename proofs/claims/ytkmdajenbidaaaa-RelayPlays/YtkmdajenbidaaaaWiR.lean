/- Layer 19: what is held while a struct is read, field by field. -/
import Derived.Test.YtkmdajenbidaaaaWiS
namespace Go.Proofs.Ytkmdajenbidaaaa
open Go.RowKit
set_option maxRecDepth 100000
set_option linter.unusedSimpArgs false
set_option linter.unusedVariables false

/-- What was read so far, the new struct's block (gb) and the answer's (ga) beside it, the variable that the closure holds. -/
structure RnG (t : TypeId) (Z : Array Value) (w0 : World) (g hc gb ga : Nat) (cs : Array Value) (i : ByteArray × Int) (W : World) : Prop where
  inn : InAt W g i
  kept : Kept2 g none w0 W
  b : Blk W t gb cs
  a : Blk W t ga Z
  cap : Blk W 96 hc #[.pointer (some ⟨g, 0, none⟩)]
  low : w0.heap.size ≤ ga
  up : ga < gb
  ng : g < ga
  nc : hc < ga
  ne : hc ≠ g

theorem RnG.step {t : TypeId} {Z : Array Value} {w0 : World} {g hc gb ga : Nat} {cs : Array Value} {i i' : ByteArray × Int} {W W' : World} (h : RnG t Z w0 g hc gb ga cs i W) (h2 : InTo W g i' W') : RnG t Z w0 g hc gb ga cs i' W' := by
  have h3 := h.ng
  have h4 := h.up
  exact ⟨h2.1, h.kept.trans h2.2 (Nx.refl _ _), h.b.kept h2.2 (by omega) (by simp), h.a.kept h2.2 (by omega) (by simp), h.cap.kept h2.2 h.ne (by simp), h.low, h.up, h.ng, h.nc, h.ne⟩

theorem RnG.set {t : TypeId} {Z : Array Value} {w0 : World} {g hc gb ga : Nat} {cs : Array Value} {i : ByteArray × Int} {W : World} (h : RnG t Z w0 g hc gb ga cs i W) (j : Nat) (u : Value) : RnG t Z w0 g hc gb ga (cs.setIfInBounds j u) i (W.setCell ⟨gb, j, none⟩ u) := by
  have h1 := h.ng
  have h2 := h.up
  have h3 := h.low
  have h4 := h.nc
  have G := grown_set W gb j u
  exact ⟨⟨h.inn.1.grown G (fun e => by have := Option.some.inj e; omega), h.inn.2⟩, h.kept.setNew ⟨gb, j, none⟩ (by show _ ≤ gb; omega) u, h.b.setAt j u, h.a.grown G (fun e => by have := Option.some.inj e; omega), h.cap.grown G (fun e => by have := Option.some.inj e; omega), h.low, h.up, h.ng, h.nc, h.ne⟩

/-- A frame, or a record, while it is read: its cell (gb), the answer's (ga), the variable's (hc), all of the call's own. -/
structure RkG (t : TypeId) (Z : Array Value) (w : World) (g hc gb ga : Nat) (cs : Array Value) (i : ByteArray × Int) (W : World) : Prop where
  inn : InAt W g i
  bel : Below w.heap.size w W
  b : Blk W t gb cs
  a : Blk W t ga Z
  cap : Blk W 96 hc #[.pointer (some ⟨g, 0, none⟩)]
  lg : w.heap.size ≤ g
  la : w.heap.size ≤ ga
  lb : w.heap.size ≤ gb
  nbg : gb ≠ g
  nag : ga ≠ g
  ncg : hc ≠ g
  nba : gb ≠ ga
  nbc : gb ≠ hc

theorem RkG.step {t : TypeId} {Z : Array Value} {w : World} {g hc gb ga : Nat} {cs : Array Value} {i i' : ByteArray × Int} {W W' : World} (h : RkG t Z w g hc gb ga cs i W) (h2 : InTo W g i' W') : RkG t Z w g hc gb ga cs i' W' :=
  ⟨h2.1, h.bel.trans (h2.2.below _ h.bel.size h.lg (fun _ k => by cases k)), h.b.kept h2.2 h.nbg (by simp), h.a.kept h2.2 h.nag (by simp), h.cap.kept h2.2 h.ncg (by simp), h.lg, h.la, h.lb, h.nbg, h.nag, h.ncg, h.nba, h.nbc⟩

theorem RkG.on {t : TypeId} {Z : Array Value} {w : World} {g hc gb ga : Nat} {cs : Array Value} {i : ByteArray × Int} {W W' : World} (h : RkG t Z w g hc gb ga cs i W) (h2 : Below W.heap.size W W') : RkG t Z w g hc gb ga cs i W' :=
  ⟨h.inn.on h2, below_step h.bel (Nat.le_refl _) h2, h.b.on h2, h.a.on h2, h.cap.on h2, h.lg, h.la, h.lb, h.nbg, h.nag, h.ncg, h.nba, h.nbc⟩

theorem RkG.set {t : TypeId} {Z : Array Value} {w : World} {g hc gb ga : Nat} {cs : Array Value} {i : ByteArray × Int} {W : World} (h : RkG t Z w g hc gb ga cs i W) (j : Nat) (u : Value) : RkG t Z w g hc gb ga (cs.setIfInBounds j u) i (W.setCell ⟨gb, j, none⟩ u) := by
  have G := grown_set W gb j u
  exact ⟨⟨h.inn.1.grown G (fun e => h.nbg (Option.some.inj e).symm), h.inn.2⟩, h.bel.setCell (p := ⟨gb, j, none⟩) h.lb u, h.b.setAt j u, h.a.grown G (fun e => h.nba (Option.some.inj e).symm), h.cap.grown G (fun e => h.nbc (Option.some.inj e).symm), h.lg, h.la, h.lb, h.nbg, h.nag, h.ncg, h.nba, h.nbc⟩

theorem number1_lt (i : ByteArray × Int) : (numberP i 1).2 < 256 := by
  unfold numberP
  split
  · show 0 < 256; decide
  · exact Nat.lt_of_lt_of_le (accB_lt i.1 1) (by decide)

end Go.Proofs.Ytkmdajenbidaaaa
