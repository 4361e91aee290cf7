/- Layer 20, the document's: does. -/
import Derived.Test.YtkmdajenbidaaaaDoorRGpE
namespace Go.Proofs.YtkmdajenbidaaaaDoor
open Go.RowKit
set_option maxRecDepth 100000
set_option linter.unusedSimpArgs false
set_option linter.unusedVariables false
set_option maxRecDepth 100000

/-- A group behind what a record does, and whether it counts. -/
def doesP (G : GrpT) (epoch Kd F q : Int) : GrpT × Bool :=
  if inB G.2.1 F = false then (G, false)
  else if Kd = 1 then (if 500 ≤ G.2.2 then (G, false) else ((G.1, G.2.1, G.2.2 + 1), true))
  else if F ≠ 1 ∨ epoch ≠ G.1 ∨ 1099511627775 ≤ G.1 then (G, false)
  else if Kd = 2 then (if inB G.2.1 q = true then (G, false) else ((G.1 + 1, withM G.2.1 (q - 1).toNat (q, (mmL G.2.1 (q - 1).toNat).2.1, true), G.2.2), true))
  else if Kd = 3 then (if inB G.2.1 q = false ∨ q = 1 then (G, false) else ((G.1 + 1, withM G.2.1 (q - 1).toNat (q, (mmL G.2.1 (q - 1).toNat).2.1, false), G.2.2), true))
  else ((G.1 + 1, G.2.1, G.2.2), true)

structure DoS (w W : World) (G R : Array Value) : Prop where
  g : Blk W 26 w.heap.size G
  r : Blk W 35 (w.heap.size + 1) R
  z : Blk W 26 (w.heap.size + 1 + 1) #[.int .i64 0, .slice none 0 0, .int .i64 0]
  w : Below w.heap.size w W
theorem DoS.on {w W W' : World} {G R : Array Value} (h : DoS w W G R) (hb : Below W.heap.size W W') : DoS w W' G R := ⟨h.g.on hb, h.r.on hb, h.z.on hb, below_step h.w (Nat.le_refl _) hb⟩
theorem DoS.setG {w W : World} {G R : Array Value} (h : DoS w W G R) (i : Nat) (u : Value) : DoS w (W.setCell ⟨w.heap.size, i, none⟩ u) (G.setIfInBounds i u) R :=
  ⟨h.g.setAt i u, h.r.other ⟨w.heap.size, i, none⟩ (by show w.heap.size + 1 ≠ w.heap.size; omega) u, h.z.other ⟨w.heap.size, i, none⟩ (by show w.heap.size + 1 + 1 ≠ w.heap.size; omega) u, h.w.setCell (p := ⟨w.heap.size, i, none⟩) (Nat.le_refl _) u⟩

theorem DoS.rowG {w W : World} {G R : Array Value} (h : DoS w W G R) (G' : Array Value) : DoS w (W.setRow w.heap.size G') G' R :=
  ⟨h.g.setRow G', h.r.setRowOther w.heap.size (by omega) G', h.z.setRowOther w.heap.size (by omega) G', below_setRow h.w (Nat.le_refl _) G'⟩

theorem cell_setRowO (w : World) (g : Nat) (cs : Array Value) (p : Addr) (h : p.block ≠ g) : (w.setRow g cs).cell? p = w.cell? p := by
  have e := setRow_other w g p.block cs h
  unfold World.cell?
  rw [e]

end Go.Proofs.YtkmdajenbidaaaaDoor
