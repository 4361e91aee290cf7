import Derived.Test.YtabhkebkbidfhaaGreatDoorRGpE
/- Layer 20, the document's: does. -/
namespace Go.Proofs.YtabhkebkbidfhaaGreatDoor
open Go.RowKit
set_option maxRecDepth 100000
set_option linter.unusedSimpArgs false
set_option linter.unusedVariables false
set_option maxRecDepth 100000

/-- A group behind what a record does, and whether it counts. -/
def doesP (G : GrpT) (epoch Kd F q : Int) : GrpT × Bool :=
  if inB G.2.1 F = false then (G, false)
  else if Kd = 1 then (if 500 ≤ G.2.2 then (G, false) else ((G.1, G.2.1, G.2.2 + 1), true))
  else if F ≠ 1 ∨ epoch ≠ G.1 ∨ 1099511627775 ≤ G.1 then (G, false)
  else if Kd = 2 then (if inB G.2.1 q = true then (G, false) else ((G.1 + 1, withM G.2.1 (q - 1).toNat (q, (mmL G.2.1 (q - 1).toNat).2.1, true), G.2.2), true))
  else if Kd = 3 then (if inB G.2.1 q = false ∨ q = 1 then (G, false) else ((G.1 + 1, withM G.2.1 (q - 1).toNat (q, (mmL G.2.1 (q - 1).toNat).2.1, false), G.2.2), true))
  else ((G.1 + 1, G.2.1, G.2.2), true)

structure DoS (w W : World) (G R : Array Value) : Prop where
  g : Blk W 24 w.heap.size G
  r : Blk W 45 (w.heap.size + 1) R
  z : Blk W 24 (w.heap.size + 1 + 1) #[.int .i64 0, .slice none 0 0, .int .i64 0]
  w : Below w.heap.size w W
theorem DoS.on {w W W' : World} {G R : Array Value} (h : DoS w W G R) (hb : Below W.heap.size W W') : DoS w W' G R := ⟨h.g.on hb, h.r.on hb, h.z.on hb, below_step h.w (Nat.le_refl _) hb⟩
end Go.Proofs.YtabhkebkbidfhaaGreatDoor
