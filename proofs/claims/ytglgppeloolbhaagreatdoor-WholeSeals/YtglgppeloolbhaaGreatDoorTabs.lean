import Derived.Test.YtglgppeloolbhaaGreatDoorL7
import Derived.Test.YtglgppeloolbhaaGreatDoorL4
/- The four tables of the ciphers and of the hash, together. -/
namespace Go.Proofs.YtglgppeloolbhaaGreatDoor
open Go.RowKit
set_option maxRecDepth 100000
def Tabs (w : World) : Prop := (GlobB w ∧ GlobK w) ∧ GlobP w ∧ GlobY w
theorem Tabs.below {w w' : World} (h : Tabs w) (hb : Below w.heap.size w w') : Tabs w' := ⟨⟨h.1.1.below hb, h.1.2.below hb⟩, h.2.1.below hb, h.2.2.below hb⟩
end Go.Proofs.YtglgppeloolbhaaGreatDoor
