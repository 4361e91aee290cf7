/- Layer 17: awake. -/
import Derived.Test.YtaakmcihpdbilaaDoorBkC
import Derived.Test.YtaakmcihpdbilaaDoorBdF
namespace Go.Proofs.YtaakmcihpdbilaaDoor
open Go.RowKit
set_option maxRecDepth 100000
set_option linter.unusedSimpArgs false
set_option maxRecDepth 100000

theorem DevTo.trans {a b c : World} {g r : Nat} {D D' : DevT} (h1 : DevTo a g r D b) (h2 : DevTo b g r D' c) : DevTo a g r D' c := ⟨h2.1, h1.2.trans h2.2 (Nx.refl _ _)⟩
/-- A device at g, b, both of the call's own (from h on). -/
def DevB (w : World) (h : World) (g b : Nat) (D : DevT) : Prop := DevAt h g b D ∧ w.heap.size ≤ g ∧ w.heap.size ≤ b ∧ Below w.heap.size w h
theorem DevB.to {w h h' : World} {g b : Nat} {D D' : DevT} (a : DevB w h g b D) (t : DevTo h g b D' h') : DevB w h' g b D' :=
  ⟨t.1, a.2.1, a.2.2.1, a.2.2.2.trans (t.below _ a.2.2.2.size a.2.1 a.2.2.1)⟩
theorem DevB.on {w h h' : World} {g b : Nat} {D : DevT} (a : DevB w h g b D) (t : Below h.heap.size h h') : DevB w h' g b D :=
  ⟨a.1.on t, a.2.1, a.2.2.1, below_step a.2.2.2 (Nat.le_refl _) t⟩

theorem d17_1 : fuseB (newB 2) 1 = ([zeroB 64, zeroB 64], 1, false, 0) := rfl
theorem d17_2 (s : ByteArray) : (writeB ([zeroB 64, zeroB 64], 1, false, 0) 0 s).1 = ([s, zeroB 64], 0, false, 1) := rfl
theorem d17_3 (s t : ByteArray) : offB ([s, t], 0, false, 1) = ([s, t], -1, true, 1) := rfl
theorem d17_4 (s t : ByteArray) : onB ([s, t], -1, true, 1) = ([s, t], -1, false, 1) := rfl

end Go.Proofs.YtaakmcihpdbilaaDoor
