import Derived.Test.YtabhkebkbidfhaaGreatDoorBA
import Derived.Test.YtabhkebkbidfhaaGreatDoorRT
/- Rows of operations and of nodes, and snapshots by value, among a law's parameters. -/
namespace Go.Proofs.YtabhkebkbidfhaaGreatDoor
open Go.ChangeShapes Go.WideShapes Go.RowKit

theorem slice_cell {H : Type} {enc : TypeId × Value → H} {P : Program} {w : World} {base : Nat} {held : Bool} {t e : TypeId} {n : Nat} {c : Value} {y : DataW H × List MemPlace} (ht : P.underlying t = some (.slice e)) (h : DataW.trod enc P w base (fun _ => true) held n t [c] = some y) :
    ∃ a len cap, c = .slice a len cap ∧ DataW.Trod enc P w base (fun _ => true) held t (.slice a len cap) y.1 y.2 := by
  rcases Go.Deep.open_slice ht h with ⟨hcs, _⟩ | ⟨x, l, cp, m, k, D, Pl, hcs, _⟩
  · simp at hcs
    subst hcs
    exact ⟨none, 0, 0, rfl, n, by simpa [Value.cells] using h⟩
  · simp at hcs
    subst hcs
    exact ⟨_, _, _, rfl, n, by simpa [Value.cells] using h⟩

end Go.Proofs.YtabhkebkbidfhaaGreatDoor
