import Derived.Test.YtdmlffbpcjadfaaDoorRT
import Derived.Test.YtdmlffbpcjadfaaDoorTX
/- The document's Do (layer 11). Written by mkdo.py. -/
namespace Go.Proofs.YtdmlffbpcjadfaaDoor
open Go.RowKit
set_option linter.unusedSimpArgs false

/-- A slice of nodes: whoever made it. -/
def NodesV (w : World) (v : Value) (l : List NodeT) : Prop := ∃ a c, v = .slice a l.length c ∧ NodesAt w a l.length l

theorem NodesV.on {w w' : World} {v : Value} {l : List NodeT} (h : NodesV w v l) (hb : Below w.heap.size w w') : NodesV w' v l := by
  obtain ⟨a, c, e, h⟩ := h
  exact ⟨a, c, e, h.below hb⟩

theorem OwnN.v {w : World} {B : Nat} {v : Value} {l : List NodeT} (h : OwnN w B v l) : NodesV w v l := OwnN.nodes h

/-- A slice's block is that of an old one, or a new one. -/
def AdrV (a : Option Addr) (n0 B : Nat) (v : Value) : Prop := ∀ x n c, v = .slice (some x) n c → (∃ y, a = some y ∧ y.block = x.block ∧ n ≤ n0) ∨ B ≤ x.block

theorem adr_same {a : Option Addr} {B n c : Nat} : AdrV a n B (.slice a n c) := fun x m d e => by
  cases e
  exact .inl ⟨x, rfl, rfl, Nat.le_refl _⟩

theorem AdrV.less {a : Option Addr} {n0 B B' : Nat} {v : Value} (h : AdrV a n0 B' v) (hB : B ≤ B') : AdrV a n0 B v := fun x n c e => (h x n c e).imp id (fun k => Nat.le_trans hB k)

theorem adr_own {w : World} {a : Option Addr} {n0 B n c : Nat} {e : TypeId} {v : Value} {xs : List Value} (h : w.ownsRow B e c v n xs) : AdrV a n0 B v := fun x m d hv => by
  rcases h.2 with ⟨rfl, _⟩ | ⟨g, cap, cur, rfl, hB, _⟩
  · cases hv
  · cases hv; exact .inr hB

end Go.Proofs.YtdmlffbpcjadfaaDoor
