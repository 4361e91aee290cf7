import Derived.Test.YtogbkfakihnbdaaGreatDoorRT
import Derived.Test.YtogbkfakihnbdaaGreatDoorTX
import Derived.Test.YtogbkfakihnbdaaGreatDoorBA
/- The document's Do (layer 11). Written by mkdo.py. -/
namespace Go.Proofs.YtogbkfakihnbdaaGreatDoor
open Go.RowKit
set_option linter.unusedSimpArgs false

/-- A slice of nodes: whoever made it. -/
def NodesV (w : World) (v : Value) (l : List NodeT) : Prop := ∃ a c, v = .slice a l.length c ∧ NodesAt w a l.length l

theorem NodesV.on {w w' : World} {v : Value} {l : List NodeT} (h : NodesV w v l) (hb : Below w.heap.size w w') : NodesV w' v l := by
  obtain ⟨a, c, e, h⟩ := h
  exact ⟨a, c, e, h.below hb⟩

theorem OwnN.v {w : World} {B : Nat} {v : Value} {l : List NodeT} (h : OwnN w B v l) : NodesV w v l := OwnN.nodes h

/-- A slice's block is that of an old one, or a new one. -/
def AdrV (a : Option Addr) (n0 B : Nat) (v : Value) : Prop := ∀ x n c, v = .slice (some x) n c → (∃ y, a = some y ∧ y.block = x.block ∧ n ≤ n0) ∨ B ≤ x.block

theorem adr_same {a : Option Addr} {B n c : Nat} : AdrV a n B (.slice a n c) := fun x m d e => by
  cases e
  exact .inl ⟨x, rfl, rfl, Nat.le_refl _⟩

theorem AdrV.less {a : Option Addr} {n0 B B' : Nat} {v : Value} (h : AdrV a n0 B' v) (hB : B ≤ B') : AdrV a n0 B v := fun x n c e => (h x n c e).imp id (fun k => Nat.le_trans hB k)

theorem adr_own {w : World} {a : Option Addr} {n0 B n c : Nat} {e : TypeId} {v : Value} {xs : List Value} (h : w.ownsRow B e c v n xs) : AdrV a n0 B v := fun x m d hv => by
  rcases h.2 with ⟨rfl, _⟩ | ⟨g, cap, cur, rfl, hB, _⟩
  · cases hv
  · cases hv; exact .inr hB

end Go.Proofs.YtogbkfakihnbdaaGreatDoor

/- The document's Nodes, Get (layer 11). -/
namespace Go.Proofs.YtogbkfakihnbdaaGreatDoor
open Go.RowKit
set_option linter.unusedSimpArgs false

def TreeV (w : World) (v : Value) (t : TreeT) : Prop := ∃ a1 c1 a2 c2, v = .agg #[.slice a1 t.1.length c1, .slice a2 t.2.1.length c2, .int .i64 t.2.2.1, .int .i64 t.2.2.2] ∧ NodesAt w a1 t.1.length t.1 ∧ OpsAt w a2 t.2.1.length t.2.1 ∧ SliceOk a2 t.2.1.length c2

/-- The rows of a tree's value are old ones, or new. -/
def RowsR (a1 : Option Addr) (n1 : Nat) (a2 : Option Addr) (n2 B : Nat) (v : Value) : Prop := ∃ s1 s2 x y, v = .agg #[s1, s2, x, y] ∧ AdrV a1 n1 B s1 ∧ AdrV a2 n2 B s2

theorem rows_same {a1 a2 : Option Addr} {B n1 c1 n2 c2 : Nat} {x y : Value} : RowsR a1 n1 a2 n2 B (.agg #[.slice a1 n1 c1, .slice a2 n2 c2, x, y]) := ⟨_, _, _, _, rfl, adr_same, adr_same⟩

def TreeW (a1 : Option Addr) (n1 : Nat) (a2 : Option Addr) (n2 B : Nat) (w : World) (v : Value) (t : TreeT) : Prop := TreeV w v t ∧ RowsR a1 n1 a2 n2 B v

theorem TreeV.on {w w' : World} {v : Value} {t : TreeT} (h : TreeV w v t) (hb : Below w.heap.size w w') : TreeV w' v t := by
  obtain ⟨a1, c1, a2, c2, e, h1, h2, h3⟩ := h
  exact ⟨a1, c1, a2, c2, e, h1.below hb, h2.below hb, h3⟩

end Go.Proofs.YtogbkfakihnbdaaGreatDoor
