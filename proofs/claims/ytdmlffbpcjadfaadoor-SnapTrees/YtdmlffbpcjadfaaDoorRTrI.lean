import Derived.Test.YtdmlffbpcjadfaaDoorRTrH
import Derived.Test.YtdmlffbpcjadfaaDoorTX
import Derived.Test.YtdmlffbpcjadfaaDoorBA
/- The document's Nodes, Get (layer 11). -/
namespace Go.Proofs.YtdmlffbpcjadfaaDoor
open Go.RowKit
set_option linter.unusedSimpArgs false

def TreeV (w : World) (v : Value) (t : TreeT) : Prop := ∃ a1 c1 a2 c2, v = .agg #[.slice a1 t.1.length c1, .slice a2 t.2.1.length c2, .int .i64 t.2.2.1, .int .i64 t.2.2.2] ∧ NodesAt w a1 t.1.length t.1 ∧ OpsAt w a2 t.2.1.length t.2.1 ∧ SliceOk a2 t.2.1.length c2

/-- The rows of a tree's value are old ones, or new. -/
def RowsR (a1 : Option Addr) (n1 : Nat) (a2 : Option Addr) (n2 B : Nat) (v : Value) : Prop := ∃ s1 s2 x y, v = .agg #[s1, s2, x, y] ∧ AdrV a1 n1 B s1 ∧ AdrV a2 n2 B s2

theorem rows_same {a1 a2 : Option Addr} {B n1 c1 n2 c2 : Nat} {x y : Value} : RowsR a1 n1 a2 n2 B (.agg #[.slice a1 n1 c1, .slice a2 n2 c2, x, y]) := ⟨_, _, _, _, rfl, adr_same, adr_same⟩

def TreeW (a1 : Option Addr) (n1 : Nat) (a2 : Option Addr) (n2 B : Nat) (w : World) (v : Value) (t : TreeT) : Prop := TreeV w v t ∧ RowsR a1 n1 a2 n2 B v

theorem adr_trans {a a' : Option Addr} {B B' n0 n c : Nat} {v : Value} (h : AdrV a n0 B (.slice a' n c)) (k : AdrV a' n B' v) (hB : B ≤ B') : AdrV a n0 B v := fun x m d e => by
  rcases k x m d e with ⟨y, rfl, hy, hm⟩ | k
  · rcases h y n c rfl with ⟨z, hz, ez, hn⟩ | h
    · exact .inl ⟨z, hz, ez.trans hy, Nat.le_trans hm hn⟩
    · exact .inr (by omega)
  · exact .inr (Nat.le_trans hB k)

theorem TreeV.on {w w' : World} {v : Value} {t : TreeT} (h : TreeV w v t) (hb : Below w.heap.size w w') : TreeV w' v t := by
  obtain ⟨a1, c1, a2, c2, e, h1, h2, h3⟩ := h
  exact ⟨a1, c1, a2, c2, e, h1.below hb, h2.below hb, h3⟩

end Go.Proofs.YtdmlffbpcjadfaaDoor
