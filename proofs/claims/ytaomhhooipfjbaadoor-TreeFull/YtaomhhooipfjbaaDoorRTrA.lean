/- Rows of structs; the document's parent, find (layer 11). -/
import Derived.Test.YtaomhhooipfjbaaDoorR10
import Derived.Test.YtaomhhooipfjbaaDoorRecEq
import Derived.Test.YtaomhhooipfjbaaDoorRowR
import Derived.BigQuiet
namespace Go.Proofs.YtaomhhooipfjbaaDoor
open Go.RowKit
set_option linter.unusedSimpArgs false

/-- Nodes. -/
def nL (l : List ((Int × Int) × (Int × Int) × ByteArray × ByteArray)) (i : Nat) : (Int × Int) × (Int × Int) × ByteArray × ByteArray := l.getD i ((0, 0), (0, 0), ByteArray.empty, ByteArray.empty)

def NodesAt (w : World) (a : Option Addr) (n : Nat) (l : List ((Int × Int) × (Int × Int) × ByteArray × ByteArray)) : Prop := l.length = n ∧ RowsAt w a n 6 (fun i => nodeA (nL l i))

theorem NodesAt.below {w w' : World} {a : Option Addr} {n : Nat} {l : List ((Int × Int) × (Int × Int) × ByteArray × ByteArray)} (h : NodesAt w a n l) (hb : Below w.heap.size w w') : NodesAt w' a n l := ⟨h.1, h.2.below (Nat.le_refl _) hb⟩

theorem NodesAt.cells {w : World} {b off n : Nat} {l : List ((Int × Int) × (Int × Int) × ByteArray × ByteArray)} (h : NodesAt w (some ⟨b, off, none⟩) n l) (i : Nat) (hi : i < n) :
    w.cell? ⟨b, off + i * 6, none⟩ = some (.int .i64 (nL l i).1.1) ∧ w.cell? ⟨b, off + i * 6 + 1, none⟩ = some (.int .i64 (nL l i).1.2) ∧ w.cell? ⟨b, off + i * 6 + 2, none⟩ = some (.int .i64 (nL l i).2.1.1) ∧ w.cell? ⟨b, off + i * 6 + 3, none⟩ = some (.int .i64 (nL l i).2.1.2) ∧ w.cell? ⟨b, off + i * 6 + 4, none⟩ = some (.string (nL l i).2.2.1) ∧ w.cell? ⟨b, off + i * 6 + 5, none⟩ = some (.string (nL l i).2.2.2) := by
  obtain ⟨b', off', ha, hc⟩ := h.2.some (by omega)
  simp only [Option.some.injEq, Addr.mk.injEq] at ha
  obtain ⟨rfl, rfl, _⟩ := ha
  have hh : ∀ j, j < 6 → ∀ v, (nodeA (nL l i))[j]? = some v → w.cell? ⟨b, off + i * 6 + j, none⟩ = some v := fun j hj v hv => by
    obtain ⟨u, h1, h2⟩ := hc i hi j hj
    rw [h2, ← h1]; exact hv
  exact ⟨hh 0 (by decide) _ rfl, hh 1 (by decide) _ rfl, hh 2 (by decide) _ rfl, hh 3 (by decide) _ rfl, hh 4 (by decide) _ rfl, hh 5 (by decide) _ rfl⟩

/-- May a stamp be one of a parent? -/
abbrev ParS (s : Int × Int) : Prop := MayS s ∨ (s.1 = 0 ∧ (s.2 = 0 ∨ s.2 = 1))

/-- Where a node stands; -1: nowhere. -/
def FindE (l : List ((Int × Int) × (Int × Int) × ByteArray × ByteArray)) (id : Int × Int) (r : Int) : Prop :=
  (r = -1 ∧ ∀ i, i < l.length → (nL l i).1 ≠ id) ∨ ∃ i : Nat, r = (i : Int) ∧ i < l.length ∧ (nL l i).1 = id ∧ ∀ j, j < i → (nL l j).1 ≠ id

theorem findE_uniq {l : List ((Int × Int) × (Int × Int) × ByteArray × ByteArray)} {id : Int × Int} {r q : Int} (h : FindE l id r) (k : FindE l id q) : r = q := by
  rcases h with ⟨h1, h2⟩ | ⟨i, h1, h2, h3, h4⟩ <;> rcases k with ⟨k1, k2⟩ | ⟨j, k1, k2, k3, k4⟩
  · omega
  · exact absurd k3 (h2 j k2)
  · exact absurd h3 (k2 i h2)
  · rcases Nat.lt_trichotomy i j with h | h | h
    · exact absurd h3 (k4 i h)
    · omega
    · exact absurd k3 (h4 j h)

theorem findE_is (l : List ((Int × Int) × (Int × Int) × ByteArray × ByteArray)) (id : Int × Int) : ∃ r, FindE l id r := by
  have key : ∀ k, (∀ i, i < k → i < l.length → (nL l i).1 ≠ id) ∨ ∃ i, i < k ∧ i < l.length ∧ (nL l i).1 = id ∧ ∀ j, j < i → (nL l j).1 ≠ id := by
    intro k
    induction k with
    | zero => exact .inl (fun i hi => absurd hi (Nat.not_lt_zero _))
    | succ k ih =>
      rcases ih with h | ⟨i, h1, h2⟩
      · by_cases hk : k < l.length ∧ (nL l k).1 = id
        · exact .inr ⟨k, by omega, hk.1, hk.2, fun j hj => h j hj (by omega)⟩
        · refine .inl (fun i hi hl => ?_)
          by_cases e : i = k
          · subst e; exact fun h' => hk ⟨hl, h'⟩
          · exact h i (by omega) hl
      · exact .inr ⟨i, by omega, h2⟩
  rcases key l.length with h | ⟨i, _, h2, h3, h4⟩
  · exact ⟨-1, .inl ⟨rfl, fun i hi => h i hi hi⟩⟩
  · exact ⟨i, .inr ⟨i, rfl, h2, h3, h4⟩⟩

end Go.Proofs.YtaomhhooipfjbaaDoor
