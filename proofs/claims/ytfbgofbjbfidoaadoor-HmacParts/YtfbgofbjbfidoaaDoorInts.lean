import Derived.Test.YtfbgofbjbfidoaaDoorTake
import Derived.OpenShut
namespace Go.Proofs.YtfbgofbjbfidoaaDoor
open Go.RowKit

/-- A slice of n numbers that can be read. -/
def IntsAt (w : World) (K : IntKind) (a : Option Addr) (n : Nat) (l : List Int) : Prop :=
  l.length = n ∧ (n = 0 ∨ ∃ b off, a = some ⟨b, off, none⟩ ∧ ∀ i, i < n → w.cell? ⟨b, off + i, none⟩ = some (.int K (l.getD i 0)))

theorem IntsAt.below {w w' : World} {K : IntKind} {a : Option Addr} {n : Nat} {l : List Int} (h : IntsAt w K a n l) (hb : Below w.heap.size w w') : IntsAt w' K a n l := by
  refine ⟨h.1, ?_⟩
  rcases h.2 with h0 | ⟨b, off, ha, hc⟩
  · exact .inl h0
  · refine .inr ⟨b, off, ha, fun i hi => ?_⟩
    have h1 := hc i hi
    have hlt := World.block_lt_of_cell? w _ h1
    rw [hb.cell (p := ⟨b, off + i, none⟩) hlt]; exact h1

theorem Own.ints {w : World} {B g n : Nat} {e : TypeId} {K : IntKind} {l : List Int} (h : Own w B e K g n l) : IntsAt w K (some ⟨g, 0, none⟩) n l :=
  ⟨h.len, .inr ⟨g, 0, rfl, fun i hi => by rw [Nat.zero_add]; exact h.cell i hi⟩⟩

theorem OwnV.ints {w : World} {B n : Nat} {e : TypeId} {K : IntKind} {v : Value} {l : List Int} (h : OwnV w B e K v n l) : ∃ a c, v = .slice a n c ∧ IntsAt w K a n l := by
  have hl := h.len
  rcases h.2 with ⟨rfl, rfl⟩ | ⟨g, cap, cur, rfl, r⟩
  · exact ⟨none, 0, rfl, hl, .inl rfl⟩
  · refine ⟨some ⟨g, 0, none⟩, cap, rfl, hl, .inr ⟨g, 0, rfl, fun i hi => ?_⟩⟩
    rw [Nat.zero_add, World.ownsRow.cellAt (⟨h.1, .inr ⟨g, cap, cur, rfl, r⟩⟩ : w.ownsRow B e 1 (.slice (some ⟨g, 0, none⟩) n cap) n _) i (by omega)]
    simp [List.getD, List.getElem?_eq_getElem (show i < l.length by omega)]

theorem ints_lit (w : World) (K : IntKind) (x : Int) (e : TypeId) : IntsAt (w.alloc (.cells #[.int K x] e)) K (some ⟨w.heap.size, 0, none⟩) 1 [x] := by
  refine ⟨rfl, .inr ⟨w.heap.size, 0, rfl, fun i hi => ?_⟩⟩
  obtain rfl : i = 0 := by omega
  simp

/-- A slice of numbers that came in. -/
theorem ints_row {w : World} {K : IntKind} {a : Option Addr} {len cap : Nat} {zs : List Int}
    (h : (a = none ∧ len = 0 ∧ cap = 0 ∧ zs = []) ∨ ∃ x, a = some x ∧ len ≤ cap ∧ cap ≤ maxLen ∧ zs.length = cap ∧ (∀ i, i < zs.length → w.cell? (x.add i) = some (.int K (zs.getD i 0))) ∧ ∀ n ∈ zs, (Lit.int K n).wf = true) :
    len ≤ maxLen ∧ IntsAt w K a len (zs.take len) := by
  rcases h with ⟨rfl, rfl, rfl, rfl⟩ | ⟨x, rfl, hl, hm, hz, hc, _⟩
  · exact ⟨Nat.zero_le _, rfl, .inl rfl⟩
  · refine ⟨Nat.le_trans hl hm, by simp; omega, ?_⟩
    by_cases h0 : len = 0
    · exact .inl h0
    · obtain ⟨b, off, rfl, hc'⟩ := ints_at hc (by omega)
      refine .inr ⟨b, off, rfl, fun i hi => ?_⟩
      rw [hc' i (by omega)]
      simp [List.getD, hi]

end Go.Proofs.YtfbgofbjbfidoaaDoor
