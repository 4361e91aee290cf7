/- Layer 20, the document's: groups; In, May. -/
import Derived.Test.YtkmdajenbidaaaaDoorBA
namespace Go.Proofs.YtkmdajenbidaaaaDoor
open Go.RowKit
set_option maxRecDepth 100000
set_option linter.unusedSimpArgs false
set_option linter.unusedVariables false
set_option maxRecDepth 100000

/-- A group's members: Who, Count, In. -/
abbrev MemT := Int × Int × Bool
def mmL (l : List MemT) (i : Nat) : MemT := l.getD i (0, 0, false)
def memA (x : MemT) : Array Value := #[.int .i64 x.1, .int .i64 x.2.1, .bool x.2.2]
def MmsAt (w : World) (a : Option Addr) (n : Nat) (l : List MemT) : Prop :=
  l.length = n ∧ (n = 0 ∨ ∃ b off, a = some ⟨b, off, none⟩ ∧ ∀ i, i < n → w.cell? ⟨b, off + i * 3, none⟩ = some (.int .i64 (mmL l i).1) ∧ w.cell? ⟨b, off + i * 3 + 1, none⟩ = some (.int .i64 (mmL l i).2.1) ∧ w.cell? ⟨b, off + i * 3 + 2, none⟩ = some (.bool (mmL l i).2.2))
theorem MmsAt.below {w w' : World} {a : Option Addr} {n : Nat} {l : List MemT} (h : MmsAt w a n l) (hb : Below w.heap.size w w') : MmsAt w' a n l := by
  refine ⟨h.1, h.2.imp id (fun ⟨b, off, e, hc⟩ => ⟨b, off, e, fun i hi => ?_⟩)⟩
  obtain ⟨h0, h1, h2⟩ := hc i hi
  exact ⟨by rw [hb.cell (World.block_lt_of_cell? w _ h0)]; exact h0, by rw [hb.cell (World.block_lt_of_cell? w _ h1)]; exact h1, by rw [hb.cell (World.block_lt_of_cell? w _ h2)]; exact h2⟩

/-- A group: Epoch, Members, Ops. -/
abbrev GrpT := Int × List MemT × Int
def grpA (G : GrpT) (a : Option Addr) (c : Nat) : Array Value := #[.int .i64 G.1, .slice a G.2.1.length c, .int .i64 G.2.2]

/-- Is there a member that is in? -/
def inB (l : List MemT) (who : Int) : Bool := l.any (fun x => decide (x.1 = who) && x.2.2)
theorem mmL_get (l : List MemT) (i : Nat) (h : i < l.length) : mmL l i = l[i] := by
  unfold mmL; rw [List.getD_eq_getElem?_getD, List.getElem?_eq_getElem h]; rfl
theorem inB_yes (l : List MemT) (who : Int) (i : Nat) (h : i < l.length) (h1 : (mmL l i).1 = who) (h2 : (mmL l i).2.2 = true) : inB l who = true := by
  unfold inB
  rw [List.any_eq_true]
  rw [mmL_get l i h] at h1 h2
  exact ⟨l[i], List.getElem_mem h, by rw [decide_eq_true h1, h2]; rfl⟩
theorem inB_no (l : List MemT) (who : Int) (h : ∀ i, i < l.length → ¬ ((mmL l i).1 = who ∧ (mmL l i).2.2 = true)) : inB l who = false := by
  unfold inB
  rw [List.any_eq_false]
  intro x hx
  obtain ⟨i, hi, e⟩ := List.mem_iff_getElem.1 hx
  have := h i hi
  rw [mmL_get l i hi, e] at this
  simpa using this

/-- May a group be? -/
def MayG (G : GrpT) : Prop := (1 ≤ G.1 ∧ G.1 ≤ 1099511627775) ∧ (0 ≤ G.2.2 ∧ G.2.2 ≤ 500) ∧ G.2.1.length = 6 ∧ ∀ i, i < 6 → (mmL G.2.1 i).1 = (i : Int) + 1 ∧ 0 ≤ (mmL G.2.1 i).2.1 ∧ (mmL G.2.1 i).2.1 ≤ 1099511627775 ∧ (i = 0 → (mmL G.2.1 i).2.2 = true)

end Go.Proofs.YtkmdajenbidaaaaDoor
