/- Layer 19, the document's: frames; number, Light. -/
import Derived.Test.YtkmdajenbidaaaaDoorR9
import Derived.Test.YtkmdajenbidaaaaDoorBA
namespace Go.Proofs.YtkmdajenbidaaaaDoor
open Go.RowKit
set_option maxRecDepth 100000
set_option linter.unusedSimpArgs false
set_option linter.unusedVariables false
set_option maxRecDepth 100000

/-- A frame's items: Seq, Epoch, Blob. -/
def itL (l : List (Int × Int × ByteArray)) (i : Nat) : Int × Int × ByteArray := l.getD i (0, 0, ByteArray.empty)
def ItsAt (w : World) (a : Option Addr) (n : Nat) (l : List (Int × Int × ByteArray)) : Prop :=
  l.length = n ∧ (n = 0 ∨ ∃ b off, a = some ⟨b, off, none⟩ ∧ ∀ i, i < n → w.cell? ⟨b, off + i * 3, none⟩ = some (.int .i64 (itL l i).1) ∧ w.cell? ⟨b, off + i * 3 + 1, none⟩ = some (.int .i64 (itL l i).2.1) ∧ w.cell? ⟨b, off + i * 3 + 2, none⟩ = some (.string (itL l i).2.2))
theorem ItsAt.below {w w' : World} {a : Option Addr} {n : Nat} {l : List (Int × Int × ByteArray)} (h : ItsAt w a n l) (hb : Below w.heap.size w w') : ItsAt w' a n l := by
  refine ⟨h.1, h.2.imp id (fun ⟨b, off, e, hc⟩ => ⟨b, off, e, fun i hi => ?_⟩)⟩
  obtain ⟨h0, h1, h2⟩ := hc i hi
  exact ⟨by rw [hb.cell (World.block_lt_of_cell? w _ h0)]; exact h0, by rw [hb.cell (World.block_lt_of_cell? w _ h1)]; exact h1, by rw [hb.cell (World.block_lt_of_cell? w _ h2)]; exact h2⟩
/-- A frame: Kind, Group, Seq, Epoch, Max, Blob, Items, Err. -/
abbrev FrmT := Int × Int × Int × Int × Int × ByteArray × List (Int × Int × ByteArray) × Int
def frmA (F : FrmT) (a : Option Addr) (c : Nat) : Array Value := #[.int .i64 F.1, .int .i64 F.2.1, .int .i64 F.2.2.1, .int .i64 F.2.2.2.1, .int .i64 F.2.2.2.2.1, .string F.2.2.2.2.2.1, .slice a F.2.2.2.2.2.2.1.length c, .int .i64 F.2.2.2.2.2.2.2]

/-- Has a frame few bytes? -/
def LightF (bl : ByteArray) (it : List (Int × Int × ByteArray)) : Prop := (∀ i, i < it.length → i < 40 → (itL it i).2.2.size ≤ 200) ∧ bl.size ≤ 600 ∧ it.length ≤ 40

end Go.Proofs.YtkmdajenbidaaaaDoor
