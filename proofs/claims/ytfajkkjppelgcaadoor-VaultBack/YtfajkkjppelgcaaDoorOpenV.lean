/- Two texts by value, rows of them, rows of layer 16's acts, among a law's parameters. -/
import Derived.Test.YtfajkkjppelgcaaDoorOpenP
import Derived.Test.YtfajkkjppelgcaaDoorOpen2
namespace Go.Proofs.YtfajkkjppelgcaaDoor
open Go.ChangeShapes Go.WideShapes Go.RowKit
set_option maxRecDepth 100000

theorem duo_cells2 {H : Type} {enc : TypeId × Value → H} {w : World} {base : Nat} {spare : Nat → Bool} {held : Bool} {fuel : Nat} {cs : List Value} {x : DataW H × List MemPlace} (hl : cs.length = 2) (h : DataW.trod enc Tryd.prog w base spare held fuel 22 cs = some x) :
    ∃ q : ByteArray × ByteArray, cs = [.string q.1, .string q.2] ∧ q.1.size ≤ maxLen ∧ q.2.size ≤ maxLen := by
  obtain ⟨c0, c1, rfl⟩ := list_two cs hl
  obtain ⟨y0, y1, m, _, hy0, hy1⟩ := trod_two Tryd.underlying22 Tryd.cStr h
  obtain ⟨s, e0, _, w0⟩ := DataW.trod_string Tryd.underlying9 hy0
  obtain ⟨t, e1, _, w1⟩ := DataW.trod_string Tryd.underlying9 hy1
  simp at e0 e1
  exact ⟨(s, t), by rw [e0, e1], w0, w1⟩

theorem duo_of {H : Type} {enc : TypeId × Value → H} {w : World} {base : Nat} {spare : Nat → Bool} {held : Bool} {r : Reach} {b0 : Nat} {v : Value} {d : DataW H} {p : List MemPlace} (hv : Value.okWide Tryd.prog w r b0 22 v) (h : DataW.Trod enc Tryd.prog w base spare held 22 v d p) :
    ∃ q : ByteArray × ByteArray, v = .agg #[.string q.1, .string q.2] ∧ q.1.size ≤ maxLen ∧ q.2.size ≤ maxLen := by
  obtain ⟨cs, rfl, hsz, _⟩ : ∃ cs, v = .agg cs ∧ cs.size = Tryd.prog.cellsOf 22 ∧ Row.okWide Tryd.prog w r b0 22 cs := by
    simpa [Value.okWide, Tryd.underlying22] using hv
  rw [show Tryd.prog.cellsOf 22 = 2 by kernel_rfl] at hsz
  obtain ⟨fuel, hf⟩ := h
  obtain ⟨q, hc, h1⟩ := duo_cells2 (cs := cs.toList) (by rw [Array.length_toList]; exact hsz) (by simpa [Value.cells] using hf)
  refine ⟨q, ?_, h1⟩
  congr 1
  exact Array.toList_inj.1 hc

def dL (l : List (ByteArray × ByteArray)) (i : Nat) : ByteArray × ByteArray := l.getD i (ByteArray.empty, ByteArray.empty)
/-- A row of pairs of texts. -/
def DuosAt (w : World) (a : Option Addr) (n : Nat) (l : List (ByteArray × ByteArray)) : Prop :=
  l.length = n ∧ (n = 0 ∨ ∃ b off, a = some ⟨b, off, none⟩ ∧ ∀ i, i < n → w.cell? ⟨b, off + i * 2, none⟩ = some (.string (dL l i).1) ∧ w.cell? ⟨b, off + i * 2 + 1, none⟩ = some (.string (dL l i).2))

/-- An act: its kind, its number, its keys, what it is bound to, its text. -/
abbrev ActT := Int × Int × ByteArray × ByteArray × ByteArray
def actA (q : ActT) : Array Value := #[.int .i64 q.1, .int .i64 q.2.1, .string q.2.2.1, .string q.2.2.2.1, .string q.2.2.2.2]
def aL (l : List ActT) (i : Nat) : ActT := l.getD i (0, 0, ByteArray.empty, ByteArray.empty, ByteArray.empty)
def ActsAt (w : World) (a : Option Addr) (n : Nat) (l : List ActT) : Prop :=
  l.length = n ∧ (n = 0 ∨ ∃ b off, a = some ⟨b, off, none⟩ ∧ ∀ i, i < n → ∀ j, j < 5 → w.cell? ⟨b, off + i * 5 + j, none⟩ = (actA (aL l i))[j]?)
def ActOk (q : ActT) : Prop := (Lit.int .i64 q.1).wf = true ∧ (Lit.int .i64 q.2.1).wf = true ∧ q.2.2.1.size ≤ maxLen ∧ q.2.2.2.1.size ≤ maxLen ∧ q.2.2.2.2.size ≤ maxLen

end Go.Proofs.YtfajkkjppelgcaaDoor
