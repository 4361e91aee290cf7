/- Two texts by value, rows of them, rows of layer 16's acts, among a law's parameters. -/
import Derived.Test.YtfajkkjppelgcaaOpenP
import Derived.Test.YtfajkkjppelgcaaOpen2
namespace Go.Proofs.Ytfajkkjppelgcaa
open Go.ChangeShapes Go.WideShapes Go.RowKit
set_option maxRecDepth 100000

theorem duo_cells2 {H : Type} {enc : TypeId × Value → H} {w : World} {base : Nat} {spare : Nat → Bool} {held : Bool} {fuel : Nat} {cs : List Value} {x : DataW H × List MemPlace} (hl : cs.length = 2) (h : DataW.trod enc Try.prog w base spare held fuel 22 cs = some x) :
    ∃ q : ByteArray × ByteArray, cs = [.string q.1, .string q.2] ∧ q.1.size ≤ maxLen ∧ q.2.size ≤ maxLen := by
  obtain ⟨c0, c1, rfl⟩ := list_two cs hl
  obtain ⟨y0, y1, m, _, hy0, hy1⟩ := trod_two Try.underlying22 Try.cStr h
  obtain ⟨s, e0, _, w0⟩ := DataW.trod_string Try.underlying9 hy0
  obtain ⟨t, e1, _, w1⟩ := DataW.trod_string Try.underlying9 hy1
  simp at e0 e1
  exact ⟨(s, t), by rw [e0, e1], w0, w1⟩

theorem duo_of {H : Type} {enc : TypeId × Value → H} {w : World} {base : Nat} {spare : Nat → Bool} {held : Bool} {r : Reach} {b0 : Nat} {v : Value} {d : DataW H} {p : List MemPlace} (hv : Value.okWide Try.prog w r b0 22 v) (h : DataW.Trod enc Try.prog w base spare held 22 v d p) :
    ∃ q : ByteArray × ByteArray, v = .agg #[.string q.1, .string q.2] ∧ q.1.size ≤ maxLen ∧ q.2.size ≤ maxLen := by
  obtain ⟨cs, rfl, hsz, _⟩ : ∃ cs, v = .agg cs ∧ cs.size = Try.prog.cellsOf 22 ∧ Row.okWide Try.prog w r b0 22 cs := by
    simpa [Value.okWide, Try.underlying22] using hv
  rw [show Try.prog.cellsOf 22 = 2 by kernel_rfl] at hsz
  obtain ⟨fuel, hf⟩ := h
  obtain ⟨q, hc, h1⟩ := duo_cells2 (cs := cs.toList) (by rw [Array.length_toList]; exact hsz) (by simpa [Value.cells] using hf)
  refine ⟨q, ?_, h1⟩
  congr 1
  exact Array.toList_inj.1 hc

def dL (l : List (ByteArray × ByteArray)) (i : Nat) : ByteArray × ByteArray := l.getD i (ByteArray.empty, ByteArray.empty)
/-- A row of pairs of texts. -/
def DuosAt (w : World) (a : Option Addr) (n : Nat) (l : List (ByteArray × ByteArray)) : Prop :=
  l.length = n ∧ (n = 0 ∨ ∃ b off, a = some ⟨b, off, none⟩ ∧ ∀ i, i < n → w.cell? ⟨b, off + i * 2, none⟩ = some (.string (dL l i).1) ∧ w.cell? ⟨b, off + i * 2 + 1, none⟩ = some (.string (dL l i).2))

theorem duos_of {H : Type} {enc : TypeId × Value → H} {w : World} {base : Nat} {held : Bool} {a : Option Addr} {len cap : Nat} {d : DataW H} {p : List MemPlace} (h : DataW.Trod enc Try.prog w base (fun _ => true) held 23 (.slice a len cap) d p) :
    ∃ l, DuosAt w a len l ∧ len ≤ maxLen ∧ ∀ i, i < len → (dL l i).1.size ≤ maxLen ∧ (dL l i).2.size ≤ maxLen := by
  obtain ⟨hm, h0 | ⟨b, off, rfl, hr⟩⟩ := rows_of (c := 2) Try.underlying23 (by kernel_rfl) (by decide) h
  · exact ⟨List.replicate len (ByteArray.empty, ByteArray.empty), ⟨by simp, .inl h0⟩, hm, fun k hk => by omega⟩
  · obtain ⟨l, hl, hR⟩ := choose_list (n := len) (R := fun i (q : ByteArray × ByteArray) => (w.cell? ⟨b, off + i * 2, none⟩ = some (.string q.1) ∧ w.cell? ⟨b, off + i * 2 + 1, none⟩ = some (.string q.2)) ∧ q.1.size ≤ maxLen ∧ q.2.size ≤ maxLen) (fun i hi => by
      obtain ⟨n, x, cs, hcl, hcell, hx⟩ := hr i hi
      obtain ⟨q, rfl, hq⟩ := duo_cells2 hcl hx
      have c0 := hcell 0 (by decide)
      have c1 := hcell 1 (by decide)
      rw [← Nat.add_assoc] at c0 c1
      exact ⟨q, ⟨c0, c1⟩, hq⟩)
    have e : ∀ i (hi : i < len), dL l i = l[i]'(by omega) := fun i hi => by unfold dL; rw [List.getD_eq_getElem?_getD, List.getElem?_eq_getElem (by omega)]; rfl
    refine ⟨l, ⟨hl, .inr ⟨b, off, rfl, fun i hi => ?_⟩⟩, hm, fun k hk => ?_⟩
    · rw [e i hi]; exact (hR i (by omega)).1
    · rw [e k hk]; exact (hR k (by omega)).2

/-- An act: its kind, its number, its keys, what it is bound to, its text. -/
abbrev ActT := Int × Int × ByteArray × ByteArray × ByteArray
def actA (q : ActT) : Array Value := #[.int .i64 q.1, .int .i64 q.2.1, .string q.2.2.1, .string q.2.2.2.1, .string q.2.2.2.2]
def aL (l : List ActT) (i : Nat) : ActT := l.getD i (0, 0, ByteArray.empty, ByteArray.empty, ByteArray.empty)
def ActsAt (w : World) (a : Option Addr) (n : Nat) (l : List ActT) : Prop :=
  l.length = n ∧ (n = 0 ∨ ∃ b off, a = some ⟨b, off, none⟩ ∧ ∀ i, i < n → ∀ j, j < 5 → w.cell? ⟨b, off + i * 5 + j, none⟩ = (actA (aL l i))[j]?)
def ActOk (q : ActT) : Prop := (Lit.int .i64 q.1).wf = true ∧ (Lit.int .i64 q.2.1).wf = true ∧ q.2.2.1.size ≤ maxLen ∧ q.2.2.2.1.size ≤ maxLen ∧ q.2.2.2.2.size ≤ maxLen

end Go.Proofs.Ytfajkkjppelgcaa
