/- Rows of stamps and of layer 9's parts, and stamps by value, among a law's parameters. -/
import Derived.Test.YtaomhhooipfjbaaDoorOpenR
import Derived.Test.YtaomhhooipfjbaaDoorL1
namespace Go.Proofs.YtaomhhooipfjbaaDoor
open Go.ChangeShapes Go.WideShapes Go.RowKit

theorem Tryd.cInt : Tryd.prog.cellsOf 3 = 1 := by kernel_rfl

theorem Tryd.cStr : Tryd.prog.cellsOf 9 = 1 := by kernel_rfl

theorem choose_list {α : Type} {n : Nat} {R : Nat → α → Prop} (h : ∀ i, i < n → ∃ x, R i x) : ∃ l : List α, l.length = n ∧ ∀ i (hi : i < l.length), R i l[i] := by
  induction n with
  | zero => exact ⟨[], rfl, fun i hi => absurd hi (Nat.not_lt_zero _)⟩
  | succ n ih =>
    obtain ⟨l, hl, hR⟩ := ih (fun i hi => h i (by omega))
    obtain ⟨x, hx⟩ := h n (by omega)
    refine ⟨l ++ [x], by simp [hl], fun i hi => ?_⟩
    by_cases e : i < l.length
    · rw [List.getElem_append_left e]; exact hR i e
    · have : i = n := by simp at hi; omega
      subst this
      rw [List.getElem_append_right (by omega)]
      simpa [hl] using hx

/-- Stamps: the time, and who. -/
def stL (l : List (Int × Int)) (i : Nat) : Int × Int := l.getD i (0, 0)

def StampsAt (w : World) (a : Option Addr) (n : Nat) (l : List (Int × Int)) : Prop :=
  l.length = n ∧ (n = 0 ∨ ∃ b off, a = some ⟨b, off, none⟩ ∧ ∀ i, i < n → w.cell? ⟨b, off + i * 2, none⟩ = some (.int .i64 (stL l i).1) ∧ w.cell? ⟨b, off + i * 2 + 1, none⟩ = some (.int .i64 (stL l i).2))

set_option maxRecDepth 100000 in
theorem stamp_cells {H : Type} {enc : TypeId × Value → H} {w : World} {base : Nat} {spare : Nat → Bool} {held : Bool} {fuel : Nat} {cs : List Value} {x : DataW H × List MemPlace} (h : DataW.trod enc Tryd.prog w base spare held fuel 28 cs = some x) :
    ∃ t u : Int, cs = [.int .i64 t, .int .i64 u] ∧ (Lit.int .i64 t).wf = true ∧ (Lit.int .i64 u).wf = true := by
  have hl := struct_len Tryd.underlying28 h
  obtain ⟨n0, y0, h0⟩ := field_of Tryd.underlying28 h 0 3 0 1 rfl Tryd.cInt
  obtain ⟨n1, y1, h1⟩ := field_of Tryd.underlying28 h 1 3 1 1 rfl Tryd.cInt
  obtain ⟨t, ht, wt⟩ := cell_int Tryd.underlying3 h0
  obtain ⟨u, hu, wu⟩ := cell_int Tryd.underlying3 h1
  rw [show Tryd.prog.cellsOf 28 = 2 by kernel_rfl] at hl
  match cs, hl with
  | [c0, c1], _ =>
    have e0 : c0 = .int .i64 t := by simpa using ht
    have e1 : c1 = .int .i64 u := by simpa using hu
    exact ⟨t, u, by rw [e0, e1], wt, wu⟩

set_option maxRecDepth 100000 in
theorem stamp_of {H : Type} {enc : TypeId × Value → H} {w : World} {base : Nat} {spare : Nat → Bool} {held : Bool} {r : Reach} {b0 : Nat} {v : Value} {d : DataW H} {p : List MemPlace} (hv : Value.okWide Tryd.prog w r b0 28 v) (h : DataW.Trod enc Tryd.prog w base spare held 28 v d p) :
    ∃ t u : Int, v = .agg #[.int .i64 t, .int .i64 u] ∧ (Lit.int .i64 t).wf = true ∧ (Lit.int .i64 u).wf = true := by
  obtain ⟨cs, rfl, n, x, hx⟩ := agg_of Tryd.underlying28 hv h
  obtain ⟨t, u, hc, wt, wu⟩ := stamp_cells hx
  refine ⟨t, u, ?_, wt, wu⟩
  congr 1
  exact Array.toList_inj.1 hc

/-- Parts: the kind, two numbers, a text. -/
def ptL (l : List (Int × Int × Int × ByteArray)) (i : Nat) : Int × Int × Int × ByteArray := l.getD i (0, 0, 0, ByteArray.empty)

def PartsAt (w : World) (a : Option Addr) (n : Nat) (l : List (Int × Int × Int × ByteArray)) : Prop :=
  l.length = n ∧ (n = 0 ∨ ∃ b off, a = some ⟨b, off, none⟩ ∧ ∀ i, i < n → w.cell? ⟨b, off + i * 4, none⟩ = some (.int .i64 (ptL l i).1) ∧ w.cell? ⟨b, off + i * 4 + 1, none⟩ = some (.int .i64 (ptL l i).2.1) ∧ w.cell? ⟨b, off + i * 4 + 2, none⟩ = some (.int .i64 (ptL l i).2.2.1) ∧ w.cell? ⟨b, off + i * 4 + 3, none⟩ = some (.string (ptL l i).2.2.2))

def PartOk (q : Int × Int × Int × ByteArray) : Prop := (Lit.int .i64 q.1).wf = true ∧ (Lit.int .i64 q.2.1).wf = true ∧ (Lit.int .i64 q.2.2.1).wf = true ∧ q.2.2.2.size ≤ maxLen

end Go.Proofs.YtaomhhooipfjbaaDoor
