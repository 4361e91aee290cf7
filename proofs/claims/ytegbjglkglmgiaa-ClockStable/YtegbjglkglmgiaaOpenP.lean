/- Rows of stamps and of layer 9's parts, and stamps by value, among a law's parameters. -/
import Derived.Test.YtegbjglkglmgiaaOpenR
import Derived.Test.YtegbjglkglmgiaaL1
namespace Go.Proofs.Ytegbjglkglmgiaa
open Go.ChangeShapes Go.WideShapes Go.RowKit
theorem Try.cInt : Try.prog.cellsOf 3 = 1 := by kernel_rfl

theorem Try.cStr : Try.prog.cellsOf 9 = 1 := by kernel_rfl

theorem choose_list {α : Type} {n : Nat} {R : Nat → α → Prop} (h : ∀ i, i < n → ∃ x, R i x) : ∃ l : List α, l.length = n ∧ ∀ i (hi : i < l.length), R i l[i] := by
  induction n with
  | zero => exact ⟨[], rfl, fun i hi => absurd hi (Nat.not_lt_zero _)⟩
  | succ n ih =>
    obtain ⟨l, hl, hR⟩ := ih (fun i hi => h i (by omega))
    obtain ⟨x, hx⟩ := h n (by omega)
    refine ⟨l ++ [x], by simp [hl], fun i hi => ?_⟩
    by_cases e : i < l.length
    · rw [List.getElem_append_left e]; exact hR i e
    · have : i = n := by simp at hi; omega
      subst this
      rw [List.getElem_append_right (by omega)]
      simpa [hl] using hx

/-- Stamps: the time, and who. -/
def stL (l : List (Int × Int)) (i : Nat) : Int × Int := l.getD i (0, 0)
def StampsAt (w : World) (a : Option Addr) (n : Nat) (l : List (Int × Int)) : Prop :=
  l.length = n ∧ (n = 0 ∨ ∃ b off, a = some ⟨b, off, none⟩ ∧ ∀ i, i < n → w.cell? ⟨b, off + i * 2, none⟩ = some (.int .i64 (stL l i).1) ∧ w.cell? ⟨b, off + i * 2 + 1, none⟩ = some (.int .i64 (stL l i).2))
theorem stamp_cells {H : Type} {enc : TypeId × Value → H} {w : World} {base : Nat} {spare : Nat → Bool} {held : Bool} {fuel : Nat} {cs : List Value} {x : DataW H × List MemPlace} (h : DataW.trod enc Try.prog w base spare held fuel 23 cs = some x) :
    ∃ t u : Int, cs = [.int .i64 t, .int .i64 u] ∧ (Lit.int .i64 t).wf = true ∧ (Lit.int .i64 u).wf = true := by
  have hl := struct_len Try.underlying23 h
  obtain ⟨n0, y0, h0⟩ := field_of Try.underlying23 h 0 3 0 1 rfl Try.cInt
  obtain ⟨n1, y1, h1⟩ := field_of Try.underlying23 h 1 3 1 1 rfl Try.cInt
  obtain ⟨t, ht, wt⟩ := cell_int Try.underlying3 h0
  obtain ⟨u, hu, wu⟩ := cell_int Try.underlying3 h1
  rw [show Try.prog.cellsOf 23 = 2 by kernel_rfl] at hl
  match cs, hl with
  | [c0, c1], _ =>
    have e0 : c0 = .int .i64 t := by simpa using ht
    have e1 : c1 = .int .i64 u := by simpa using hu
    exact ⟨t, u, by rw [e0, e1], wt, wu⟩
theorem stamp_of {H : Type} {enc : TypeId × Value → H} {w : World} {base : Nat} {spare : Nat → Bool} {held : Bool} {r : Reach} {b0 : Nat} {v : Value} {d : DataW H} {p : List MemPlace} (hv : Value.okWide Try.prog w r b0 23 v) (h : DataW.Trod enc Try.prog w base spare held 23 v d p) :
    ∃ t u : Int, v = .agg #[.int .i64 t, .int .i64 u] ∧ (Lit.int .i64 t).wf = true ∧ (Lit.int .i64 u).wf = true := by
  obtain ⟨cs, rfl, n, x, hx⟩ := agg_of Try.underlying23 hv h
  obtain ⟨t, u, hc, wt, wu⟩ := stamp_cells hx
  refine ⟨t, u, ?_, wt, wu⟩
  congr 1
  exact Array.toList_inj.1 hc

theorem stamps_of {H : Type} {enc : TypeId × Value → H} {w : World} {base : Nat} {held : Bool} {a : Option Addr} {len cap : Nat} {d : DataW H} {p : List MemPlace} (h : DataW.Trod enc Try.prog w base (fun _ => true) held 29 (.slice a len cap) d p) :
    ∃ l, StampsAt w a len l ∧ len ≤ maxLen ∧ ∀ q ∈ l, (Lit.int .i64 q.1).wf = true ∧ (Lit.int .i64 q.2).wf = true := by
  obtain ⟨hm, h0 | ⟨b, off, rfl, hr⟩⟩ := rows_of (c := 2) Try.underlying29 (by kernel_rfl) (by decide) h
  · exact ⟨List.replicate len (0, 0), ⟨by simp, .inl h0⟩, hm, fun q hq => by rw [(List.mem_replicate.1 hq).2]; exact ⟨by decide, by decide⟩⟩
  · obtain ⟨l, hl, hR⟩ := choose_list (n := len) (R := fun i (q : Int × Int) => (w.cell? ⟨b, off + i * 2, none⟩ = some (.int .i64 q.1) ∧ w.cell? ⟨b, off + i * 2 + 1, none⟩ = some (.int .i64 q.2)) ∧ (Lit.int .i64 q.1).wf = true ∧ (Lit.int .i64 q.2).wf = true) (fun i hi => by
      obtain ⟨n, x, cs, hcl, hcell, hx⟩ := hr i hi
      obtain ⟨t, u, rfl, wt, wu⟩ := stamp_cells hx
      have c0 := hcell 0 (by decide)
      have c1 := hcell 1 (by decide)
      rw [← Nat.add_assoc] at c0 c1
      exact ⟨(t, u), ⟨c0, c1⟩, wt, wu⟩)
    refine ⟨l, ⟨hl, .inr ⟨b, off, rfl, fun i hi => ?_⟩⟩, hm, fun q hq => ?_⟩
    · have h1 := (hR i (by omega)).1
      unfold stL
      rw [List.getD_eq_getElem?_getD, List.getElem?_eq_getElem (by omega)]
      exact h1
    · obtain ⟨i, hi, rfl⟩ := List.getElem_of_mem hq
      exact (hR i hi).2

theorem ints_of {H : Type} {enc : TypeId × Value → H} {w : World} {base : Nat} {held : Bool} {a : Option Addr} {len cap : Nat} {d : DataW H} {p : List MemPlace} (h : DataW.Trod enc Try.prog w base (fun _ => true) held 44 (.slice a len cap) d p) :
    ∃ l, IntsAt w .i64 a len l ∧ len ≤ maxLen ∧ ∀ q ∈ l, (Lit.int .i64 q).wf = true := by
  obtain ⟨fuel, hf⟩ := h
  rcases open_ints Try.underlying44 Try.underlying3 (by kernel_rfl) hf with ⟨hcs, _⟩ | ⟨x, l, c, zs, hcs, _, hl, hm, hz, _, hcell, hwz⟩
  · simp [Value.cells] at hcs
    obtain ⟨rfl, rfl, rfl⟩ := hcs
    exact ⟨[], ⟨rfl, .inl rfl⟩, Nat.zero_le _, fun q hq => by cases hq⟩
  · simp [Value.cells] at hcs
    obtain ⟨rfl, rfl, rfl⟩ := hcs
    have hr := ints_row (w := w) (K := .i64) (len := len) (cap := cap) (zs := zs) (.inr ⟨_, rfl, hl, hm, by simpa using hz, hcell, hwz⟩)
    exact ⟨zs.take len, hr.2, hr.1, fun q hq => hwz q (List.mem_of_mem_take hq)⟩

/-- Parts: the kind, two numbers, a text. -/
def ptL (l : List (Int × Int × Int × ByteArray)) (i : Nat) : Int × Int × Int × ByteArray := l.getD i (0, 0, 0, ByteArray.empty)
def PartsAt (w : World) (a : Option Addr) (n : Nat) (l : List (Int × Int × Int × ByteArray)) : Prop :=
  l.length = n ∧ (n = 0 ∨ ∃ b off, a = some ⟨b, off, none⟩ ∧ ∀ i, i < n → w.cell? ⟨b, off + i * 4, none⟩ = some (.int .i64 (ptL l i).1) ∧ w.cell? ⟨b, off + i * 4 + 1, none⟩ = some (.int .i64 (ptL l i).2.1) ∧ w.cell? ⟨b, off + i * 4 + 2, none⟩ = some (.int .i64 (ptL l i).2.2.1) ∧ w.cell? ⟨b, off + i * 4 + 3, none⟩ = some (.string (ptL l i).2.2.2))
def PartOk (q : Int × Int × Int × ByteArray) : Prop := (Lit.int .i64 q.1).wf = true ∧ (Lit.int .i64 q.2.1).wf = true ∧ (Lit.int .i64 q.2.2.1).wf = true ∧ q.2.2.2.size ≤ maxLen

end Go.Proofs.Ytegbjglkglmgiaa
