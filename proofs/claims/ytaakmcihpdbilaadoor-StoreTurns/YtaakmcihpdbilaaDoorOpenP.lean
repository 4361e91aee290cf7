/- Rows of stamps and of layer 9's parts, and stamps by value, among a law's parameters. -/
import Derived.Test.YtaakmcihpdbilaaDoorOpenR
import Derived.Test.YtaakmcihpdbilaaDoorL1
namespace Go.Proofs.YtaakmcihpdbilaaDoor
open Go.ChangeShapes Go.WideShapes Go.RowKit

theorem Tryd.cInt : Tryd.prog.cellsOf 3 = 1 := by kernel_rfl

theorem Tryd.cStr : Tryd.prog.cellsOf 9 = 1 := by kernel_rfl

theorem choose_list {α : Type} {n : Nat} {R : Nat → α → Prop} (h : ∀ i, i < n → ∃ x, R i x) : ∃ l : List α, l.length = n ∧ ∀ i (hi : i < l.length), R i l[i] := by
  induction n with
  | zero => exact ⟨[], rfl, fun i hi => absurd hi (Nat.not_lt_zero _)⟩
  | succ n ih =>
    obtain ⟨l, hl, hR⟩ := ih (fun i hi => h i (by omega))
    obtain ⟨x, hx⟩ := h n (by omega)
    refine ⟨l ++ [x], by simp [hl], fun i hi => ?_⟩
    by_cases e : i < l.length
    · rw [List.getElem_append_left e]; exact hR i e
    · have : i = n := by simp at hi; omega
      subst this
      rw [List.getElem_append_right (by omega)]
      simpa [hl] using hx

/-- Stamps: the time, and who. -/
def stL (l : List (Int × Int)) (i : Nat) : Int × Int := l.getD i (0, 0)

def StampsAt (w : World) (a : Option Addr) (n : Nat) (l : List (Int × Int)) : Prop :=
  l.length = n ∧ (n = 0 ∨ ∃ b off, a = some ⟨b, off, none⟩ ∧ ∀ i, i < n → w.cell? ⟨b, off + i * 2, none⟩ = some (.int .i64 (stL l i).1) ∧ w.cell? ⟨b, off + i * 2 + 1, none⟩ = some (.int .i64 (stL l i).2))

theorem ints_of {H : Type} {enc : TypeId × Value → H} {w : World} {base : Nat} {held : Bool} {a : Option Addr} {len cap : Nat} {d : DataW H} {p : List MemPlace} (h : DataW.Trod enc Tryd.prog w base (fun _ => true) held 23 (.slice a len cap) d p) :
    ∃ l, IntsAt w .i64 a len l ∧ len ≤ maxLen ∧ ∀ q ∈ l, (Lit.int .i64 q).wf = true := by
  obtain ⟨fuel, hf⟩ := h
  rcases open_ints Tryd.underlying23 Tryd.underlying3 (by kernel_rfl) hf with ⟨hcs, _⟩ | ⟨x, l, c, zs, hcs, _, hl, hm, hz, _, hcell, hwz⟩
  · simp [Value.cells] at hcs
    obtain ⟨rfl, rfl, rfl⟩ := hcs
    exact ⟨[], ⟨rfl, .inl rfl⟩, Nat.zero_le _, fun q hq => by cases hq⟩
  · simp [Value.cells] at hcs
    obtain ⟨rfl, rfl, rfl⟩ := hcs
    have hr := ints_row (w := w) (K := .i64) (len := len) (cap := cap) (zs := zs) (.inr ⟨_, rfl, hl, hm, by simpa using hz, hcell, hwz⟩)
    exact ⟨zs.take len, hr.2, hr.1, fun q hq => hwz q (List.mem_of_mem_take hq)⟩

/-- Parts: the kind, two numbers, a text. -/
def ptL (l : List (Int × Int × Int × ByteArray)) (i : Nat) : Int × Int × Int × ByteArray := l.getD i (0, 0, 0, ByteArray.empty)

def PartsAt (w : World) (a : Option Addr) (n : Nat) (l : List (Int × Int × Int × ByteArray)) : Prop :=
  l.length = n ∧ (n = 0 ∨ ∃ b off, a = some ⟨b, off, none⟩ ∧ ∀ i, i < n → w.cell? ⟨b, off + i * 4, none⟩ = some (.int .i64 (ptL l i).1) ∧ w.cell? ⟨b, off + i * 4 + 1, none⟩ = some (.int .i64 (ptL l i).2.1) ∧ w.cell? ⟨b, off + i * 4 + 2, none⟩ = some (.int .i64 (ptL l i).2.2.1) ∧ w.cell? ⟨b, off + i * 4 + 3, none⟩ = some (.string (ptL l i).2.2.2))

def PartOk (q : Int × Int × Int × ByteArray) : Prop := (Lit.int .i64 q.1).wf = true ∧ (Lit.int .i64 q.2.1).wf = true ∧ (Lit.int .i64 q.2.2.1).wf = true ∧ q.2.2.2.size ≤ maxLen

end Go.Proofs.YtaakmcihpdbilaaDoor
