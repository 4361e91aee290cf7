/- Rows of law 18's acts, opened. -/
import Derived.Test.YtaakmcihpdbilaaGreatDoorBA
namespace Go.Proofs.YtaakmcihpdbilaaGreatDoor
open Go.RowKit
set_option maxRecDepth 100000
set_option linter.unusedSimpArgs false

/-- Acts: the kind, a number, a text. -/
def atE (l : List (Int × Int × ByteArray)) (i : Nat) : Int × Int × ByteArray := l.getD i (0, 0, ByteArray.empty)

def ActsAt18 (w : World) (a : Option Addr) (n : Nat) (l : List (Int × Int × ByteArray)) : Prop :=
  l.length = n ∧ (n = 0 ∨ ∃ b off, a = some ⟨b, off, none⟩ ∧ ∀ i, i < n → w.cell? ⟨b, off + i * 3, none⟩ = some (.int .i64 (atE l i).1) ∧ w.cell? ⟨b, off + i * 3 + 1, none⟩ = some (.int .i64 (atE l i).2.1) ∧ w.cell? ⟨b, off + i * 3 + 2, none⟩ = some (.string (atE l i).2.2))

def ActOk18 (q : Int × Int × ByteArray) : Prop := (Lit.int .i64 q.1).wf = true ∧ (Lit.int .i64 q.2.1).wf = true ∧ q.2.2.size ≤ maxLen

theorem act_cells18 {H : Type} {enc : TypeId × Value → H} {w : World} {base : Nat} {spare : Nat → Bool} {held : Bool} {fuel : Nat} {cs : List Value} {x : DataW H × List MemPlace} (h : DataW.trod enc Tryz.prog w base spare held fuel 40 cs = some x) :
    ∃ q : Int × Int × ByteArray, cs = [.int .i64 q.1, .int .i64 q.2.1, .string q.2.2] ∧ ActOk18 q := by
  have hl := struct_len Tryz.underlying40 h
  obtain ⟨n0, y0, h0⟩ := field_of Tryz.underlying40 h 0 3 0 1 rfl Tryz.cInt
  obtain ⟨n1, y1, h1⟩ := field_of Tryz.underlying40 h 1 3 1 1 rfl Tryz.cInt
  obtain ⟨n2, y2, h2⟩ := field_of Tryz.underlying40 h 2 9 2 1 rfl Tryz.cStr
  obtain ⟨k, hk, wk⟩ := cell_int Tryz.underlying3 h0
  obtain ⟨n, hn, wn⟩ := cell_int Tryz.underlying3 h1
  obtain ⟨s, hs, ws⟩ := cell_str Tryz.underlying9 h2
  rw [show Tryz.prog.cellsOf 40 = 3 by kernel_rfl] at hl
  match cs, hl with
  | [c0, c1, c2], _ =>
    have e0 : c0 = .int .i64 k := by simpa using hk
    have e1 : c1 = .int .i64 n := by simpa using hn
    have e2 : c2 = .string s := by simpa using hs
    exact ⟨(k, n, s), by rw [e0, e1, e2], wk, wn, ws⟩

theorem acts18_of {H : Type} {enc : TypeId × Value → H} {w : World} {base : Nat} {held : Bool} {a : Option Addr} {len cap : Nat} {d : DataW H} {p : List MemPlace} (h : DataW.Trod enc Tryz.prog w base (fun _ => true) held 22 (.slice a len cap) d p) :
    ∃ l, ActsAt18 w a len l ∧ len ≤ maxLen ∧ ∀ q ∈ l, ActOk18 q := by
  obtain ⟨hm, h0 | ⟨b, off, rfl, hr⟩⟩ := rows_of (c := 3) Tryz.underlying22 (by kernel_rfl) (by decide) h
  · exact ⟨List.replicate len (0, 0, ByteArray.empty), ⟨by simp, .inl h0⟩, hm, fun q hq => by rw [(List.mem_replicate.1 hq).2]; exact ⟨by decide, by decide, Nat.zero_le _⟩⟩
  · obtain ⟨l, hl, hR⟩ := choose_list (n := len) (R := fun i (q : Int × Int × ByteArray) => (w.cell? ⟨b, off + i * 3, none⟩ = some (.int .i64 q.1) ∧ w.cell? ⟨b, off + i * 3 + 1, none⟩ = some (.int .i64 q.2.1) ∧ w.cell? ⟨b, off + i * 3 + 2, none⟩ = some (.string q.2.2)) ∧ ActOk18 q) (fun i hi => by
      obtain ⟨n, x, cs, hcl, hcell, hx⟩ := hr i hi
      obtain ⟨q, rfl, hq⟩ := act_cells18 hx
      have c0 := hcell 0 (by decide)
      have c1 := hcell 1 (by decide)
      have c2 := hcell 2 (by decide)
      rw [← Nat.add_assoc] at c0 c1 c2
      exact ⟨q, ⟨c0, c1, c2⟩, hq⟩)
    refine ⟨l, ⟨hl, .inr ⟨b, off, rfl, fun i hi => ?_⟩⟩, hm, fun q hq => ?_⟩
    · have h1 := (hR i (by omega)).1
      unfold atE
      rw [List.getD_eq_getElem?_getD, List.getElem?_eq_getElem (by omega)]
      exact h1
    · obtain ⟨i, hi, rfl⟩ := List.getElem_of_mem hq
      exact (hR i hi).2

end Go.Proofs.YtaakmcihpdbilaaGreatDoor
