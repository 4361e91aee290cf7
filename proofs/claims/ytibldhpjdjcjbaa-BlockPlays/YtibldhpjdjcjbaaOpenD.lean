/- Rows of law 17's acts, opened. -/
import Derived.Test.YtibldhpjdjcjbaaOpenP
namespace Go.Proofs.Ytibldhpjdjcjbaa
open Go.RowKit
set_option maxRecDepth 100000
set_option linter.unusedSimpArgs false

theorem Try.cU8 : Try.prog.cellsOf 5 = 1 := by kernel_rfl

/-- Acts: the kind, the place, a byte, a text. -/
def atL (l : List (Int × Int × Int × ByteArray)) (i : Nat) : Int × Int × Int × ByteArray := l.getD i (0, 0, 0, ByteArray.empty)

def ActsAt17 (w : World) (a : Option Addr) (n : Nat) (l : List (Int × Int × Int × ByteArray)) : Prop :=
  l.length = n ∧ (n = 0 ∨ ∃ b off, a = some ⟨b, off, none⟩ ∧ ∀ i, i < n → w.cell? ⟨b, off + i * 4, none⟩ = some (.int .i64 (atL l i).1) ∧ w.cell? ⟨b, off + i * 4 + 1, none⟩ = some (.int .i64 (atL l i).2.1) ∧ w.cell? ⟨b, off + i * 4 + 2, none⟩ = some (.int .u8 (atL l i).2.2.1) ∧ w.cell? ⟨b, off + i * 4 + 3, none⟩ = some (.string (atL l i).2.2.2))

def ActOk17 (q : Int × Int × Int × ByteArray) : Prop := (Lit.int .i64 q.1).wf = true ∧ (Lit.int .i64 q.2.1).wf = true ∧ (Lit.int .u8 q.2.2.1).wf = true ∧ q.2.2.2.size ≤ maxLen

theorem act_cells17 {H : Type} {enc : TypeId × Value → H} {w : World} {base : Nat} {spare : Nat → Bool} {held : Bool} {fuel : Nat} {cs : List Value} {x : DataW H × List MemPlace} (h : DataW.trod enc Try.prog w base spare held fuel 34 cs = some x) :
    ∃ q : Int × Int × Int × ByteArray, cs = [.int .i64 q.1, .int .i64 q.2.1, .int .u8 q.2.2.1, .string q.2.2.2] ∧ ActOk17 q := by
  have hl := struct_len Try.underlying34 h
  obtain ⟨n0, y0, h0⟩ := field_of Try.underlying34 h 0 3 0 1 rfl Try.cInt
  obtain ⟨n1, y1, h1⟩ := field_of Try.underlying34 h 1 3 1 1 rfl Try.cInt
  obtain ⟨n2, y2, h2⟩ := field_of Try.underlying34 h 2 5 2 1 rfl Try.cU8
  obtain ⟨n3, y3, h3⟩ := field_of Try.underlying34 h 3 9 3 1 rfl Try.cStr
  obtain ⟨k, hk, wk⟩ := cell_int Try.underlying3 h0
  obtain ⟨n, hn, wn⟩ := cell_int Try.underlying3 h1
  obtain ⟨m, hm, wm⟩ := cell_int Try.underlying5 h2
  obtain ⟨s, hs, ws⟩ := cell_str Try.underlying9 h3
  rw [show Try.prog.cellsOf 34 = 4 by kernel_rfl] at hl
  match cs, hl with
  | [c0, c1, c2, c3], _ =>
    have e0 : c0 = .int .i64 k := by simpa using hk
    have e1 : c1 = .int .i64 n := by simpa using hn
    have e2 : c2 = .int .u8 m := by simpa using hm
    have e3 : c3 = .string s := by simpa using hs
    exact ⟨(k, n, m, s), by rw [e0, e1, e2, e3], wk, wn, wm, ws⟩

theorem acts17_of {H : Type} {enc : TypeId × Value → H} {w : World} {base : Nat} {held : Bool} {a : Option Addr} {len cap : Nat} {d : DataW H} {p : List MemPlace} (h : DataW.Trod enc Try.prog w base (fun _ => true) held 22 (.slice a len cap) d p) :
    ∃ l, ActsAt17 w a len l ∧ len ≤ maxLen ∧ ∀ q ∈ l, ActOk17 q := by
  obtain ⟨hm, h0 | ⟨b, off, rfl, hr⟩⟩ := rows_of (c := 4) Try.underlying22 (by kernel_rfl) (by decide) h
  · exact ⟨List.replicate len (0, 0, 0, ByteArray.empty), ⟨by simp, .inl h0⟩, hm, fun q hq => by rw [(List.mem_replicate.1 hq).2]; exact ⟨by decide, by decide, by decide, Nat.zero_le _⟩⟩
  · obtain ⟨l, hl, hR⟩ := choose_list (n := len) (R := fun i (q : Int × Int × Int × ByteArray) => (w.cell? ⟨b, off + i * 4, none⟩ = some (.int .i64 q.1) ∧ w.cell? ⟨b, off + i * 4 + 1, none⟩ = some (.int .i64 q.2.1) ∧ w.cell? ⟨b, off + i * 4 + 2, none⟩ = some (.int .u8 q.2.2.1) ∧ w.cell? ⟨b, off + i * 4 + 3, none⟩ = some (.string q.2.2.2)) ∧ ActOk17 q) (fun i hi => by
      obtain ⟨n, x, cs, hcl, hcell, hx⟩ := hr i hi
      obtain ⟨q, rfl, hq⟩ := act_cells17 hx
      have c0 := hcell 0 (by decide)
      have c1 := hcell 1 (by decide)
      have c2 := hcell 2 (by decide)
      have c3 := hcell 3 (by decide)
      rw [← Nat.add_assoc] at c0 c1 c2 c3
      exact ⟨q, ⟨c0, c1, c2, c3⟩, hq⟩)
    refine ⟨l, ⟨hl, .inr ⟨b, off, rfl, fun i hi => ?_⟩⟩, hm, fun q hq => ?_⟩
    · have h1 := (hR i (by omega)).1
      unfold atL
      rw [List.getD_eq_getElem?_getD, List.getElem?_eq_getElem (by omega)]
      exact h1
    · obtain ⟨i, hi, rfl⟩ := List.getElem_of_mem hq
      exact (hR i hi).2

end Go.Proofs.Ytibldhpjdjcjbaa
