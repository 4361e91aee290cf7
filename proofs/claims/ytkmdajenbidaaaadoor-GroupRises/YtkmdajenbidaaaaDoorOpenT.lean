/- Rows of operations and of nodes, and snapshots by value, among a law's parameters. -/
import Derived.Test.YtkmdajenbidaaaaDoorBA
import Derived.Test.YtkmdajenbidaaaaDoorRT
namespace Go.Proofs.YtkmdajenbidaaaaDoor
open Go.ChangeShapes Go.WideShapes Go.RowKit

def OpOk (q : OpT) : Prop := (Lit.int .i64 q.1).wf = true ∧ q.2.2.2.2.1.size ≤ maxLen ∧ q.2.2.2.2.2.size ≤ maxLen

def NodeOkT (q : NodeT) : Prop := q.2.2.1.size ≤ maxLen ∧ q.2.2.2.size ≤ maxLen

theorem op_cells {H : Type} {enc : TypeId × Value → H} {w : World} {base : Nat} {spare : Nat → Bool} {held : Bool} {fuel : Nat} {cs : List Value} {x : DataW H × List MemPlace} (h : DataW.trod enc Tryd.prog w base spare held fuel 32 cs = some x) :
    ∃ q : OpT, cs = (opA q).toList ∧ OpOk q := by
  have hl := struct_len Tryd.underlying32 h
  obtain ⟨n0, y0, h0⟩ := field_of Tryd.underlying32 h 0 3 0 1 rfl Tryd.cInt
  obtain ⟨n1, y1, h1⟩ := field_of Tryd.underlying32 h 1 30 1 2 rfl (by kernel_rfl)
  obtain ⟨n2, y2, h2⟩ := field_of Tryd.underlying32 h 2 30 3 2 rfl (by kernel_rfl)
  obtain ⟨n3, y3, h3⟩ := field_of Tryd.underlying32 h 3 30 5 2 rfl (by kernel_rfl)
  obtain ⟨n4, y4, h4⟩ := field_of Tryd.underlying32 h 4 9 7 1 rfl Tryd.cStr
  obtain ⟨n5, y5, h5⟩ := field_of Tryd.underlying32 h 5 9 8 1 rfl Tryd.cStr
  obtain ⟨k, hk, wk⟩ := cell_int Tryd.underlying3 h0
  obtain ⟨a, b, hab, _, _⟩ := stamp_cells h1
  obtain ⟨c, d, hcd, _, _⟩ := stamp_cells h2
  obtain ⟨e, f, hef, _, _⟩ := stamp_cells h3
  obtain ⟨s, hs, ws⟩ := cell_str Tryd.underlying9 h4
  obtain ⟨t, ht, wt⟩ := cell_str Tryd.underlying9 h5
  rw [show Tryd.prog.cellsOf 32 = 9 by kernel_rfl] at hl
  match cs, hl with
  | [v0, v1, v2, v3, v4, v5, v6, v7, v8], _ =>
    have e0 : v0 = .int .i64 k := by simpa using hk
    have e1 : v1 = .int .i64 a ∧ v2 = .int .i64 b := by simpa using hab
    have e2 : v3 = .int .i64 c ∧ v4 = .int .i64 d := by simpa using hcd
    have e3 : v5 = .int .i64 e ∧ v6 = .int .i64 f := by simpa using hef
    have e4 : v7 = .string s := by simpa using hs
    have e5 : v8 = .string t := by simpa using ht
    exact ⟨(k, (a, b), (c, d), (e, f), s, t), by rw [e0, e1.1, e1.2, e2.1, e2.2, e3.1, e3.2, e4, e5]; rfl, wk, ws, wt⟩

set_option maxRecDepth 100000 in
/-- An operation by value. -/
theorem op_of {H : Type} {enc : TypeId × Value → H} {w : World} {base : Nat} {spare : Nat → Bool} {held : Bool} {r : Reach} {b0 : Nat} {v : Value} {d : DataW H} {p : List MemPlace} (hv : Value.okWide Tryd.prog w r b0 32 v) (h : DataW.Trod enc Tryd.prog w base spare held 32 v d p) :
    ∃ q : OpT, v = .agg (opA q) ∧ OpOk q := by
  obtain ⟨cs, rfl, n, x, hx⟩ := agg_of Tryd.underlying32 hv h
  obtain ⟨q, hc, hq⟩ := op_cells hx
  refine ⟨q, ?_, hq⟩
  congr 1
  exact Array.toList_inj.1 hc

theorem slice_cell {H : Type} {enc : TypeId × Value → H} {P : Program} {w : World} {base : Nat} {held : Bool} {t e : TypeId} {n : Nat} {c : Value} {y : DataW H × List MemPlace} (ht : P.underlying t = some (.slice e)) (h : DataW.trod enc P w base (fun _ => true) held n t [c] = some y) :
    ∃ a len cap, c = .slice a len cap ∧ DataW.Trod enc P w base (fun _ => true) held t (.slice a len cap) y.1 y.2 := by
  rcases Go.Deep.open_slice ht h with ⟨hcs, _⟩ | ⟨x, l, cp, m, k, D, Pl, hcs, _⟩
  · simp at hcs
    subst hcs
    exact ⟨none, 0, 0, rfl, n, by simpa [Value.cells] using h⟩
  · simp at hcs
    subst hcs
    exact ⟨_, _, _, rfl, n, by simpa [Value.cells] using h⟩

end Go.Proofs.YtkmdajenbidaaaaDoor
