/- A row of records among a law's parameters. -/
import Derived.Test.YtkmdajenbidaaaaDoorOpenW
namespace Go.Proofs.YtkmdajenbidaaaaDoor
open Go.ChangeShapes Go.WideShapes Go.RowKit
set_option linter.unusedSimpArgs false
set_option linter.unusedVariables false

set_option maxRecDepth 100000 in
/-- A record's cells. -/
theorem record_cells {H : Type} {enc : TypeId × Value → H} {w : World} {base : Nat} {held : Bool} {fuel : Nat} {cs : List Value} {x : DataW H × List MemPlace} (hx : DataW.trod enc Tryd.prog w base (fun _ => true) held fuel 35 cs = some x) :
    ∃ (R : RecT) (a : Option Addr) (c : Nat), cs = (recA R a c).toList ∧ WrAt w a R.2.2.2.2.2.2.2.length R.2.2.2.2.2.2.2 ∧ R.2.2.2.2.2.2.2.length ≤ maxLen ∧ (∀ i, (wrL R.2.2.2.2.2.2.2 i).2.size ≤ maxLen) ∧ (SliceOk a R.2.2.2.2.2.2.2.length c ∧ c ≤ maxLen) ∧ R.2.2.2.2.1.size ≤ maxLen ∧ OpOk R.2.2.2.2.2.1 := by
  have hl := struct_len Tryd.underlying35 hx
  obtain ⟨n0, y0, h0⟩ := field_of Tryd.underlying35 hx 0 3 0 1 rfl Tryd.cInt
  obtain ⟨n1, y1, h1⟩ := field_of Tryd.underlying35 hx 1 3 1 1 rfl Tryd.cInt
  obtain ⟨n2, y2, h2⟩ := field_of Tryd.underlying35 hx 2 3 2 1 rfl Tryd.cInt
  obtain ⟨n3, y3, h3⟩ := field_of Tryd.underlying35 hx 3 3 3 1 rfl Tryd.cInt
  obtain ⟨n4, y4, h4⟩ := field_of Tryd.underlying35 hx 4 9 4 1 rfl Tryd.cStr
  obtain ⟨n5, y5, h5⟩ := field_of Tryd.underlying35 hx 5 32 5 9 rfl (by kernel_rfl)
  obtain ⟨n6, y6, h6⟩ := field_of Tryd.underlying35 hx 6 3 14 1 rfl Tryd.cInt
  obtain ⟨n7, y7, h7⟩ := field_of Tryd.underlying35 hx 7 33 15 1 rfl (by kernel_rfl)
  obtain ⟨K, hK, _⟩ := cell_int Tryd.underlying3 h0
  obtain ⟨F, hF, _⟩ := cell_int Tryd.underlying3 h1
  obtain ⟨C, hC, _⟩ := cell_int Tryd.underlying3 h2
  obtain ⟨S, hS, _⟩ := cell_int Tryd.underlying3 h3
  obtain ⟨Hd, hHd, wHd⟩ := cell_str Tryd.underlying9 h4
  obtain ⟨o, ho, wo⟩ := op_cells h5
  obtain ⟨q, hq, _⟩ := cell_int Tryd.underlying3 h6
  rw [show Tryd.prog.cellsOf 35 = 16 by kernel_rfl] at hl
  obtain ⟨k0, ⟨k1, k2⟩, ⟨k3, k4⟩, ⟨k5, k6⟩, s7, s8⟩ := o
  match cs, hl with
  | [v0, v1, v2, v3, v4, v5, v6, v7, v8, v9, v10, v11, v12, v13, v14, v15], _ =>
    have h7' : DataW.trod enc Tryd.prog w base (fun _ => true) held n7 33 [v15] = some y7 := by simpa using h7
    obtain ⟨a, len, c, rfl, k⟩ := slice_cell Tryd.underlying33 h7'
    obtain ⟨l, l1, l2, l3, l4⟩ := wraps_of k
    have ln : l.length = len := l1.1
    subst ln
    have e0 : v0 = .int .i64 K := by simpa using hK
    have e1 : v1 = .int .i64 F := by simpa using hF
    have e2 : v2 = .int .i64 C := by simpa using hC
    have e3 : v3 = .int .i64 S := by simpa using hS
    have e4 : v4 = .string Hd := by simpa using hHd
    have e5 : v5 = .int .i64 k0 ∧ v6 = .int .i64 k1 ∧ v7 = .int .i64 k2 ∧ v8 = .int .i64 k3 ∧ v9 = .int .i64 k4 ∧ v10 = .int .i64 k5 ∧ v11 = .int .i64 k6 ∧ v12 = .string s7 ∧ v13 = .string s8 := by simpa [opA] using ho
    have e14 : v14 = .int .i64 q := by simpa using hq
    refine ⟨(K, F, C, S, Hd, (k0, (k1, k2), (k3, k4), (k5, k6), s7, s8), q, l), a, c, ?_, l1, l2, l3, l4, wHd, wo⟩
    rw [e0, e1, e2, e3, e4, e5.1, e5.2.1, e5.2.2.1, e5.2.2.2.1, e5.2.2.2.2.1, e5.2.2.2.2.2.1, e5.2.2.2.2.2.2.1, e5.2.2.2.2.2.2.2.1, e5.2.2.2.2.2.2.2.2, e14]
    rfl


/-- A record that lies in a row: itself, and its wraps' row. -/
abbrev RxcT := RecT × Option Addr × Nat
def rcL (L : List RxcT) (i : Nat) : RxcT := L.getD i (rec0, none, 0)
structure RxcOk (w : World) (x : RxcT) : Prop where
  at' : WrAt w x.2.1 x.1.2.2.2.2.2.2.2.length x.1.2.2.2.2.2.2.2
  n : x.1.2.2.2.2.2.2.2.length ≤ maxLen
  z : ∀ i, (wrL x.1.2.2.2.2.2.2.2 i).2.size ≤ maxLen
  ok : SliceOk x.2.1 x.1.2.2.2.2.2.2.2.length x.2.2
  c : x.2.2 ≤ maxLen
  h : x.1.2.2.2.2.1.size ≤ maxLen
  o : OpOk x.1.2.2.2.2.2.1

def RcsAt (w : World) (a : Option Addr) (n : Nat) (L : List RxcT) : Prop :=
  n = 0 ∨ ∃ b off, a = some ⟨b, off, none⟩ ∧ ∀ i, i < n → (∀ j, j < 16 → w.cell? ⟨b, off + i * 16 + j, none⟩ = (recA (rcL L i).1 (rcL L i).2.1 (rcL L i).2.2)[j]?) ∧ RxcOk w (rcL L i)

theorem RcsAt.below {w w' : World} {a : Option Addr} {n : Nat} {L : List RxcT} (h : RcsAt w a n L) (hb : Below w.heap.size w w') : RcsAt w' a n L := by
  refine h.imp id (fun ⟨b, off, e, hc⟩ => ⟨b, off, e, fun i hi => ?_⟩)
  obtain ⟨h1, h2⟩ := hc i hi
  refine ⟨fun j hj => ?_, ⟨h2.at'.below hb, h2.n, h2.z, h2.ok, h2.c, h2.h, h2.o⟩⟩
  have h3 := h1 j hj
  obtain ⟨u, hu⟩ : ∃ u, (recA (rcL L i).1 (rcL L i).2.1 (rcL L i).2.2)[j]? = some u := ⟨_, Array.getElem?_eq_getElem (by show j < 16; exact hj)⟩
  rw [hu] at h3 ⊢
  rw [hb.cell (World.block_lt_of_cell? w _ h3)]
  exact h3

theorem records_of {H : Type} {enc : TypeId × Value → H} {w : World} {base : Nat} {held : Bool} {a : Option Addr} {len cap : Nat} {d : DataW H} {p : List MemPlace} (h : DataW.Trod enc Tryd.prog w base (fun _ => true) held 22 (.slice a len cap) d p) :
    ∃ L, RcsAt w a len L ∧ len ≤ maxLen := by
  obtain ⟨hm, h0 | ⟨b, off, rfl, hr⟩⟩ := rows_of (c := 16) Tryd.underlying22 (by kernel_rfl) (by decide) h
  · exact ⟨[], .inl h0, hm⟩
  · obtain ⟨L, hl, hR⟩ := choose_list (n := len) (R := fun i (q : RxcT) => (∀ j, j < 16 → w.cell? ⟨b, off + i * 16 + j, none⟩ = (recA q.1 q.2.1 q.2.2)[j]?) ∧ RxcOk w q) (fun i hi => by
      obtain ⟨n, x, cs, hcl, hcell, hx⟩ := hr i hi
      obtain ⟨R, ra, rc, rfl, k1, k2, k3, k4, k5, k6⟩ := record_cells hx
      refine ⟨(R, ra, rc), fun j hj => ?_, ⟨k1, k2, k3, k4.1, k4.2, k5, k6⟩⟩
      rw [Nat.add_assoc, hcell j hj]
      simp)
    refine ⟨L, .inr ⟨b, off, rfl, fun i hi => ?_⟩, hm⟩
    have e : rcL L i = L[i]'(by omega) := by unfold rcL; rw [List.getD_eq_getElem?_getD, List.getElem?_eq_getElem (by omega)]; rfl
    rw [e]
    exact hR i (by omega)

end Go.Proofs.YtkmdajenbidaaaaDoor
