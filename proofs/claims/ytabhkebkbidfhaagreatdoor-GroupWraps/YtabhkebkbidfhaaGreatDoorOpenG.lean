import Derived.Test.YtabhkebkbidfhaaGreatDoorOpenT
import Derived.Test.YtabhkebkbidfhaaGreatDoorRGpA
/- Groups by value, among a law's parameters. -/
namespace Go.Proofs.YtabhkebkbidfhaaGreatDoor
open Go.ChangeShapes Go.WideShapes Go.RowKit

theorem Tryz.cBool : Tryz.prog.cellsOf 4 = 1 := by kernel_rfl

theorem mem_cells {H : Type} {enc : TypeId × Value → H} {w : World} {base : Nat} {spare : Nat → Bool} {held : Bool} {fuel : Nat} {cs : List Value} {x : DataW H × List MemPlace} (h : DataW.trod enc Tryz.prog w base spare held fuel 54 cs = some x) :
    ∃ q : MemT, cs = [.int .i64 q.1, .int .i64 q.2.1, .bool q.2.2] ∧ (Lit.int .i64 q.1).wf = true := by
  have hl := struct_len Tryz.underlying54 h
  obtain ⟨n0, y0, h0⟩ := field_of Tryz.underlying54 h 0 3 0 1 rfl Tryz.cInt
  obtain ⟨n1, y1, h1⟩ := field_of Tryz.underlying54 h 1 3 1 1 rfl Tryz.cInt
  obtain ⟨n2, y2, h2⟩ := field_of Tryz.underlying54 h 2 4 2 1 rfl Tryz.cBool
  obtain ⟨k, hk, wk⟩ := cell_int Tryz.underlying3 h0
  obtain ⟨m, hm, _⟩ := cell_int Tryz.underlying3 h1
  obtain ⟨z, hz⟩ := cell_bool Tryz.underlying4 h2
  rw [show Tryz.prog.cellsOf 54 = 3 by kernel_rfl] at hl
  match cs, hl with
  | [v0, v1, v2], _ =>
    have e0 : v0 = .int .i64 k := by simpa using hk
    have e1 : v1 = .int .i64 m := by simpa using hm
    have e2 : v2 = .bool z := by simpa using hz
    exact ⟨(k, m, z), by rw [e0, e1, e2], wk⟩

theorem mems_of {H : Type} {enc : TypeId × Value → H} {w : World} {base : Nat} {held : Bool} {a : Option Addr} {len cap : Nat} {d : DataW H} {p : List MemPlace} (h : DataW.Trod enc Tryz.prog w base (fun _ => true) held 22 (.slice a len cap) d p) :
    ∃ l, MmsAt w a len l ∧ len ≤ maxLen ∧ (∀ i, (Lit.int .i64 (mmL l i).1).wf = true) := by
  obtain ⟨hm, h0 | ⟨b, off, rfl, hr⟩⟩ := rows_of (c := 3) Tryz.underlying22 (by kernel_rfl) (by decide) h
  · subst h0
    exact ⟨[], ⟨rfl, .inl rfl⟩, hm, fun i => (show (Lit.int .i64 (0 : Int)).wf = true by decide)⟩
  · obtain ⟨l, hl, hR⟩ := choose_list (n := len) (R := fun i (q : MemT) => (∀ j, j < 3 → w.cell? ⟨b, off + i * 3 + j, none⟩ = [Value.int .i64 q.1, Value.int .i64 q.2.1, Value.bool q.2.2][j]?) ∧ (Lit.int .i64 q.1).wf = true) (fun i hi => by
      obtain ⟨n, x, cs, hcl, hcell, hx⟩ := hr i hi
      obtain ⟨q, rfl, hq⟩ := mem_cells hx
      refine ⟨q, fun j hj => ?_, hq⟩
      rw [Nat.add_assoc, hcell j hj])
    refine ⟨l, ⟨hl, .inr ⟨b, off, rfl, fun i hi => ?_⟩⟩, hm, fun i => ?_⟩
    · rw [mmL_get l i (by omega)]
      have h1 := (hR i (by omega)).1
      exact ⟨h1 0 (by decide), h1 1 (by decide), h1 2 (by decide)⟩
    · by_cases hi : i < l.length
      · rw [mmL_get l i hi]
        exact (hR i hi).2
      · rw [show mmL l i = (0, 0, false) by unfold mmL; rw [List.getD_eq_getElem?_getD, List.getElem?_eq_none (by omega)]; rfl]
        decide

set_option maxRecDepth 100000 in
/-- A group by value. -/
theorem group_of {H : Type} {enc : TypeId × Value → H} {w : World} {base : Nat} {held : Bool} {r : Reach} {b0 : Nat} {v : Value} {d : DataW H} {p : List MemPlace} (hv : Value.okWide Tryz.prog w r b0 24 v) (h : DataW.Trod enc Tryz.prog w base (fun _ => true) held 24 v d p) :
    ∃ (G : GrpT) (a : Option Addr) (c : Nat), v = .agg (grpA G a c) ∧ MmsAt w a G.2.1.length G.2.1 ∧ (∀ i, (Lit.int .i64 (mmL G.2.1 i).1).wf = true) := by
  obtain ⟨cs, rfl, n, x, hx⟩ := agg_of Tryz.underlying24 hv h
  have hl := struct_len Tryz.underlying24 hx
  obtain ⟨n0, y0, h0⟩ := field_of Tryz.underlying24 hx 0 3 0 1 rfl Tryz.cInt
  obtain ⟨n1, y1, h1⟩ := field_of Tryz.underlying24 hx 1 22 1 1 rfl (by kernel_rfl)
  obtain ⟨n2, y2, h2⟩ := field_of Tryz.underlying24 hx 2 3 2 1 rfl Tryz.cInt
  obtain ⟨E, hE, _⟩ := cell_int Tryz.underlying3 h0
  obtain ⟨O, hO, _⟩ := cell_int Tryz.underlying3 h2
  rw [show Tryz.prog.cellsOf 24 = 3 by kernel_rfl] at hl
  obtain ⟨cl, hcl⟩ : ∃ cl, cs.toList = cl := ⟨_, rfl⟩
  rw [hcl] at hl hE hO h1
  match cl, hl, hcl with
  | [v0, v1, v2], _, hcl =>
    have h1' : DataW.trod enc Tryz.prog w base (fun _ => true) held n1 22 [v1] = some y1 := by simpa using h1
    obtain ⟨a, len, c, rfl, k⟩ := slice_cell Tryz.underlying22 h1'
    obtain ⟨l, l1, l2, l3⟩ := mems_of k
    have ln : l.length = len := l1.1
    subst ln
    have e0 : v0 = .int .i64 E := by simpa using hE
    have e2 : v2 = .int .i64 O := by simpa using hO
    refine ⟨(E, l, O), a, c, ?_, l1, l3⟩
    congr 1
    apply Array.toList_inj.1
    rw [hcl, e0, e2]
    rfl

theorem who_range {G : GrpT} (h : ∀ i, (Lit.int .i64 (mmL G.2.1 i).1).wf = true) : ∀ i, i < 6 → -9223372036854775808 ≤ (mmL G.2.1 i).1 ∧ (mmL G.2.1 i).1 ≤ 9223372036854775807 := by
  intro i _
  have := h i
  simp [Lit.wf] at this
  have h1 : IntKind.i64.min = -9223372036854775808 := by decide
  have h2 : IntKind.i64.max = 9223372036854775807 := by decide
  omega

end Go.Proofs.YtabhkebkbidfhaaGreatDoor
