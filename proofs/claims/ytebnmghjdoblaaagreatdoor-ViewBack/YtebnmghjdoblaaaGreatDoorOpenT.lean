/- Rows of operations and of nodes, and snapshots by value, among a law's parameters. -/
import Derived.Test.YtebnmghjdoblaaaGreatDoorBA
import Derived.Test.YtebnmghjdoblaaaGreatDoorRT
import Derived.Test.YtebnmghjdoblaaaGreatDoorTS
namespace Go.Proofs.YtebnmghjdoblaaaGreatDoor
open Go.ChangeShapes Go.WideShapes Go.RowKit



theorem op_cells {H : Type} {enc : TypeId × Value → H} {w : World} {base : Nat} {spare : Nat → Bool} {held : Bool} {fuel : Nat} {cs : List Value} {x : DataW H × List MemPlace} (h : DataW.trod enc Tryz.prog w base spare held fuel 56 cs = some x) :
    ∃ q : OpT, cs = (opA q).toList ∧ OpOk q := by
  have hl := struct_len Tryz.underlying56 h
  obtain ⟨n0, y0, h0⟩ := field_of Tryz.underlying56 h 0 3 0 1 rfl Tryz.cInt
  obtain ⟨n1, y1, h1⟩ := field_of Tryz.underlying56 h 1 36 1 2 rfl (by kernel_rfl)
  obtain ⟨n2, y2, h2⟩ := field_of Tryz.underlying56 h 2 36 3 2 rfl (by kernel_rfl)
  obtain ⟨n3, y3, h3⟩ := field_of Tryz.underlying56 h 3 36 5 2 rfl (by kernel_rfl)
  obtain ⟨n4, y4, h4⟩ := field_of Tryz.underlying56 h 4 9 7 1 rfl Tryz.cStr
  obtain ⟨n5, y5, h5⟩ := field_of Tryz.underlying56 h 5 9 8 1 rfl Tryz.cStr
  obtain ⟨k, hk, wk⟩ := cell_int Tryz.underlying3 h0
  obtain ⟨a, b, hab, _, _⟩ := stamp_cells h1
  obtain ⟨c, d, hcd, _, _⟩ := stamp_cells h2
  obtain ⟨e, f, hef, _, _⟩ := stamp_cells h3
  obtain ⟨s, hs, ws⟩ := cell_str Tryz.underlying9 h4
  obtain ⟨t, ht, wt⟩ := cell_str Tryz.underlying9 h5
  rw [show Tryz.prog.cellsOf 56 = 9 by kernel_rfl] at hl
  match cs, hl with
  | [v0, v1, v2, v3, v4, v5, v6, v7, v8], _ =>
    have e0 : v0 = .int .i64 k := by simpa using hk
    have e1 : v1 = .int .i64 a ∧ v2 = .int .i64 b := by simpa using hab
    have e2 : v3 = .int .i64 c ∧ v4 = .int .i64 d := by simpa using hcd
    have e3 : v5 = .int .i64 e ∧ v6 = .int .i64 f := by simpa using hef
    have e4 : v7 = .string s := by simpa using hs
    have e5 : v8 = .string t := by simpa using ht
    exact ⟨(k, (a, b), (c, d), (e, f), s, t), by rw [e0, e1.1, e1.2, e2.1, e2.2, e3.1, e3.2, e4, e5]; rfl, wk, ws, wt⟩

theorem node_cells {H : Type} {enc : TypeId × Value → H} {w : World} {base : Nat} {spare : Nat → Bool} {held : Bool} {fuel : Nat} {cs : List Value} {x : DataW H × List MemPlace} (h : DataW.trod enc Tryz.prog w base spare held fuel 45 cs = some x) :
    ∃ q : NodeT, cs = (nodeA q).toList ∧ NodeOkT q := by
  have hl := struct_len Tryz.underlying45 h
  obtain ⟨n1, y1, h1⟩ := field_of Tryz.underlying45 h 0 36 0 2 rfl (by kernel_rfl)
  obtain ⟨n2, y2, h2⟩ := field_of Tryz.underlying45 h 1 36 2 2 rfl (by kernel_rfl)
  obtain ⟨n4, y4, h4⟩ := field_of Tryz.underlying45 h 2 9 4 1 rfl Tryz.cStr
  obtain ⟨n5, y5, h5⟩ := field_of Tryz.underlying45 h 3 9 5 1 rfl Tryz.cStr
  obtain ⟨a, b, hab, _, _⟩ := stamp_cells h1
  obtain ⟨c, d, hcd, _, _⟩ := stamp_cells h2
  obtain ⟨s, hs, ws⟩ := cell_str Tryz.underlying9 h4
  obtain ⟨t, ht, wt⟩ := cell_str Tryz.underlying9 h5
  rw [show Tryz.prog.cellsOf 45 = 6 by kernel_rfl] at hl
  match cs, hl with
  | [v1, v2, v3, v4, v7, v8], _ =>
    have e1 : v1 = .int .i64 a ∧ v2 = .int .i64 b := by simpa using hab
    have e2 : v3 = .int .i64 c ∧ v4 = .int .i64 d := by simpa using hcd
    have e4 : v7 = .string s := by simpa using hs
    have e5 : v8 = .string t := by simpa using ht
    exact ⟨((a, b), (c, d), s, t), by rw [e1.1, e1.2, e2.1, e2.2, e4, e5]; rfl, ws, wt⟩

theorem ops_of {H : Type} {enc : TypeId × Value → H} {w : World} {base : Nat} {held : Bool} {a : Option Addr} {len cap : Nat} {d : DataW H} {p : List MemPlace} (h : DataW.Trod enc Tryz.prog w base (fun _ => true) held 23 (.slice a len cap) d p) :
    ∃ l, OpsAt w a len l ∧ len ≤ maxLen ∧ (∀ q ∈ l, OpOk q) ∧ SliceOk a len cap := by
  have hok := slice_of Tryz.underlying23 h
  obtain ⟨hm, h0 | ⟨b, off, rfl, hr⟩⟩ := rows_of (c := 9) Tryz.underlying23 (by kernel_rfl) (by decide) h
  · exact ⟨List.replicate len (0, (0, 0), (0, 0), (0, 0), ByteArray.empty, ByteArray.empty), ⟨by simp, .inl h0⟩, hm, fun q hq => by rw [(List.mem_replicate.1 hq).2]; exact ⟨by decide, Nat.zero_le _, Nat.zero_le _⟩, hok⟩
  · obtain ⟨l, hl, hR⟩ := choose_list (n := len) (R := fun i (q : OpT) => (∀ j, j < 9 → w.cell? ⟨b, off + i * 9 + j, none⟩ = (opA q)[j]?) ∧ OpOk q) (fun i hi => by
      obtain ⟨n, x, cs, hcl, hcell, hx⟩ := hr i hi
      obtain ⟨q, rfl, hq⟩ := op_cells hx
      refine ⟨q, fun j hj => ?_, hq⟩
      rw [Nat.add_assoc, hcell j hj, Array.getElem?_toList])
    refine ⟨l, ⟨hl, .inr ⟨b, off, rfl, fun i hi j hj => ?_⟩⟩, hm, fun q hq => ?_, hok⟩
    · have h1 := (hR i (by omega)).1 j hj
      have e : oL l i = l[i]'(by omega) := by unfold oL; rw [List.getD_eq_getElem?_getD, List.getElem?_eq_getElem (by omega)]; rfl
      show ∃ v, (opA (oL l i))[j]? = some v ∧ _
      rw [e]
      refine ⟨(opA l[i])[j]'(by show j < 9; exact hj), Array.getElem?_eq_getElem _, ?_⟩
      rw [h1]; exact Array.getElem?_eq_getElem _
    · obtain ⟨i, hi, rfl⟩ := List.getElem_of_mem hq
      exact (hR i hi).2

theorem nodes_of {H : Type} {enc : TypeId × Value → H} {w : World} {base : Nat} {held : Bool} {a : Option Addr} {len cap : Nat} {d : DataW H} {p : List MemPlace} (h : DataW.Trod enc Tryz.prog w base (fun _ => true) held 22 (.slice a len cap) d p) :
    ∃ l, NodesAt w a len l ∧ len ≤ maxLen ∧ (∀ q ∈ l, NodeOkT q) ∧ SliceOk a len cap := by
  have hok := slice_of Tryz.underlying22 h
  obtain ⟨hm, h0 | ⟨b, off, rfl, hr⟩⟩ := rows_of (c := 6) Tryz.underlying22 (by kernel_rfl) (by decide) h
  · exact ⟨List.replicate len ((0, 0), (0, 0), ByteArray.empty, ByteArray.empty), ⟨by simp, .inl h0⟩, hm, fun q hq => by rw [(List.mem_replicate.1 hq).2]; exact ⟨Nat.zero_le _, Nat.zero_le _⟩, hok⟩
  · obtain ⟨l, hl, hR⟩ := choose_list (n := len) (R := fun i (q : NodeT) => (∀ j, j < 6 → w.cell? ⟨b, off + i * 6 + j, none⟩ = (nodeA q)[j]?) ∧ NodeOkT q) (fun i hi => by
      obtain ⟨n, x, cs, hcl, hcell, hx⟩ := hr i hi
      obtain ⟨q, rfl, hq⟩ := node_cells hx
      refine ⟨q, fun j hj => ?_, hq⟩
      rw [Nat.add_assoc, hcell j hj, Array.getElem?_toList])
    refine ⟨l, ⟨hl, .inr ⟨b, off, rfl, fun i hi j hj => ?_⟩⟩, hm, fun q hq => ?_, hok⟩
    · have h1 := (hR i (by omega)).1 j hj
      have e : nL l i = l[i]'(by omega) := by unfold nL; rw [List.getD_eq_getElem?_getD, List.getElem?_eq_getElem (by omega)]; rfl
      show ∃ v, (nodeA (nL l i))[j]? = some v ∧ _
      rw [e]
      refine ⟨(nodeA l[i])[j]'(by show j < 6; exact hj), Array.getElem?_eq_getElem _, ?_⟩
      rw [h1]; exact Array.getElem?_eq_getElem _
    · obtain ⟨i, hi, rfl⟩ := List.getElem_of_mem hq
      exact (hR i hi).2

set_option maxRecDepth 100000 in
/-- An operation by value. -/
theorem op_of {H : Type} {enc : TypeId × Value → H} {w : World} {base : Nat} {spare : Nat → Bool} {held : Bool} {r : Reach} {b0 : Nat} {v : Value} {d : DataW H} {p : List MemPlace} (hv : Value.okWide Tryz.prog w r b0 56 v) (h : DataW.Trod enc Tryz.prog w base spare held 56 v d p) :
    ∃ q : OpT, v = .agg (opA q) ∧ OpOk q := by
  obtain ⟨cs, rfl, n, x, hx⟩ := agg_of Tryz.underlying56 hv h
  obtain ⟨q, hc, hq⟩ := op_cells hx
  refine ⟨q, ?_, hq⟩
  congr 1
  exact Array.toList_inj.1 hc

theorem slice_cell {H : Type} {enc : TypeId × Value → H} {P : Program} {w : World} {base : Nat} {held : Bool} {t e : TypeId} {n : Nat} {c : Value} {y : DataW H × List MemPlace} (ht : P.underlying t = some (.slice e)) (h : DataW.trod enc P w base (fun _ => true) held n t [c] = some y) :
    ∃ a len cap, c = .slice a len cap ∧ DataW.Trod enc P w base (fun _ => true) held t (.slice a len cap) y.1 y.2 := by
  rcases Go.Deep.open_slice ht h with ⟨hcs, _⟩ | ⟨x, l, cp, m, k, D, Pl, hcs, _⟩
  · simp at hcs
    subst hcs
    exact ⟨none, 0, 0, rfl, n, by simpa [Value.cells] using h⟩
  · simp at hcs
    subst hcs
    exact ⟨_, _, _, rfl, n, by simpa [Value.cells] using h⟩

end Go.Proofs.YtebnmghjdoblaaaGreatDoor
