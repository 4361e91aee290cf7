/- Records and frames by value, among a law's parameters. -/
import Derived.Test.YtkmdajenbidaaaaDoorOpenT
import Derived.Test.YtkmdajenbidaaaaDoorWiT
import Derived.Test.YtkmdajenbidaaaaDoorRWiC
namespace Go.Proofs.YtkmdajenbidaaaaDoor
open Go.ChangeShapes Go.WideShapes Go.RowKit

theorem cap_of {H : Type} {enc : TypeId × Value → H} {P : Program} {w : World} {base : Nat} {held : Bool} {t e : TypeId} {a : Option Addr} {len cap : Nat} {d : DataW H} {p : List MemPlace} (ht : P.underlying t = some (.slice e))
    (h : DataW.Trod enc P w base (fun _ => true) held t (.slice a len cap) d p) : cap ≤ maxLen := by
  obtain ⟨fuel, hf⟩ := h
  rcases Go.Deep.open_slice ht hf with ⟨hcs, _⟩ | ⟨x, n, cp, m, k, D, Pl, hcs, hb, hl, hm, hmm, _, hx⟩
  · simp [Value.cells] at hcs
    obtain ⟨rfl, rfl, rfl⟩ := hcs
    exact Nat.zero_le _
  · simp [Value.cells] at hcs
    obtain ⟨rfl, rfl, rfl⟩ := hcs
    exact hm

theorem wrap_cells {H : Type} {enc : TypeId × Value → H} {w : World} {base : Nat} {spare : Nat → Bool} {held : Bool} {fuel : Nat} {cs : List Value} {x : DataW H × List MemPlace} (h : DataW.trod enc Tryd.prog w base spare held fuel 47 cs = some x) :
    ∃ q : Int × ByteArray, cs = [.int .i64 q.1, .string q.2] ∧ q.2.size ≤ maxLen := by
  have hl := struct_len Tryd.underlying47 h
  obtain ⟨n0, y0, h0⟩ := field_of Tryd.underlying47 h 0 3 0 1 rfl Tryd.cInt
  obtain ⟨n4, y4, h4⟩ := field_of Tryd.underlying47 h 1 9 1 1 rfl Tryd.cStr
  obtain ⟨k, hk, wk⟩ := cell_int Tryd.underlying3 h0
  obtain ⟨s, hs, ws⟩ := cell_str Tryd.underlying9 h4
  rw [show Tryd.prog.cellsOf 47 = 2 by kernel_rfl] at hl
  match cs, hl with
  | [v0, v1], _ =>
    have e0 : v0 = .int .i64 k := by simpa using hk
    have e4 : v1 = .string s := by simpa using hs
    exact ⟨(k, s), by rw [e0, e4], ws⟩

theorem wraps_of {H : Type} {enc : TypeId × Value → H} {w : World} {base : Nat} {held : Bool} {a : Option Addr} {len cap : Nat} {d : DataW H} {p : List MemPlace} (h : DataW.Trod enc Tryd.prog w base (fun _ => true) held 33 (.slice a len cap) d p) :
    ∃ l, WrAt w a len l ∧ len ≤ maxLen ∧ (∀ i, (wrL l i).2.size ≤ maxLen) ∧ (SliceOk a len cap ∧ cap ≤ maxLen) := by
  have hok := And.intro (slice_of Tryd.underlying33 h) (cap_of Tryd.underlying33 h)
  obtain ⟨hm, h0 | ⟨b, off, rfl, hr⟩⟩ := rows_of (c := 2) Tryd.underlying33 (by kernel_rfl) (by decide) h
  · refine ⟨List.replicate len (0, ByteArray.empty), ⟨by simp, .inl h0⟩, hm, fun i => ?_, hok⟩
    subst h0
    exact Nat.zero_le _
  · obtain ⟨l, hl, hR⟩ := choose_list (n := len) (R := fun i (q : Int × ByteArray) => (∀ j, j < 2 → w.cell? ⟨b, off + i * 2 + j, none⟩ = [Value.int .i64 q.1, Value.string q.2][j]?) ∧ q.2.size ≤ maxLen) (fun i hi => by
      obtain ⟨n, x, cs, hcl, hcell, hx⟩ := hr i hi
      obtain ⟨q, rfl, hq⟩ := wrap_cells hx
      refine ⟨q, fun j hj => ?_, hq⟩
      rw [Nat.add_assoc, hcell j hj])
    refine ⟨l, ⟨hl, .inr ⟨b, off, rfl, fun i hi => ?_⟩⟩, hm, fun i => ?_, hok⟩
    · rw [wrL_get l i (by omega)]
      have h1 := (hR i (by omega)).1
      exact ⟨h1 0 (by decide), h1 1 (by decide)⟩
    · by_cases hi : i < l.length
      · rw [wrL_get l i hi]
        exact (hR i hi).2
      · unfold wrL
        rw [List.getD_eq_getElem?_getD, List.getElem?_eq_none (by omega)]
        exact Nat.zero_le _

set_option maxRecDepth 100000 in
/-- A record by value. -/
theorem record_of {H : Type} {enc : TypeId × Value → H} {w : World} {base : Nat} {held : Bool} {r : Reach} {b0 : Nat} {v : Value} {d : DataW H} {p : List MemPlace} (hv : Value.okWide Tryd.prog w r b0 35 v) (h : DataW.Trod enc Tryd.prog w base (fun _ => true) held 35 v d p) :
    ∃ (R : RecT) (a : Option Addr) (c : Nat), v = .agg (recA R a c) ∧ WrAt w a R.2.2.2.2.2.2.2.length R.2.2.2.2.2.2.2 ∧ R.2.2.2.2.2.2.2.length ≤ maxLen ∧ (∀ i, (wrL R.2.2.2.2.2.2.2 i).2.size ≤ maxLen) ∧ (SliceOk a R.2.2.2.2.2.2.2.length c ∧ c ≤ maxLen) ∧ R.2.2.2.2.1.size ≤ maxLen ∧ OpOk R.2.2.2.2.2.1 := by
  obtain ⟨cs, rfl, n, x, hx⟩ := agg_of Tryd.underlying35 hv h
  have hl := struct_len Tryd.underlying35 hx
  obtain ⟨n0, y0, h0⟩ := field_of Tryd.underlying35 hx 0 3 0 1 rfl Tryd.cInt
  obtain ⟨n1, y1, h1⟩ := field_of Tryd.underlying35 hx 1 3 1 1 rfl Tryd.cInt
  obtain ⟨n2, y2, h2⟩ := field_of Tryd.underlying35 hx 2 3 2 1 rfl Tryd.cInt
  obtain ⟨n3, y3, h3⟩ := field_of Tryd.underlying35 hx 3 3 3 1 rfl Tryd.cInt
  obtain ⟨n4, y4, h4⟩ := field_of Tryd.underlying35 hx 4 9 4 1 rfl Tryd.cStr
  obtain ⟨n5, y5, h5⟩ := field_of Tryd.underlying35 hx 5 32 5 9 rfl (by kernel_rfl)
  obtain ⟨n6, y6, h6⟩ := field_of Tryd.underlying35 hx 6 3 14 1 rfl Tryd.cInt
  obtain ⟨n7, y7, h7⟩ := field_of Tryd.underlying35 hx 7 33 15 1 rfl (by kernel_rfl)
  obtain ⟨K, hK, _⟩ := cell_int Tryd.underlying3 h0
  obtain ⟨F, hF, _⟩ := cell_int Tryd.underlying3 h1
  obtain ⟨C, hC, _⟩ := cell_int Tryd.underlying3 h2
  obtain ⟨S, hS, _⟩ := cell_int Tryd.underlying3 h3
  obtain ⟨Hd, hHd, wHd⟩ := cell_str Tryd.underlying9 h4
  obtain ⟨o, ho, wo⟩ := op_cells h5
  obtain ⟨q, hq, _⟩ := cell_int Tryd.underlying3 h6
  rw [show Tryd.prog.cellsOf 35 = 16 by kernel_rfl] at hl
  obtain ⟨cl, hcl⟩ : ∃ cl, cs.toList = cl := ⟨_, rfl⟩
  rw [hcl] at hl hK hF hC hS hHd ho hq h7
  obtain ⟨k0, ⟨k1, k2⟩, ⟨k3, k4⟩, ⟨k5, k6⟩, s7, s8⟩ := o
  match cl, hl, hcl with
  | [v0, v1, v2, v3, v4, v5, v6, v7, v8, v9, v10, v11, v12, v13, v14, v15], _, hcl =>
    have h7' : DataW.trod enc Tryd.prog w base (fun _ => true) held n7 33 [v15] = some y7 := by simpa using h7
    obtain ⟨a, len, c, rfl, k⟩ := slice_cell Tryd.underlying33 h7'
    obtain ⟨l, l1, l2, l3, l4⟩ := wraps_of k
    have ln : l.length = len := l1.1
    subst ln
    have e0 : v0 = .int .i64 K := by simpa using hK
    have e1 : v1 = .int .i64 F := by simpa using hF
    have e2 : v2 = .int .i64 C := by simpa using hC
    have e3 : v3 = .int .i64 S := by simpa using hS
    have e4 : v4 = .string Hd := by simpa using hHd
    have e5 : v5 = .int .i64 k0 ∧ v6 = .int .i64 k1 ∧ v7 = .int .i64 k2 ∧ v8 = .int .i64 k3 ∧ v9 = .int .i64 k4 ∧ v10 = .int .i64 k5 ∧ v11 = .int .i64 k6 ∧ v12 = .string s7 ∧ v13 = .string s8 := by simpa [opA] using ho
    have e14 : v14 = .int .i64 q := by simpa using hq
    refine ⟨(K, F, C, S, Hd, (k0, (k1, k2), (k3, k4), (k5, k6), s7, s8), q, l), a, c, ?_, l1, l2, l3, l4, wHd, wo⟩
    congr 1
    apply Array.toList_inj.1
    rw [hcl, e0, e1, e2, e3, e4, e5.1, e5.2.1, e5.2.2.1, e5.2.2.2.1, e5.2.2.2.2.1, e5.2.2.2.2.2.1, e5.2.2.2.2.2.2.1, e5.2.2.2.2.2.2.2.1, e5.2.2.2.2.2.2.2.2, e14]
    rfl

theorem itL_get0 (l : List (Int × Int × ByteArray)) (i : Nat) (h : i < l.length) : itL l i = l[i] := by
  unfold itL; rw [List.getD_eq_getElem?_getD, List.getElem?_eq_getElem h]; rfl

end Go.Proofs.YtkmdajenbidaaaaDoor
