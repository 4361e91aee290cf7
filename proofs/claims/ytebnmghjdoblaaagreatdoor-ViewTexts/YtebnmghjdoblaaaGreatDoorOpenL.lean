/- A row of lines that came in (layer 12). -/
import Derived.Test.YtebnmghjdoblaaaGreatDoorTS
import Derived.Test.YtebnmghjdoblaaaGreatDoorVA
namespace Go.Proofs.YtebnmghjdoblaaaGreatDoor
open Go.RowKit
set_option linter.unusedSimpArgs false

def LineOkT (q : LineT) : Prop := q.2.2.1.size ≤ maxLen ∧ q.2.2.2.size ≤ maxLen

theorem line_cells {H : Type} {enc : TypeId × Value → H} {w : World} {base : Nat} {spare : Nat → Bool} {held : Bool} {fuel : Nat} {cs : List Value} {x : DataW H × List MemPlace} (h : DataW.trod enc Tryz.prog w base spare held fuel 43 cs = some x) :
    ∃ q : LineT, cs = (lineA q).toList ∧ LineOkT q := by
  have hl := struct_len Tryz.underlying43 h
  obtain ⟨n0, y0, h0⟩ := field_of Tryz.underlying43 h 0 3 0 1 rfl Tryz.cInt
  obtain ⟨n1, y1, h1⟩ := field_of Tryz.underlying43 h 1 36 1 2 rfl (by kernel_rfl)
  obtain ⟨n4, y4, h4⟩ := field_of Tryz.underlying43 h 2 9 3 1 rfl Tryz.cStr
  obtain ⟨n5, y5, h5⟩ := field_of Tryz.underlying43 h 3 9 4 1 rfl Tryz.cStr
  obtain ⟨k, hk, _⟩ := cell_int Tryz.underlying3 h0
  obtain ⟨a, b, hab, _, _⟩ := stamp_cells h1
  obtain ⟨s, hs, ws⟩ := cell_str Tryz.underlying9 h4
  obtain ⟨t, ht, wt⟩ := cell_str Tryz.underlying9 h5
  rw [show Tryz.prog.cellsOf 43 = 5 by kernel_rfl] at hl
  match cs, hl with
  | [v0, v1, v2, v7, v8], _ =>
    have e0 : v0 = .int .i64 k := by simpa using hk
    have e1 : v1 = .int .i64 a ∧ v2 = .int .i64 b := by simpa using hab
    have e4 : v7 = .string s := by simpa using hs
    have e5 : v8 = .string t := by simpa using ht
    exact ⟨(k, (a, b), s, t), by rw [e0, e1.1, e1.2, e4, e5]; rfl, ws, wt⟩

theorem lines_of {H : Type} {enc : TypeId × Value → H} {w : World} {base : Nat} {held : Bool} {a : Option Addr} {len cap : Nat} {d : DataW H} {p : List MemPlace} (h : DataW.Trod enc Tryz.prog w base (fun _ => true) held 28 (.slice a len cap) d p) :
    ∃ l, LinesAt w a len l ∧ len ≤ maxLen ∧ (∀ k, k < len → (lL l k).2.2.1.size ≤ maxLen ∧ (lL l k).2.2.2.size ≤ maxLen) := by
  obtain ⟨hm, h0 | ⟨b, off, rfl, hr⟩⟩ := rows_of (c := 5) Tryz.underlying28 (by kernel_rfl) (by decide) h
  · exact ⟨List.replicate len (0, (0, 0), ByteArray.empty, ByteArray.empty), ⟨by simp, .inl h0⟩, hm, fun k hk => by omega⟩
  · obtain ⟨l, hl, hR⟩ := choose_list (n := len) (R := fun i (q : LineT) => (∀ j, j < 5 → w.cell? ⟨b, off + i * 5 + j, none⟩ = (lineA q)[j]?) ∧ LineOkT q) (fun i hi => by
      obtain ⟨n, x, cs, hcl, hcell, hx⟩ := hr i hi
      obtain ⟨q, rfl, hq⟩ := line_cells hx
      refine ⟨q, fun j hj => ?_, hq⟩
      rw [Nat.add_assoc, hcell j hj, Array.getElem?_toList])
    have e : ∀ i (hi : i < len), lL l i = l[i]'(by omega) := fun i hi => by unfold lL; rw [List.getD_eq_getElem?_getD, List.getElem?_eq_getElem (by omega)]; rfl
    refine ⟨l, ⟨hl, .inr ⟨b, off, rfl, fun i hi j hj => ?_⟩⟩, hm, fun k hk => ?_⟩
    · have h1 := (hR i (by omega)).1 j hj
      show ∃ v, (lineA (lL l i))[j]? = some v ∧ _
      rw [e i hi]
      refine ⟨(lineA l[i])[j]'(by show j < 5; exact hj), Array.getElem?_eq_getElem _, ?_⟩
      rw [h1]; exact Array.getElem?_eq_getElem _
    · rw [e k hk]
      exact (hR k (by omega)).2
end Go.Proofs.YtebnmghjdoblaaaGreatDoor
