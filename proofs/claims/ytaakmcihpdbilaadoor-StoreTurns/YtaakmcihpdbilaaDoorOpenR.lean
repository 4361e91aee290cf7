/- Slices of structs, and structs by value, among a law's parameters: their reading, opened. Plain facts of no type. -/
import Derived.Test.YtaakmcihpdbilaaDoorG
import Derived.Deep.Slices
import Derived.Lib.SmallJoins
import Derived.OpenShut
import Derived.ProofKit
namespace Go.Proofs.YtaakmcihpdbilaaDoor
open Go.ChangeShapes Go.WideShapes Go.RowKit
section
variable {H : Type} {enc : TypeId × Value → H} {P : Program} {w : World} {base : Nat} {spare : Nat → Bool} {held : Bool}
/-- The cells of each element of a slice that came in. -/
theorem rows_of {t e : TypeId} {a : Option Addr} {len cap c : Nat} {d : DataW H} {p : List MemPlace} (ht : P.underlying t = some (.slice e)) (hc : P.cellsOf e = c) (hc0 : 0 < c)
    (h : DataW.Trod enc P w base (fun _ => true) held t (.slice a len cap) d p) :
    len ≤ maxLen ∧ (len = 0 ∨ ∃ b off, a = some ⟨b, off, none⟩ ∧ ∀ i, i < len → ∃ n x cs, cs.length = c ∧ (∀ j, j < c → w.cell? ⟨b, off + (i * c + j), none⟩ = cs[j]?) ∧ DataW.trod enc P w base (fun _ => true) held n e cs = some x) := by
  obtain ⟨fuel, hf⟩ := h
  rcases Go.Deep.open_slice ht hf with ⟨hcs, _⟩ | ⟨x, n, cp, m, k, D, Pl, hcs, hb, hl, hm, hmm, _, hx⟩
  · simp [Value.cells] at hcs
    obtain ⟨rfl, rfl, rfl⟩ := hcs
    exact ⟨Nat.zero_le _, .inl rfl⟩
  · simp [Value.cells] at hcs
    obtain ⟨rfl, rfl, rfl⟩ := hcs
    have hm' : m = cap := by simpa using hmm
    refine ⟨Nat.le_trans hl hm, ?_⟩
    by_cases h0 : len = 0
    · exact .inl h0
    · right
      obtain ⟨b, off, spot⟩ := x
      have hsp : spot = none := by
        obtain ⟨cs', h1, _⟩ := hx 0 (by omega)
        obtain ⟨_, hlen, hcell⟩ := World.cells?_some h1
        have h2 := hcell 0 (by omega)
        obtain ⟨v, hv⟩ : ∃ v, cs'[0]? = some v := ⟨_, List.getElem?_eq_getElem (by omega)⟩
        rw [hv] at h2
        simpa [Addr.add] using World.cell?_spot h2
      subst hsp
      refine ⟨b, off, rfl, fun i hi => ?_⟩
      obtain ⟨cs', h1, h2⟩ := hx i (by omega)
      obtain ⟨_, hlen, hcell⟩ := World.cells?_some h1
      refine ⟨k, _, cs', by omega, fun j hj => ?_, h2⟩
      have h3 := hcell j (by omega)
      rw [hc, add_plain, add_plain] at h3
      rw [← Nat.add_assoc]
      exact h3
/-- A struct by value. -/
theorem agg_of {r : Reach} {b0 : Nat} {t : TypeId} {fs : Array Field} {v : Value} {d : DataW H} {p : List MemPlace} (ht : P.underlying t = some (.struct fs)) (hv : Value.okWide P w r b0 t v) (h : DataW.Trod enc P w base spare held t v d p) :
    ∃ cs : Array Value, v = .agg cs ∧ ∃ n x, DataW.trod enc P w base spare held n t cs.toList = some x := by
  obtain ⟨cs, rfl, _⟩ := okWide_struct ht hv
  obtain ⟨fuel, hf⟩ := h
  exact ⟨cs, rfl, fuel, _, by simpa [Value.cells] using hf⟩
/-- A field's cells, read. -/
theorem field_of {t : TypeId} {fs : Array Field} {fuel : Nat} {cs : List Value} {x : DataW H × List MemPlace} (ht : P.underlying t = some (.struct fs)) (h : DataW.trod enc P w base spare held fuel t cs = some x) (j : Nat) (e : TypeId) (o c : Nat) (hj : (fs[j]?).map (fun f => (f.type, f.offset)) = some (e, o)) (hc : P.cellsOf e = c) :
    ∃ n y, DataW.trod enc P w base spare held n e ((cs.drop o).take c) = some y := by
  obtain ⟨f, hf1, hf2⟩ := Option.map_eq_some_iff.1 hj
  simp only [Prod.mk.injEq] at hf2
  obtain ⟨rfl, rfl⟩ := hf2
  obtain ⟨xs, n, _, _, _, hlen, hf⟩ := DataW.trod_struct ht h
  have h1 := hf j f hf1
  have hjs : j < fs.size := (Array.getElem?_eq_some_iff.1 hf1).1
  rw [hc] at h1
  exact ⟨n, _, h1.trans (List.getElem?_eq_getElem (by omega))⟩
theorem struct_len {t : TypeId} {fs : Array Field} {fuel : Nat} {cs : List Value} {x : DataW H × List MemPlace} (ht : P.underlying t = some (.struct fs)) (h : DataW.trod enc P w base spare held fuel t cs = some x) : cs.length = P.cellsOf t := by
  obtain ⟨xs, n, _, _, hl, _, _⟩ := DataW.trod_struct ht h
  exact hl
theorem cell_int {e : TypeId} {k : IntKind} {n i : Nat} {cs : List Value} {y : DataW H × List MemPlace} (he : P.underlying e = some (.int k)) (h : DataW.trod enc P w base spare held n e ((cs.drop i).take 1) = some y) : ∃ z, cs[i]? = some (.int k z) ∧ (Lit.int k z).wf = true := by
  obtain ⟨z, hz, _, hw⟩ := DataW.trod_int he h
  refine ⟨z, ?_, hw⟩
  have : ((cs.drop i).take 1)[0]? = some (.int k z) := by rw [hz]; rfl
  simpa using this
theorem cell_str {e : TypeId} {n i : Nat} {cs : List Value} {y : DataW H × List MemPlace} (he : P.underlying e = some .string) (h : DataW.trod enc P w base spare held n e ((cs.drop i).take 1) = some y) : ∃ z : ByteArray, cs[i]? = some (.string z) ∧ z.size ≤ maxLen := by
  obtain ⟨z, hz, _, hw⟩ := DataW.trod_string he h
  refine ⟨z, ?_, hw⟩
  have : ((cs.drop i).take 1)[0]? = some (.string z) := by rw [hz]; rfl
  simpa using this
theorem cell_bool {e : TypeId} {n i : Nat} {cs : List Value} {y : DataW H × List MemPlace} (he : P.underlying e = some .bool) (h : DataW.trod enc P w base spare held n e ((cs.drop i).take 1) = some y) : ∃ z, cs[i]? = some (.bool z) := by
  obtain ⟨z, hz, _⟩ := DataW.trod_bool he h
  refine ⟨z, ?_⟩
  have : ((cs.drop i).take 1)[0]? = some (.bool z) := by rw [hz]; rfl
  simpa using this
end
end Go.Proofs.YtaakmcihpdbilaaDoor
