import Derived.Test.YtglgppeloolbhaaGreatDoorL5
import Derived.Test.YtglgppeloolbhaaGreatDoorRows
import Derived.Lib.LaidTab
import Derived.MakeChecks
import Derived.Stop.LaidErr
/- From the row's condition to the table of the package chacha. -/
namespace Go.Proofs.YtglgppeloolbhaaGreatDoor
open Go.RowKit
set_option maxRecDepth 100000

/-- A table of rows, as a statement lists it. -/
def gridData {H : Type} (k : IntKind) (rows : List (List Int)) : DataW H := .agg (rows.map (Lib.tabData k))
theorem cells_of_grid {H : Type} {enc : TypeId × Value → H} {P : Program} {w : World} {base : Nat} {sp : Nat → Bool} {held : Bool} {fuel : Nat} {t e x : TypeId} {n m : Nat} {k : IntKind} {cs : List Value} {rows : List (List Int)} {p : List MemPlace}
    (ht : P.underlying t = some (.array n e)) (he : P.underlying e = some (.array m x)) (hx : P.underlying x = some (.int k)) (hcx : P.cellsOf x = 1) (hce : P.cellsOf e = m) (hct : P.cellsOf t = n * m)
    (h : DataW.trod enc P w base sp held fuel t cs = some (gridData k rows, p)) (i : Nat) (hi : i < n) : ∃ zs, rows[i]? = some zs ∧ (cs.drop (i * m)).take m = zs.map fun z => Value.int k z := by
  cases fuel with
  | zero => simp [DataW.trod] at h
  | succ fuel =>
    simp only [DataW.trod, ht, hce, hct] at h
    split at h
    · obtain ⟨xs, hm, hq⟩ := Option.map_eq_some_iff.1 h
      have hxs : xs.map (·.1) = rows.map (Lib.tabData (H := H) k) := by
        have := congrArg Prod.fst hq
        simpa [gridData] using this
      obtain ⟨b, hb, hf⟩ := Lib.mapM_at hm i i (by simp [hi])
      have h2 : (xs.map (·.1))[i]? = some b.1 := by simp [hb]
      rw [hxs] at h2
      simp only [List.getElem?_map, Option.map_eq_some_iff] at h2
      obtain ⟨zs, hz, hd⟩ := h2
      refine ⟨zs, hz, ?_⟩
      obtain ⟨b1, b2⟩ := b
      simp only at hd
      subst hd
      exact Lib.cells_of_tab he hx hcx hce hf
    · cases h

theorem Tryz.gP : Tryz.prog.globalNamed "samphire/chacha.places" = some 2 := by kernel_rfl
theorem Tryz.tP : (Tryz.prog.globals[2]?).map (·.type) = some 89 := by kernel_rfl
theorem Tryz.cells4 : Tryz.prog.cellsOf 84 = 4 := by kernel_rfl
theorem Tryz.cells1 : Tryz.prog.cellsOf 3 = 1 := by kernel_rfl
theorem Tryz.cells84 : Tryz.prog.cellsOf 89 = 8 * 4 := by kernel_rfl
def placesL : List (List Int) := [[0, 4, 8, 12], [1, 5, 9, 13], [2, 6, 10, 14], [3, 7, 11, 15], [0, 5, 10, 15], [1, 6, 11, 12], [2, 7, 8, 13], [3, 4, 9, 14]]
theorem datumP : (Rows.laid_samphire_chacha_places : DataW Unit) = gridData .i64 placesL := by kernel_rfl
theorem places_at (i : Nat) (h : i < 8) (zs : List Int) (hz : placesL[i]? = some zs) : zs = [((pA.getD i 0 : Nat) : Int), ((pB.getD i 0 : Nat) : Int), ((pC.getD i 0 : Nat) : Int), ((pD.getD i 0 : Nat) : Int)] := by
  have : ∀ i : Fin 8, placesL[i.1]? = some [((pA.getD i 0 : Nat) : Int), ((pB.getD i 0 : Nat) : Int), ((pC.getD i 0 : Nat) : Int), ((pD.getD i 0 : Nat) : Int)] := by decide
  have := this ⟨i, h⟩
  rw [hz] at this
  exact Option.some.inj this

theorem globP_of' {W : World} {rest : List (String × DataW Unit)} (h : laidMet Tryz.prog (("samphire/chacha.places", Rows.laid_samphire_chacha_places) :: rest) W) : GlobP W := by
  rw [datumP] at h
  obtain ⟨ps, ⟨g', t', cs, fuel, p, q, hg', ht', hvar, hd, _, _⟩, _⟩ := h
  obtain rfl := Option.some.inj (Tryz.gP.symm.trans hg')
  obtain rfl := Option.some.inj (Tryz.tP.symm.trans ht')
  intro i hi
  obtain ⟨zs, hz, hc⟩ := cells_of_grid Tryz.underlying89 Tryz.underlying84 Tryz.underlying3 Tryz.cells1 Tryz.cells4 Tryz.cells84 hd i hi
  rw [places_at i hi zs hz] at hc
  have hat : ∀ j, j < 4 → cs[i * 4 + j]? = (List.take 4 (List.drop (i * 4) cs.toList))[j]? := fun j hj => by rw [List.getElem?_take, if_pos hj, List.getElem?_drop, Array.getElem?_toList]
  have hv : ∀ j, W.cell? ⟨2, j, none⟩ = cs[j]? := fun j => by
    have := World.var?_cell Tryz.gP hvar j
    simpa using this
  refine ⟨?_, ?_, ?_, ?_⟩
  · rw [hv, show i * 4 = i * 4 + 0 by rfl, hat 0 (by decide), hc]; rfl
  · rw [hv, hat 1 (by decide), hc]; rfl
  · rw [hv, hat 2 (by decide), hc]; rfl
  · rw [hv, hat 3 (by decide), hc]; rfl
end Go.Proofs.YtglgppeloolbhaaGreatDoor
