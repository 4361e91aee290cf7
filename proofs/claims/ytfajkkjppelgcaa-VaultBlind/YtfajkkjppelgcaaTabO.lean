/- Whatever the package's two tables hold: words. From the world's shape alone. -/
import Derived.Test.YtfajkkjppelgcaaVtB
import Derived.Test.YtfajkkjppelgcaaOpenP
import Derived.Shelf.Vars
namespace Go.Proofs.Ytfajkkjppelgcaa
open Go.RowKit
set_option maxRecDepth 100000

theorem cells_of_shapedOpen {P : Program} {w : World} {g n : Nat} {t u : TypeId} {zero : Array Value}
    (h : w.ShapedOpen P) (hg : g < P.globals.size) (h0 : ((begin P (fun _ _ => 0) default).world.heap[g]?).bind Obj.row? = some (zero, t)) (hz : zero.size = n)
    (hb : P.buildable t = true) (hc : P.cellTypes P.depth t = some (List.replicate n u)) (hu : P.underlying u = some (.int .u32)) (hn : 0 < n) :
    ∀ j, j < n → ∃ x : Nat, w.cell? ⟨g, j, none⟩ = some (.int .u32 (x : Int)) ∧ x < 4294967296 := by
  obtain ⟨cs, hh, hs, hr⟩ := h.1 g zero t hg h0
  obtain ⟨ts, hts, _, hall⟩ := hr hb
  rw [hc] at hts
  cases hts
  intro j hj
  have h1 : j < cs.size := by omega
  obtain ⟨v, hv, hok⟩ := hall j cs[j] (by simp [h1])
  have hvu : v = u := by
    rw [List.getElem?_replicate] at hv
    rw [if_pos (by rw [List.length_replicate]; exact Nat.mod_lt _ hn)] at hv
    exact (Option.some.inj hv).symm
  subst hvu
  have hcell : w.cell? ⟨g, j, none⟩ = some cs[j] := by simp [World.cell?, hh, h1]
  rw [hcell]
  unfold Cell.ok at hok
  rw [hu] at hok
  cases hq : cs[j] <;> rw [hq] at hok <;> simp at hok
  case int k' x =>
    obtain ⟨rfl, hx⟩ := hok
    have hx' : (0 : Int) ≤ x ∧ x ≤ 4294967295 := hx
    exact ⟨x.toNat, by rw [Int.toNat_of_nonneg hx'.1], by omega⟩

set_option maxRecDepth 100000 in
theorem tabZ_of {W : World} (h : W.ShapedOpen Try.prog) : ∃ z : TabZ, @Hsh ⟨z⟩ W := by
  have hB := cells_of_shapedOpen (g := 0) (n := 8) (t := 92) (u := 54) (zero := Array.replicate 8 (.int .u32 0)) h (of_decide_eq_true (by kernel_rfl)) (by kernel_rfl) (by kernel_rfl) (by kernel_rfl) (by kernel_rfl) Try.underlying54 (by decide)
  have hK := cells_of_shapedOpen (g := 1) (n := 64) (t := 100) (u := 54) (zero := Array.replicate 64 (.int .u32 0)) h (of_decide_eq_true (by kernel_rfl)) (by kernel_rfl) (by kernel_rfl) (by kernel_rfl) (by kernel_rfl) Try.underlying54 (by decide)
  obtain ⟨b0, c0, l0⟩ := hB 0 (by decide)
  obtain ⟨b1, c1, l1⟩ := hB 1 (by decide)
  obtain ⟨b2, c2, l2⟩ := hB 2 (by decide)
  obtain ⟨b3, c3, l3⟩ := hB 3 (by decide)
  obtain ⟨b4, c4, l4⟩ := hB 4 (by decide)
  obtain ⟨b5, c5, l5⟩ := hB 5 (by decide)
  obtain ⟨b6, c6, l6⟩ := hB 6 (by decide)
  obtain ⟨b7, c7, l7⟩ := hB 7 (by decide)
  obtain ⟨ks, hl, hR⟩ := choose_list hK
  have hok : ∀ i, ks.getD i 0 < 4294967296 := fun i => by
    by_cases hi : i < ks.length
    · rw [List.getD_eq_getElem?_getD, List.getElem?_eq_getElem hi]; exact (hR i hi).2
    · rw [List.getD_eq_getElem?_getD, List.getElem?_eq_none (by omega)]; decide
  refine ⟨⟨b0, b1, b2, b3, b4, b5, b6, b7, ks, ok_all _ (by simp [l0, l1, l2, l3, l4, l5, l6, l7]), hok⟩, ?_, ?_⟩
  · intro j hj
    match j, hj with
    | 0, _ => exact c0
    | 1, _ => exact c1
    | 2, _ => exact c2
    | 3, _ => exact c3
    | 4, _ => exact c4
    | 5, _ => exact c5
    | 6, _ => exact c6
    | 7, _ => exact c7
  · intro j hj
    show W.cell? _ = some (.int .u32 ((ks.getD j 0 : Nat) : Int))
    rw [List.getD_eq_getElem?_getD, List.getElem?_eq_getElem (by omega)]
    exact (hR j (by omega)).1

end Go.Proofs.Ytfajkkjppelgcaa
