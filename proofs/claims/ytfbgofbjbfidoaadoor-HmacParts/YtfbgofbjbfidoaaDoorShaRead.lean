import Derived.Test.YtfbgofbjbfidoaaDoorShaPut
import Derived.Laws.CopyOwn
namespace Go.Proofs.YtfbgofbjbfidoaaDoor
open Go.RowKit
set_option linter.unusedSimpArgs false

/-- Rows of words told place by place. -/
def tabN (n : Nat) (f : Nat → Nat) : List Nat := (List.range n).map f
theorem tabN_length (n : Nat) (f : Nat → Nat) : (tabN n f).length = n := by simp [tabN]
theorem tabN_getD (n : Nat) (f : Nat → Nat) (i : Nat) (h : i < n) : (tabN n f).getD i 0 = f i := map_range_getD n f i h
theorem tabN_congr (n : Nat) (f g : Nat → Nat) (h : ∀ i, i < n → f i = g i) : tabN n f = tabN n g := by
  unfold tabN; exact List.map_congr_left (fun i hi => h i (List.mem_range.1 hi))
theorem tabN_set (n : Nat) (f g : Nat → Nat) (j v : Nat) (hj : g j = v) (h : ∀ i, i < n → i ≠ j → f i = g i) : (tabN n f).set j v = tabN n g := by
  apply List.ext_getElem (by simp [tabN])
  intro i h1 h2
  have hi : i < n := by rw [tabN_length] at h2; exact h2
  rw [List.getElem_set]
  by_cases e : j = i
  · rw [if_pos e]; subst e; simp [tabN, hj]
  · rw [if_neg e]; simp [tabN]; exact h i hi (fun h => e h.symm)
/-- The first k of f, noughts behind them. -/
def cutN (f : Nat → Nat) (k j : Nat) : Nat := if j < k then f j else 0
theorem cutN_set (n : Nat) (f : Nat → Nat) (k : Nat) : (tabN n (cutN f k)).set k (f k) = tabN n (cutN f (k + 1)) := by
  refine tabN_set _ _ _ _ _ (by unfold cutN; rw [if_pos (by omega)]) (fun i _ hne => ?_)
  unfold cutN
  by_cases h : i < k
  · rw [if_pos h, if_pos (by omega)]
  · rw [if_neg h, if_neg (by omega)]
theorem cutN_all (n : Nat) (f : Nat → Nat) : tabN n (cutN f n) = tabN n f := tabN_congr _ _ _ (fun i hi => by unfold cutN; rw [if_pos hi])
theorem tabN_of (l : List Nat) (n : Nat) (h : l.length = n) : tabN n (fun i => l.getD i 0) = l := by
  apply List.ext_getElem
  · rw [tabN_length, h]
  · intro i h1 h2
    simp [tabN, List.getD_eq_getElem?_getD, List.getElem?_eq_getElem h2]
theorem IntsAt.other {w : World} {K : IntKind} {g n : Nat} {l : List Int} (h : IntsAt w K (some ⟨g, 0, none⟩) n l) (p : Addr) (hp : p.block ≠ g) (u : Value) : IntsAt (w.setCell p u) K (some ⟨g, 0, none⟩) n l := by
  refine ⟨h.1, ?_⟩
  rcases h.2 with h0 | ⟨b, off, ha, hc⟩
  · exact .inl h0
  · cases ha
    refine .inr ⟨g, 0, rfl, fun i hi => ?_⟩
    rw [World.cell?_setCell_far _ _ _ _ hp]
    exact hc i hi

theorem Arr.new' (w : World) (t : TypeId) (l : List Nat) (c : Array Value) (g : Nat) (hg : w.heap.size = g) (hc : c = vals l) : Arr (w.alloc (.cells c t)) t g l := by
  subst hg; exact Arr.new w t l c hc

end Go.Proofs.YtfbgofbjbfidoaaDoor
