/- Maps of texts to numbers that a call makes; rows of texts at the head of a block. -/
import Derived.Test.YtaakmcihpdbilaaDoorStrs
import Derived.Maps.OwnOps
import Derived.Maps.Views
import Derived.StringKeys
namespace Go.Proofs.YtaakmcihpdbilaaDoor
open Go.RowKit Go.Maps
set_option linter.unusedSimpArgs false
set_option maxRecDepth 100000

/-- A row of texts at the head of block g. -/
def RowT (w : World) (g n : Nat) (F : Nat → ByteArray) : Prop := ∃ cs t fr, w.heap[g]? = some (.cells cs t fr) ∧ (n ≤ fr.1 ∨ fr.2 = 0) ∧ ∀ j, j < n → cs[j]? = some (.string (F j))
theorem RowT.cell {w : World} {g n : Nat} {F : Nat → ByteArray} (h : RowT w g n F) (j : Nat) (hj : j < n) : w.cell? ⟨g, j, none⟩ = some (.string (F j)) := by
  obtain ⟨cs, t, fr, hg, _, hc⟩ := h
  rw [cell_of_row _ _ _ _ t fr hg]; exact hc j hj
theorem RowT.free {w : World} {g n : Nat} {F : Nat → ByteArray} (h : RowT w g n F) (j : Nat) (hj : j < n) : w.frozen? ⟨g, j, none⟩ = false := by
  obtain ⟨cs, t, ⟨lo, hi⟩, hg, hn, _⟩ := h
  have hn' : n ≤ lo ∨ hi = 0 := hn
  unfold World.frozen?
  simp only [hg]
  rw [Bool.and_eq_false_iff]
  rcases hn' with h1 | h1
  · left; simp; omega
  · right; simp; omega
theorem RowT.lt {w : World} {g n : Nat} {F : Nat → ByteArray} (h : RowT w g n F) : g < w.heap.size := by
  obtain ⟨cs, t, fr, hg, _⟩ := h
  exact (Array.getElem?_eq_some_iff.1 hg).1
theorem RowT.block {w w' : World} {g n : Nat} {F : Nat → ByteArray} (h : RowT w g n F) (hb : w'.heap[g]? = w.heap[g]?) : RowT w' g n F := by
  obtain ⟨cs, t, fr, h1, h2⟩ := h
  exact ⟨cs, t, fr, hb.trans h1, h2⟩
theorem RowT.set {w : World} {g n : Nat} {F : Nat → ByteArray} (h : RowT w g n F) (j : Nat) (x : ByteArray) : RowT (w.setCell ⟨g, j, none⟩ (.string x)) g n (fun i => if i = j then x else F i) := by
  obtain ⟨cs, t, fr, hg, hn, hc⟩ := h
  refine ⟨cs.setIfInBounds j (.string x), t, fr, by rw [setCell_eq_setRow w g j cs t fr _ hg]; exact setRow_heap w g cs _ t _ hg, hn, fun i hi => ?_⟩
  rw [Array.getElem?_setIfInBounds]
  have hsz : i < cs.size := (Array.getElem?_eq_some_iff.1 (hc i hi)).1
  by_cases e : i = j
  · subst e
    rw [if_pos rfl, if_pos hsz]
    show _ = some (Value.string (if i = i then x else F i))
    rw [if_pos rfl]
  · rw [if_neg (fun h => e h.symm)]
    show _ = some (Value.string (if i = j then x else F i))
    rw [if_neg e]; exact hc i hi
theorem RowT.made (w : World) (e : TypeId) (n : Nat) : RowT (w.alloc (.cells (madeCells #[Value.string ⟨#[]⟩] n) e)) w.heap.size n (fun _ => ⟨#[]⟩) := by
  refine ⟨_, e, _, heap_alloc_last w _, Or.inr rfl, fun j hj => ?_⟩
  have h := toList_madeCells_one (Value.string ⟨#[]⟩) n
  rw [← Array.getElem?_toList, h, List.getElem?_replicate, if_pos hj]
theorem RowT.strs {w : World} {g n : Nat} {l : List ByteArray} (h : RowT w g n (strL l)) (hl : l.length = n) : StrsAt w (some ⟨g, 0, none⟩) n l :=
  ⟨hl, .inr ⟨g, 0, rfl, fun i hi => by rw [Nat.zero_add]; exact h.cell i hi⟩⟩
theorem strL_snoc (l : List ByteArray) (x : ByteArray) : (fun i => if i = l.length then x else strL l i) = strL (l ++ [x]) := by
  funext i
  unfold strL
  rw [List.getD_eq_getElem?_getD, List.getD_eq_getElem?_getD]
  by_cases h : i < l.length
  · rw [if_neg (by omega), List.getElem?_append_left h]
  · rw [List.getElem?_append_right (by omega)]
    by_cases e : i = l.length
    · rw [if_pos e, e, Nat.sub_self]; rfl
    · rw [if_neg e, List.getElem?_eq_none (by omega), List.getElem?_eq_none (by simp; omega)]
theorem grownBy_trans {w w1 w2 : World} {b : Nat} (h1 : w.grownBy w1 (some b)) (h2 : w1.grownBy w2 (some b)) : w.grownBy w2 (some b) :=
  ⟨h2.os.trans h1.os, h2.tape.trans h1.tape, h2.output.trans h1.output, Nat.le_trans h1.size h2.size, fun k hk hne => (h2.block k (Nat.lt_of_lt_of_le hk h1.size) hne).trans (h1.block k hk hne)⟩
theorem grownBy_below {w w1 w2 : World} {b : Nat} (h1 : w.grownBy w1 (some b)) (h2 : Below w1.heap.size w1 w2) : w.grownBy w2 (some b) :=
  ⟨h2.os.trans h1.os, h2.tape.trans h1.tape, h2.output.trans h1.output, Nat.le_trans h1.size h2.size, fun k hk hne => (h2.block k (Nat.lt_of_lt_of_le hk h1.size)).trans (h1.block k hk hne)⟩
theorem grownBy_refl (w : World) (b : Nat) : w.grownBy w (some b) := ⟨rfl, rfl, rfl, Nat.le_refl _, fun _ _ _ => rfl⟩
end Go.Proofs.YtaakmcihpdbilaaDoor
