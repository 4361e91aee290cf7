/- Rows of bytes at the head of a block, whoever made it: plain facts. -/
import Derived.Test.YtfbgofbjbfidoaaDoorHm
import Derived.Laws.IdiomStrings
namespace Go.Proofs.YtfbgofbjbfidoaaDoor
open Go.RowKit
set_option linter.unusedSimpArgs false

/-- A row of bytes at the head of block g. -/
def Row8 (w : World) (g n : Nat) (f : Nat → Nat) : Prop := ∃ cs t fr, w.heap[g]? = some (.cells cs t fr) ∧ (n ≤ fr.1 ∨ fr.2 = 0) ∧ ∀ j, j < n → cs[j]? = some (.int .u8 ((f j : Nat) : Int))
theorem Row8.cell {w : World} {g n : Nat} {f : Nat → Nat} (h : Row8 w g n f) (j : Nat) (hj : j < n) : w.cell? ⟨g, j, none⟩ = some (.int .u8 ((f j : Nat) : Int)) := by
  obtain ⟨cs, t, fr, hg, _, hc⟩ := h
  rw [cell_of_row _ _ _ _ t fr hg]; exact hc j hj
theorem Row8.free {w : World} {g n : Nat} {f : Nat → Nat} (h : Row8 w g n f) (j : Nat) (hj : j < n) : w.frozen? ⟨g, j, none⟩ = false := by
  obtain ⟨cs, t, ⟨lo, hi⟩, hg, hn, _⟩ := h
  have hn' : n ≤ lo ∨ hi = 0 := hn
  unfold World.frozen?
  simp only [hg]
  rw [Bool.and_eq_false_iff]
  rcases hn' with h1 | h1
  · left; simp; omega
  · right; simp; omega
theorem Row8.lt {w : World} {g n : Nat} {f : Nat → Nat} (h : Row8 w g n f) : g < w.heap.size := by
  obtain ⟨cs, t, fr, hg, _⟩ := h
  exact (Array.getElem?_eq_some_iff.1 hg).1
theorem Row8.below {w w' : World} {B g n : Nat} {f : Nat → Nat} (h : Row8 w g n f) (hb : Below B w w') (hg : g < B) : Row8 w' g n f := by
  obtain ⟨cs, t, fr, h1, h2⟩ := h
  exact ⟨cs, t, fr, by rw [hb.block g hg]; exact h1, h2⟩
theorem Row8.set {w : World} {g n : Nat} {f : Nat → Nat} (h : Row8 w g n f) (j x : Nat) : Row8 (w.setCell ⟨g, j, none⟩ (.int .u8 (x : Int))) g n (fun i => if i = j then x else f i) := by
  obtain ⟨cs, t, fr, hg, hn, hc⟩ := h
  refine ⟨cs.setIfInBounds j (.int .u8 (x : Int)), t, fr, by rw [setCell_eq_setRow w g j cs t fr _ hg]; exact setRow_heap w g cs _ t _ hg, hn, fun i hi => ?_⟩
  rw [Array.getElem?_setIfInBounds]
  have hsz : i < cs.size := (Array.getElem?_eq_some_iff.1 (hc i hi)).1
  by_cases e : i = j
  · subst e
    rw [if_pos rfl, if_pos hsz]
    show _ = some (Value.int .u8 ((if i = i then x else f i : Nat) : Int))
    rw [if_pos rfl]
  · rw [if_neg (fun h => e h.symm)]
    show _ = some (Value.int .u8 ((if i = j then x else f i : Nat) : Int))
    rw [if_neg e]; exact hc i hi
theorem Row8.conv {P : Program} {w : World} {g n : Nat} {f : Nat → Nat} {e : TypeId} (h : Row8 w g n f) (hf : ∀ i, f i < 256) (k c : Nat) (hk : k ≤ n) (src dst : TypeId)
    (hs : P.underlying src = some (.slice e)) (he : P.underlying e = some (.int .u8)) (hd : P.underlying dst = some .string) :
    (convert src dst (.slice (some ⟨g, 0, none⟩) k c)).run P w = .ok (.string ⟨(bytesOf k f).toArray⟩) w := by
  rw [← str_nums, nums_bytesOf k f (fun i _ => hf i)]
  exact run_convert_bytes_arg w src e hs he g 0 k c (tab k fun i => (f i : Int)) (tab_length _ _) (fun i hi => by rw [Nat.zero_add, tab_getD _ _ _ hi, h.cell i (by omega)]) dst hd

theorem bytes_new {P : Program} (w : World) (src dst e : TypeId) (s : ByteArray) (hs : P.underlying src = some .string) (hd : P.underlying dst = some (.slice e)) (he : P.underlying e = some (.int .u8)) :
    ∃ c w', (convert src dst (.string s)).run P w = .ok (.slice (some ⟨w.heap.size, 0, none⟩) s.size c) w' ∧ s.size ≤ c ∧ Row8 w' w.heap.size s.size (bt s) ∧ Below w.heap.size w w' := by
  refine ⟨_, _, run_bytes_of_string w src dst e s hs hd he, grownCap_ge _ _ _ _, ?_, ?_⟩
  · refine ⟨_, e, _, heap_alloc_last w.drew _, Or.inl ?_, fun j hj => ?_⟩
    · show s.size ≤ (bytesRow s _).size
      unfold bytesRow
      rw [Array.size_append, Array.size_map]
      exact Nat.le_add_right _ _
    · rw [bytesRow_at s _ j hj, ← bt_get s j hj]; rfl
  · exact (Below.refl _ _).drew.alloc (Nat.le_refl _) _

theorem bytesOf_bt (s : ByteArray) (n : Nat) (h : s.size = n) : (⟨(bytesOf n (bt s)).toArray⟩ : ByteArray) = s := by
  apply bytes_ext
  show (bytesOf n (bt s)).toArray.toList = _
  have hl : s.data.toList.length = n := by rw [Array.length_toList]; exact h
  rw [List.toList_toArray]
  apply List.ext_getElem
  · rw [bytesOf_length, hl]
  · intro i h1 h2
    have h3 : i < s.data.size := by rw [Array.length_toList] at h2; exact h2
    simp [bytesOf, bt, List.getD_eq_getElem?_getD, Array.getElem?_eq_getElem h3]
theorem bt_bytesOf (n : Nat) (f : Nat → Nat) (i : Nat) (hi : i < n) (hf : f i < 256) : bt ⟨(bytesOf n f).toArray⟩ i = f i := by
  rw [bt_mk, List.getD_eq_getElem?_getD]
  simp [bytesOf, hi, Nat.mod_eq_of_lt hf]
theorem Row8.other {w : World} {g n : Nat} {f : Nat → Nat} (h : Row8 w g n f) (p : Addr) (hp : g ≠ p.block) (u : Value) : Row8 (w.setCell p u) g n f := by
  obtain ⟨cs, t, fr, h1, h2⟩ := h
  exact ⟨cs, t, fr, by rw [heap_setCell_other w p g u hp]; exact h1, h2⟩
theorem Row8.alloc {w : World} {g n : Nat} {f : Nat → Nat} (h : Row8 w g n f) (o : Obj) : Row8 (w.alloc o) g n f := by
  have hl := h.lt
  obtain ⟨cs, t, fr, h1, h2⟩ := h
  exact ⟨cs, t, fr, by rw [Below.heap_alloc w o g hl]; exact h1, h2⟩
theorem Row8.cast {w : World} {g n : Nat} {f f' : Nat → Nat} (e : f = f') (h : Row8 w g n f) : Row8 w g n f' := e ▸ h
theorem Row8.made (w : World) (e : TypeId) (n : Nat) : Row8 (w.alloc (.cells (madeCells #[Value.int .u8 0] n) e)) w.heap.size n (fun _ => 0) := by
  refine ⟨_, e, _, heap_alloc_last w _, Or.inr rfl, fun j hj => ?_⟩
  have h := toList_madeCells_one (Value.int .u8 0) n
  rw [← Array.getElem?_toList, h, List.getElem?_replicate, if_pos hj]; rfl
theorem cutN_nil (f : Nat → Nat) : (fun _ => 0) = cutN f 0 := by funext i; unfold cutN; rw [if_neg (by omega)]
theorem cutN_put (f : Nat → Nat) (k : Nat) : (fun i => if i = k then f k else cutN f k i) = cutN f (k + 1) := by
  funext i
  unfold cutN
  by_cases h : i = k
  · rw [if_pos h, if_pos (by omega), h]
  · rw [if_neg h]
    by_cases h2 : i < k
    · rw [if_pos h2, if_pos (by omega)]
    · rw [if_neg h2, if_neg (by omega)]
theorem bytesOf_congr (n : Nat) (f g : Nat → Nat) (h : ∀ i, i < n → f i = g i) : bytesOf n f = bytesOf n g := by
  unfold bytesOf
  exact List.map_congr_left (fun i hi => by simp only [h i (List.mem_range.1 hi)])
theorem bytesOf_cut (n : Nat) (f : Nat → Nat) : bytesOf n (cutN f n) = bytesOf n f := bytesOf_congr _ _ _ (fun i hi => by unfold cutN; rw [if_pos hi])
end Go.Proofs.YtfbgofbjbfidoaaDoor
