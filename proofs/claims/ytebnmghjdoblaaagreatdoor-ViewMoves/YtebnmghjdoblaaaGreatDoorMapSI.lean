/- Maps of texts to numbers that a call makes; rows of texts at the head of a block. -/
import Derived.Test.YtebnmghjdoblaaaGreatDoorBA
import Derived.Maps.OwnOps
import Derived.Maps.Views
import Derived.StringKeys
namespace Go.Proofs.YtebnmghjdoblaaaGreatDoor
open Go.RowKit Go.Maps
set_option linter.unusedSimpArgs false
set_option maxRecDepth 100000

theorem lawSI : Keyed Tryz.prog 9 := string_keyed Tryz.underlying9
theorem zeroSI (w : World) : (zeroValue 3).run Tryz.prog w = .ok (.int .i64 0) w := by kernel_rfl
def keySI (s : ByteArray) : Lit := .string s.data.toList
theorem keySI_inj {s t : ByteArray} (h : keySI s = keySI t) : s = t := by
  have : s.data.toList = t.data.toList := Lit.string.inj h
  exact bytes_ext this
/-- Block b is a map of at most n texts that has f at each text. -/
def MapSI (w : World) (b n : Nat) (f : ByteArray → Nat) : Prop :=
  ∃ D : DataW Unit, w.ownsMap Tryz.prog 9 (plainElem Tryz.prog 3) b n D ∧ IsMap D ∧ ∀ s, s.size ≤ maxLen → D.atKey (keySI s) (.lit (.int .i64 0)) = .lit (.int .i64 (f s : Int))
theorem MapSI.made (w : World) : MapSI (w.alloc (.map #[] 0)) w.heap.size 0 (fun _ => 0) :=
  ⟨.map [], World.ownsMap_made _ _ _ _, isMap_empty, fun _ _ => rfl⟩
theorem MapSI.lt {w : World} {b n : Nat} {f : ByteArray → Nat} (h : MapSI w b n f) : b < w.heap.size := by
  obtain ⟨D, h, _⟩ := h; exact h.lt
theorem MapSI.block {w w' : World} {b n : Nat} {f : ByteArray → Nat} (h : MapSI w b n f) (hb : w'.heap[b]? = w.heap[b]?) : MapSI w' b n f := by
  obtain ⟨D, ⟨es, clock, h1, h2⟩, h3⟩ := h
  exact ⟨D, ⟨es, clock, hb.trans h1, h2⟩, h3⟩
theorem MapSI.below {w w' : World} {b n : Nat} {f : ByteArray → Nat} (h : MapSI w b n f) (hb : Below w.heap.size w w') : MapSI w' b n f := h.block (hb.block b h.lt)
theorem MapSI.look {w : World} {b n : Nat} {f : ByteArray → Nat} (h : MapSI w b n f) (s : ByteArray) (hs : s.size ≤ maxLen) :
    (Instr.lookup 123 (.map (some b)) (.string s) false).run Tryz.prog w = .ok (.int .i64 (f s : Int)) w := by
  obtain ⟨D, h1, _, h3⟩ := h
  obtain ⟨c, hrun, hat, _⟩ := h1.lookup_int lawSI Tryz.underlying123 Tryz.underlying3 (zeroSI w) (Go.WideMaps.keyOf_string_mk Tryz.underlying9 hs)
  have := h3 s hs
  rw [show keySI s = Lit.string s.data.toList from rfl, hat] at this
  injection this with this
  injection this with _ this
  rw [hrun, this]
theorem MapSI.put {w : World} {b n : Nat} {f : ByteArray → Nat} (h : MapSI w b n f) (s : ByteArray) (x : Nat) (hs : s.size ≤ maxLen) (hx : x ≤ 9223372036854775807) (hn : n < maxLen) :
    ∃ w', (Instr.mapUpdate 123 (.map (some b)) (.string s) (.int .i64 (x : Int))).run Tryz.prog w = .ok () w' ∧ MapSI w' b (n + 1) (fun t => if t = s then x else f t) ∧ w.grownBy w' (some b) := by
  obtain ⟨D, h1, h2, h3⟩ := h
  obtain ⟨w', hrun, r1, r2⟩ := h1.update lawSI Tryz.underlying123 hn (Go.WideMaps.keyOf_string_mk Tryz.underlying9 hs) (plainElem_int Tryz.underlying3 (a := (x : Int)) (WalkArith.wf_i64 (by omega)))
  refine ⟨w', hrun, ⟨_, r1, h2.put _ _, fun t ht => ?_⟩, r2⟩
  show _ = DataW.lit (Lit.int .i64 ((if t = s then x else f t : Nat) : Int))
  by_cases e : t = s
  · subst e
    rw [if_pos rfl]
    exact atKey_put_same h2 (by exact trivial) _ _
  · rw [if_neg e]
    exact (atKey_put_other (fun hk => e (keySI_inj hk)) _ _).trans (h3 t ht)

/-- A row of texts at the head of block g. -/
def RowT (w : World) (g n : Nat) (F : Nat → ByteArray) : Prop := ∃ cs t fr, w.heap[g]? = some (.cells cs t fr) ∧ (n ≤ fr.1 ∨ fr.2 = 0) ∧ ∀ j, j < n → cs[j]? = some (.string (F j))
theorem RowT.cell {w : World} {g n : Nat} {F : Nat → ByteArray} (h : RowT w g n F) (j : Nat) (hj : j < n) : w.cell? ⟨g, j, none⟩ = some (.string (F j)) := by
  obtain ⟨cs, t, fr, hg, _, hc⟩ := h
  rw [cell_of_row _ _ _ _ t fr hg]; exact hc j hj
theorem RowT.free {w : World} {g n : Nat} {F : Nat → ByteArray} (h : RowT w g n F) (j : Nat) (hj : j < n) : w.frozen? ⟨g, j, none⟩ = false := by
  obtain ⟨cs, t, ⟨lo, hi⟩, hg, hn, _⟩ := h
  have hn' : n ≤ lo ∨ hi = 0 := hn
  unfold World.frozen?
  simp only [hg]
  rw [Bool.and_eq_false_iff]
  rcases hn' with h1 | h1
  · left; simp; omega
  · right; simp; omega
theorem RowT.lt {w : World} {g n : Nat} {F : Nat → ByteArray} (h : RowT w g n F) : g < w.heap.size := by
  obtain ⟨cs, t, fr, hg, _⟩ := h
  exact (Array.getElem?_eq_some_iff.1 hg).1
theorem RowT.block {w w' : World} {g n : Nat} {F : Nat → ByteArray} (h : RowT w g n F) (hb : w'.heap[g]? = w.heap[g]?) : RowT w' g n F := by
  obtain ⟨cs, t, fr, h1, h2⟩ := h
  exact ⟨cs, t, fr, hb.trans h1, h2⟩
theorem RowT.set {w : World} {g n : Nat} {F : Nat → ByteArray} (h : RowT w g n F) (j : Nat) (x : ByteArray) : RowT (w.setCell ⟨g, j, none⟩ (.string x)) g n (fun i => if i = j then x else F i) := by
  obtain ⟨cs, t, fr, hg, hn, hc⟩ := h
  refine ⟨cs.setIfInBounds j (.string x), t, fr, by rw [setCell_eq_setRow w g j cs t fr _ hg]; exact setRow_heap w g cs _ t _ hg, hn, fun i hi => ?_⟩
  rw [Array.getElem?_setIfInBounds]
  have hsz : i < cs.size := (Array.getElem?_eq_some_iff.1 (hc i hi)).1
  by_cases e : i = j
  · subst e
    rw [if_pos rfl, if_pos hsz]
    show _ = some (Value.string (if i = i then x else F i))
    rw [if_pos rfl]
  · rw [if_neg (fun h => e h.symm)]
    show _ = some (Value.string (if i = j then x else F i))
    rw [if_neg e]; exact hc i hi
theorem RowT.made (w : World) (e : TypeId) (n : Nat) : RowT (w.alloc (.cells (madeCells #[Value.string ⟨#[]⟩] n) e)) w.heap.size n (fun _ => ⟨#[]⟩) := by
  refine ⟨_, e, _, heap_alloc_last w _, Or.inr rfl, fun j hj => ?_⟩
  have h := toList_madeCells_one (Value.string ⟨#[]⟩) n
  rw [← Array.getElem?_toList, h, List.getElem?_replicate, if_pos hj]
theorem RowT.strs {w : World} {g n : Nat} {l : List ByteArray} (h : RowT w g n (strL l)) (hl : l.length = n) : StrsAt w (some ⟨g, 0, none⟩) n l :=
  ⟨hl, .inr ⟨g, 0, rfl, fun i hi => by rw [Nat.zero_add]; exact h.cell i hi⟩⟩
theorem strL_snoc (l : List ByteArray) (x : ByteArray) : (fun i => if i = l.length then x else strL l i) = strL (l ++ [x]) := by
  funext i
  unfold strL
  rw [List.getD_eq_getElem?_getD, List.getD_eq_getElem?_getD]
  by_cases h : i < l.length
  · rw [if_neg (by omega), List.getElem?_append_left h]
  · rw [List.getElem?_append_right (by omega)]
    by_cases e : i = l.length
    · rw [if_pos e, e, Nat.sub_self]; rfl
    · rw [if_neg e, List.getElem?_eq_none (by omega), List.getElem?_eq_none (by simp; omega)]
theorem grownBy_trans {w w1 w2 : World} {b : Nat} (h1 : w.grownBy w1 (some b)) (h2 : w1.grownBy w2 (some b)) : w.grownBy w2 (some b) :=
  ⟨h2.os.trans h1.os, h2.tape.trans h1.tape, h2.output.trans h1.output, Nat.le_trans h1.size h2.size, fun k hk hne => (h2.block k (Nat.lt_of_lt_of_le hk h1.size) hne).trans (h1.block k hk hne)⟩
theorem grownBy_below {w w1 w2 : World} {b : Nat} (h1 : w.grownBy w1 (some b)) (h2 : Below w1.heap.size w1 w2) : w.grownBy w2 (some b) :=
  ⟨h2.os.trans h1.os, h2.tape.trans h1.tape, h2.output.trans h1.output, Nat.le_trans h1.size h2.size, fun k hk hne => (h2.block k (Nat.lt_of_lt_of_le hk h1.size)).trans (h1.block k hk hne)⟩
theorem grownBy_refl (w : World) (b : Nat) : w.grownBy w (some b) := ⟨rfl, rfl, rfl, Nat.le_refl _, fun _ _ _ => rfl⟩
end Go.Proofs.YtebnmghjdoblaaaGreatDoor
