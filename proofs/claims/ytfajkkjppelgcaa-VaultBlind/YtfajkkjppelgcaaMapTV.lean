/- Maps keyed by texts: looked up, put; whatever their values are. -/
import Derived.Test.YtfajkkjppelgcaaG
import Derived.Test.YtfajkkjppelgcaaStrs
import Derived.MapKept
namespace Go.Proofs.Ytfajkkjppelgcaa
open Go.RowKit
set_option maxRecDepth 100000
set_option linter.unusedSimpArgs false

/-- The entries of block r, in the order in which they came. -/
def MapTV (w : World) (r : Nat) (l : List (ByteArray × Value)) : Prop := ∃ es clock, w.heap[r]? = some (.map es clock) ∧ es.toList.map (fun e => (e.key, e.val)) = l.map (fun p => (Value.string p.1, p.2))

/-- Where a text stands, and its value. -/
def findX (k : ByteArray) : List (ByteArray × Value) → Nat → Option (Nat × Value)
  | [], _ => none
  | p :: l, i => if k = p.1 then some (i, p.2) else findX k l (i + 1)

def lookX (l : List (ByteArray × Value)) (k : ByteArray) : Option Value := (findX k l 0).map (·.2)

theorem checkTxt_ok (e : Bool) (k : ByteArray) (w : World) : (Instr.checkKey e 10000 9 (.string k)).run Try.prog w = .ok () w := by
  rw [show (10000 : Nat) = 9999 + 1 from rfl, Instr.checkKey]
  simp only [Sem.run_bind, run_underlying Try.underlying9, Result.andThen_ok]
  rfl

theorem txtBeq (a b : ByteArray) : (a == b) = decide (a = b) := by
  obtain ⟨a⟩ := a
  obtain ⟨b⟩ := b
  show (a == b) = _
  by_cases e : a = b
  · rw [decide_eq_true (by rw [e]), e]; exact beq_self_eq_true _
  · rw [decide_eq_false (fun h => e (ByteArray.mk.inj h))]; exact beq_eq_false_iff_ne.2 e

theorem findTxt_now (k : ByteArray) : ∀ (l : List (ByteArray × Value)) (es : List MapEntry) (i : Nat), es.map (fun e => (e.key, e.val)) = l.map (fun p => (Value.string p.1, p.2)) → Instr.findNow .string (.string k) es i = some (findX k l i) := by
  intro l
  induction l with
  | nil =>
    intro es i h
    cases es with
    | nil => rfl
    | cons e es => simp at h
  | cons p l ih =>
    intro es i h
    cases es with
    | nil => simp at h
    | cons e es =>
      simp only [List.map_cons, List.cons.injEq, Prod.mk.injEq] at h
      obtain ⟨⟨h1, h2⟩, h3⟩ := h
      have hs : Instr.sameNow .string (.string k) e.key = some (decide (k = p.1)) := by
        rw [h1]
        show some (k == p.1) = _
        rw [txtBeq]
      rw [Instr.findNow, hs]
      unfold findX
      by_cases e2 : k = p.1
      · rw [decide_eq_true e2, if_pos e2, h2]
      · rw [decide_eq_false e2, if_neg e2]
        exact ih es (i + 1) h3

theorem findTxt_run (k : ByteArray) (w : World) (l : List (ByteArray × Value)) (es : List MapEntry) (h : es.map (fun e => (e.key, e.val)) = l.map (fun p => (Value.string p.1, p.2))) : (Instr.findKey 9 (.string k) es).run Try.prog w = .ok (findX k l 0) w := by
  unfold Instr.findKey
  simp only [Sem.run_bind, run_underlying Try.underlying9, Result.andThen_ok, findTxt_now k l es 0 h]
  rfl

theorem MapTV.made (w : World) : MapTV (w.alloc (.map #[] 0)) w.heap.size [] := ⟨#[], 0, heap_alloc_last w _, rfl⟩

theorem MapTV.block {w w' : World} {r : Nat} {l : List (ByteArray × Value)} (h : MapTV w r l) (hb : w'.heap[r]? = w.heap[r]?) : MapTV w' r l := by
  obtain ⟨es, clock, h1, h2⟩ := h
  exact ⟨es, clock, hb.trans h1, h2⟩

theorem MapTV.lt {w : World} {r : Nat} {l : List (ByteArray × Value)} (h : MapTV w r l) : r < w.heap.size := by
  obtain ⟨es, clock, h1, _⟩ := h
  exact (Array.getElem?_eq_some_iff.1 h1).1

theorem MapTV.on {w w' : World} {r : Nat} {l : List (ByteArray × Value)} (h : MapTV w r l) (hb : Below w.heap.size w w') : MapTV w' r l := h.block (hb.block r h.lt)

/-- 'm[k]', and 'v, ok := m[k]'. -/
theorem MapTV.look {w : World} {r : Nat} {l : List (ByteArray × Value)} (h : MapTV w r l) (t et : TypeId) (ht : Try.prog.underlying t = some (.map 9 et)) (z : Value) (hz : ∀ w, (zeroValue et).run Try.prog w = .ok z w) (k : ByteArray) (ok : Bool) :
    (Instr.lookup t (.map (some r)) (.string k) ok).run Try.prog w = .ok (if ok then .tuple #[(lookX l k).getD z, .bool (lookX l k).isSome] else (lookX l k).getD z) w := by
  obtain ⟨es, clock, h1, h2⟩ := h
  unfold Instr.lookup
  simp only [Sem.run_bind, Sem.run_pure, run_underlying ht, Result.andThen_ok, MapKept.run_getObj_map h1, checkTxt_ok, findTxt_run k w l es.toList h2]
  unfold lookX
  cases hf : findX k l 0 with
  | none => simp [hz, Sem.run_bind]
  | some p => simp

/-- The map with a text's value put: in its place, or at the end. -/
def putX (l : List (ByteArray × Value)) (k : ByteArray) (v : Value) : List (ByteArray × Value) := match findX k l 0 with
  | some (i, _) => l.set i (k, v)
  | none => l ++ [(k, v)]

theorem findX_at (k : ByteArray) : ∀ (l : List (ByteArray × Value)) (i j : Nat) (v : Value), findX k l i = some (j, v) → i ≤ j ∧ l[j - i]? = some (k, v) := by
  intro l
  induction l with
  | nil => intro i j v h; cases h
  | cons p l ih =>
    intro i j v h
    unfold findX at h
    by_cases e : k = p.1
    · rw [if_pos e] at h
      cases h
      exact ⟨Nat.le_refl _, by rw [Nat.sub_self, e]; rfl⟩
    · rw [if_neg e] at h
      obtain ⟨h1, h2⟩ := ih (i + 1) j v h
      exact ⟨by omega, by rw [show j - i = (j - (i + 1)) + 1 by omega]; exact h2⟩

/-- 'm[k] = v'. -/
theorem MapTV.put {w : World} {r : Nat} {l : List (ByteArray × Value)} (h : MapTV w r l) (t et : TypeId) (ht : Try.prog.underlying t = some (.map 9 et)) (k : ByteArray) (v : Value) :
    ∃ w', (Instr.mapUpdate t (.map (some r)) (.string k) v).run Try.prog w = .ok () w' ∧ MapTV w' r (putX l k v) ∧ w.grownBy w' (some r) := by
  obtain ⟨es, clock, h1, h2⟩ := h
  have hlt : r < w.heap.size := (Array.getElem?_eq_some_iff.1 h1).1
  have fr : ∀ o : Obj, w.grownBy { w with heap := w.heap.setIfInBounds r o } (some r) := fun o => ⟨rfl, rfl, rfl, by simp, fun j hj hne => by
    rw [Array.getElem?_setIfInBounds, if_neg (fun e => hne (by rw [e]))]⟩
  have at_ : ∀ o : Obj, ({ w with heap := w.heap.setIfInBounds r o } : World).heap[r]? = some o := fun o => by
    show (w.heap.setIfInBounds r o)[r]? = _
    rw [Array.getElem?_setIfInBounds, if_pos rfl, if_pos hlt]
  unfold Instr.mapUpdate putX
  cases hf : findX k l 0 with
  | none =>
    refine ⟨{ w with heap := w.heap.setIfInBounds r (.map (es.push { key := .string k, val := v, born := clock }) (clock + 1)) }, ?_, ⟨_, _, at_ _, ?_⟩, fr _⟩
    · simp only [Sem.run_bind, Sem.run_pure, run_underlying ht, Result.andThen_ok, MapKept.run_getObj_map h1, checkTxt_ok, findTxt_run k w l es.toList h2, hf, MapKept.run_setObj_map _ h1]
    · rw [Array.toList_push, List.map_append, h2, List.map_append]; rfl
  | some p =>
    obtain ⟨j, v0⟩ := p
    obtain ⟨_, hj⟩ := findX_at k l 0 j v0 hf
    rw [Nat.sub_zero] at hj
    have hjl : j < l.length := (List.getElem?_eq_some_iff.1 hj).1
    have hlen : es.toList.length = l.length := by
      have := congrArg List.length h2
      simpa using this
    have hje : j < es.size := by rw [← Array.length_toList]; omega
    have hkey : (es[j]'hje).key = .string k := by
      have e1 : (es.toList.map (fun e => (e.key, e.val)))[j]? = some ((es[j]'hje).key, (es[j]'hje).val) := by
        rw [List.getElem?_map, Array.getElem?_toList, Array.getElem?_eq_getElem hje]; rfl
      rw [h2, List.getElem?_map, hj] at e1
      have := Option.some.inj e1
      exact (congrArg Prod.fst this).symm
    have hsame : Instr.sameBits 10000 (.string k) (.string k) = true := by
      show (k == k) = true; rw [txtBeq]; exact decide_eq_true rfl
    refine ⟨{ w with heap := w.heap.setIfInBounds r (.map (es.modify j fun e => { e with key := .string k, val := v }) clock) }, ?_, ⟨_, _, at_ _, ?_⟩, fr _⟩
    · simp only [Sem.run_bind, Sem.run_pure, run_underlying ht, Result.andThen_ok, MapKept.run_getObj_map h1, checkTxt_ok, findTxt_run k w l es.toList h2, hf]
      rw [Array.getElem?_eq_getElem hje]
      simp only [Option.map_some, Option.getD_some, hkey, Instr.keyThatStays, hsame, if_true, Sem.run_pure, Result.andThen_ok, MapKept.run_setObj_map _ h1]
    · rw [List.map_set, ← h2, Array.toList_modify]
      apply List.ext_getElem?
      intro i
      rw [List.getElem?_map, List.getElem?_set, List.getElem?_modify, List.getElem?_map]
      by_cases e : j = i
      · subst e
        have hji : j < es.toList.length := by rw [Array.length_toList]; exact hje
        simp [hji, hje]
      · simp [e]

/-- 'len(m)'. -/
theorem MapTV.len {w : World} {r : Nat} {l : List (ByteArray × Value)} (h : MapTV w r l) : ∃ es clock, w.heap[r]? = some (.map es clock) ∧ es.size = l.length := by
  obtain ⟨es, clock, h1, h2⟩ := h
  refine ⟨es, clock, h1, ?_⟩
  have := congrArg List.length h2
  simpa using this

theorem findX_from (k : ByteArray) : ∀ (l : List (ByteArray × Value)) (i : Nat), (findX k l i).map (·.2) = lookX l k := by
  intro l
  induction l with
  | nil => intro i; rfl
  | cons p l ih =>
    intro i
    unfold lookX findX
    by_cases e : k = p.1
    · rw [if_pos e, if_pos e]; rfl
    · rw [if_neg e, if_neg e, ih, ih]

theorem lookX_cons (p : ByteArray × Value) (l : List (ByteArray × Value)) (k : ByteArray) : lookX (p :: l) k = if k = p.1 then some p.2 else lookX l k := by
  show (findX k (p :: l) 0).map _ = _
  unfold findX
  by_cases e : k = p.1
  · rw [if_pos e, if_pos e]; rfl
  · rw [if_neg e, if_neg e]; exact findX_from k l 1

/-- The map with a text's value put, by recursion. -/
def putY (k : ByteArray) (v : Value) : List (ByteArray × Value) → List (ByteArray × Value)
  | [] => [(k, v)]
  | p :: l => if k = p.1 then (k, v) :: l else p :: putY k v l

theorem putX_Y (k : ByteArray) (v : Value) (l : List (ByteArray × Value)) : putX l k v = putY k v l := by
  have gen : ∀ (l : List (ByteArray × Value)) (i : Nat), (match findX k l i with | some (j, _) => l.set (j - i) (k, v) | none => l ++ [(k, v)]) = putY k v l := by
    intro l
    induction l with
    | nil => intro i; rfl
    | cons p l ih =>
      intro i
      by_cases e : k = p.1
      · have h1 : findX k (p :: l) i = some (i, p.2) := by unfold findX; rw [if_pos e]
        rw [h1]
        show (p :: l).set (i - i) (k, v) = _
        rw [Nat.sub_self]
        show (k, v) :: l = _
        unfold putY
        rw [if_pos e]
      · have h1 : findX k (p :: l) i = findX k l (i + 1) := by
          show (if _ then _ else _) = _
          rw [if_neg e]
        rw [h1]
        have hi := ih (i + 1)
        show _ = (if k = p.1 then (k, v) :: l else p :: putY k v l)
        rw [if_neg e, ← hi]
        cases hf : findX k l (i + 1) with
        | none => rfl
        | some r =>
          obtain ⟨j, v0⟩ := r
          obtain ⟨h2, _⟩ := findX_at k l (i + 1) j v0 hf
          show (p :: l).set (j - i) (k, v) = p :: l.set (j - (i + 1)) (k, v)
          rw [show j - i = (j - (i + 1)) + 1 by omega]; rfl
  exact gen l 0

/-- A text's value behind a put; how many there are. -/
theorem lookX_put (l : List (ByteArray × Value)) (k q : ByteArray) (v : Value) : lookX (putX l k v) q = if q = k then some v else lookX l q := by
  rw [putX_Y]
  induction l with
  | nil => rw [show putY k v [] = [(k, v)] from rfl, lookX_cons]
  | cons p l ih =>
    unfold putY
    by_cases e : k = p.1
    · rw [if_pos e, lookX_cons, lookX_cons]
      by_cases e2 : q = k
      · rw [if_pos e2, if_pos e2]
      · rw [if_neg e2, if_neg e2, if_neg (by rw [← e]; exact e2)]
    · rw [if_neg e, lookX_cons, lookX_cons, ih]
      by_cases e2 : q = p.1
      · rw [if_pos e2, if_pos e2, if_neg (fun e3 => e (by rw [← e3, e2]))]
      · rw [if_neg e2, if_neg e2]

theorem lenX_put (l : List (ByteArray × Value)) (k : ByteArray) (v : Value) : (putX l k v).length = if (lookX l k).isSome then l.length else l.length + 1 := by
  rw [putX_Y]
  induction l with
  | nil => rfl
  | cons p l ih =>
    unfold putY
    rw [lookX_cons]
    by_cases e : k = p.1
    · rw [if_pos e, if_pos e]; rfl
    · rw [if_neg e, if_neg e, List.length_cons, ih, List.length_cons]
      by_cases h : (lookX l k).isSome = true
      · rw [if_pos h, if_pos h]
      · rw [if_neg h, if_neg h]

theorem lookX_empty (k : ByteArray) : lookX [] k = none := rfl

end Go.Proofs.Ytfajkkjppelgcaa
