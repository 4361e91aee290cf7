/- Maps keyed by numbers: looked up, put; whatever their values are. -/
import Derived.Test.YtkmdajenbidaaaaG
import Derived.Test.YtkmdajenbidaaaaBA
import Derived.MapKept
namespace Go.Proofs.Ytkmdajenbidaaaa
open Go.RowKit
set_option maxRecDepth 100000
set_option linter.unusedSimpArgs false

/-- The entries of block r, in the order in which they came. -/
def MapIV (w : World) (r : Nat) (l : List (Int × Value)) : Prop := ∃ es clock, w.heap[r]? = some (.map es clock) ∧ es.toList.map (fun e => (e.key, e.val)) = l.map (fun p => (Value.int .i64 p.1, p.2))

/-- Where a number stands, and its value. -/
def findIV (k : Int) : List (Int × Value) → Nat → Option (Nat × Value)
  | [], _ => none
  | p :: l, i => if k = p.1 then some (i, p.2) else findIV k l (i + 1)

def lookIV (l : List (Int × Value)) (k : Int) : Option Value := (findIV k l 0).map (·.2)

theorem checkIV_ok (e : Bool) (k : Int) (w : World) : (Instr.checkKey e 10000 3 (.int .i64 k)).run Try.prog w = .ok () w := by
  rw [show (10000 : Nat) = 9999 + 1 from rfl, Instr.checkKey]
  simp only [Sem.run_bind, run_underlying Try.underlying3, Result.andThen_ok]
  rfl

theorem findIV_now (kd : IntKind) (k : Int) : ∀ (l : List (Int × Value)) (es : List MapEntry) (i : Nat), es.map (fun e => (e.key, e.val)) = l.map (fun p => (Value.int .i64 p.1, p.2)) → Instr.findNow (.int kd) (.int .i64 k) es i = some (findIV k l i) := by
  intro l
  induction l with
  | nil =>
    intro es i h
    cases es with
    | nil => rfl
    | cons e es => simp at h
  | cons p l ih =>
    intro es i h
    cases es with
    | nil => simp at h
    | cons e es =>
      simp only [List.map_cons, List.cons.injEq, Prod.mk.injEq] at h
      obtain ⟨⟨h1, h2⟩, h3⟩ := h
      have hs : Instr.sameNow (.int kd) (.int .i64 k) e.key = some (decide (k = p.1)) := by
        rw [h1]
        show (if IntKind.i64 = IntKind.i64 then some (k == p.1) else none) = _
        rw [if_pos rfl]
        by_cases e2 : k = p.1
        · rw [e2, decide_eq_true rfl]; simp
        · rw [decide_eq_false e2, beq_eq_false_iff_ne.2 e2]
      rw [Instr.findNow, hs]
      unfold findIV
      by_cases e2 : k = p.1
      · rw [decide_eq_true e2, if_pos e2, h2]
      · rw [decide_eq_false e2, if_neg e2]
        exact ih es (i + 1) h3

theorem findIV_run (k : Int) (w : World) (l : List (Int × Value)) (es : List MapEntry) (h : es.map (fun e => (e.key, e.val)) = l.map (fun p => (Value.int .i64 p.1, p.2))) : (Instr.findKey 3 (.int .i64 k) es).run Try.prog w = .ok (findIV k l 0) w := by
  unfold Instr.findKey
  simp only [Sem.run_bind, run_underlying Try.underlying3, Result.andThen_ok, findIV_now _ k l es 0 h]
  rfl

theorem MapIV.made (w : World) : MapIV (w.alloc (.map #[] 0)) w.heap.size [] := ⟨#[], 0, heap_alloc_last w _, rfl⟩

theorem MapIV.block {w w' : World} {r : Nat} {l : List (Int × Value)} (h : MapIV w r l) (hb : w'.heap[r]? = w.heap[r]?) : MapIV w' r l := by
  obtain ⟨es, clock, h1, h2⟩ := h
  exact ⟨es, clock, hb.trans h1, h2⟩

theorem MapIV.lt {w : World} {r : Nat} {l : List (Int × Value)} (h : MapIV w r l) : r < w.heap.size := by
  obtain ⟨es, clock, h1, _⟩ := h
  exact (Array.getElem?_eq_some_iff.1 h1).1

theorem MapIV.on {w w' : World} {r : Nat} {l : List (Int × Value)} (h : MapIV w r l) (hb : Below w.heap.size w w') : MapIV w' r l := h.block (hb.block r h.lt)

/-- 'm[k]', and 'v, ok := m[k]'. -/
theorem MapIV.look {w : World} {r : Nat} {l : List (Int × Value)} (h : MapIV w r l) (t et : TypeId) (ht : Try.prog.underlying t = some (.map 3 et)) (z : Value) (hz : ∀ w, (zeroValue et).run Try.prog w = .ok z w) (k : Int) (ok : Bool) :
    (Instr.lookup t (.map (some r)) (.int .i64 k) ok).run Try.prog w = .ok (if ok then .tuple #[(lookIV l k).getD z, .bool (lookIV l k).isSome] else (lookIV l k).getD z) w := by
  obtain ⟨es, clock, h1, h2⟩ := h
  unfold Instr.lookup
  simp only [Sem.run_bind, Sem.run_pure, run_underlying ht, Result.andThen_ok, MapKept.run_getObj_map h1, checkIV_ok, findIV_run k w l es.toList h2]
  unfold lookIV
  cases hf : findIV k l 0 with
  | none => simp [hz, Sem.run_bind]
  | some p => simp

/-- 'm[k] = v' of a new key. -/
theorem MapIV.put {w : World} {r : Nat} {l : List (Int × Value)} (h : MapIV w r l) (t et : TypeId) (ht : Try.prog.underlying t = some (.map 3 et)) (k : Int) (v : Value) (hf : findIV k l 0 = none) :
    ∃ w', (Instr.mapUpdate t (.map (some r)) (.int .i64 k) v).run Try.prog w = .ok () w' ∧ MapIV w' r (l ++ [(k, v)]) ∧ w.grownBy w' (some r) := by
  obtain ⟨es, clock, h1, h2⟩ := h
  have hlt : r < w.heap.size := (Array.getElem?_eq_some_iff.1 h1).1
  have fr : ∀ o : Obj, w.grownBy { w with heap := w.heap.setIfInBounds r o } (some r) := fun o => ⟨rfl, rfl, rfl, by simp, fun j hj hne => by
    rw [Array.getElem?_setIfInBounds, if_neg (fun e => hne (by rw [e]))]⟩
  have at_ : ∀ o : Obj, ({ w with heap := w.heap.setIfInBounds r o } : World).heap[r]? = some o := fun o => by
    show (w.heap.setIfInBounds r o)[r]? = _
    rw [Array.getElem?_setIfInBounds, if_pos rfl, if_pos hlt]
  unfold Instr.mapUpdate
  refine ⟨{ w with heap := w.heap.setIfInBounds r (.map (es.push { key := .int .i64 k, val := v, born := clock }) (clock + 1)) }, ?_, ⟨_, _, at_ _, ?_⟩, fr _⟩
  · simp only [Sem.run_bind, Sem.run_pure, run_underlying ht, Result.andThen_ok, MapKept.run_getObj_map h1, checkIV_ok, findIV_run k w l es.toList h2, hf, MapKept.run_setObj_map _ h1]
  · rw [Array.toList_push, List.map_append, h2, List.map_append]; rfl

end Go.Proofs.Ytkmdajenbidaaaa
