import Derived.Test.YtebnmghjdoblaaaGreatDoorBA
import Derived.Test.YtebnmghjdoblaaaGreatDoorRT
import Derived.MapKept
import Derived.Maps.RangeWalk
import Derived.RangeFuncSeq
/- Maps keyed by stamps: looked up, put, cleared; whatever their values are. -/
namespace Go.Proofs.YtebnmghjdoblaaaGreatDoor
open Go.RowKit
set_option linter.unusedSimpArgs false

def keyV (k : Int × Int) : Value := .agg #[.int .i64 k.1, .int .i64 k.2]

/-- The entries of block r, in the order in which they came. -/
def BornOk (es : Array MapEntry) (clock : Nat) : Prop := (∀ e ∈ es.toList, e.born < clock) ∧ (es.toList.map (·.born)).Nodup

def MapSV (w : World) (r : Nat) (l : List ((Int × Int) × Value)) : Prop := ∃ es clock, w.heap[r]? = some (.map es clock) ∧ es.toList.map (fun e => (e.key, e.val)) = l.map (fun p => (keyV p.1, p.2)) ∧ BornOk es clock

/-- Where a key stands, and its value. -/
def findM (k : Int × Int) : List ((Int × Int) × Value) → Nat → Option (Nat × Value)
  | [], _ => none
  | p :: l, i => if k = p.1 then some (i, p.2) else findM k l (i + 1)

def lookM (l : List ((Int × Int) × Value)) (k : Int × Int) : Option Value := (findM k l 0).map (·.2)

theorem keyEq (k k' : Int × Int) (w : World) : (Op.equal 36 (keyV k) (keyV k')).run Tryz.prog w = .ok (decide (k = k')) w := by
  have := stampEq k.1 k.2 k'.1 k'.2 w
  exact this

theorem checkKey_ok (e : Bool) (k : Int × Int) (w : World) : (Instr.checkKey e 10000 36 (keyV k)).run Tryz.prog w = .ok () w := by
  have u3 := Tryz.underlying3
  have a3 := Tryz.isAgg3
  have z3 := Tryz.sizeOf3
  have ci : ∀ (x : Int) (w : World), (Instr.checkKey e 9999 3 (.int .i64 x)).run Tryz.prog w = .ok () w := fun x w => by
    rw [show (9999 : Nat) = 9998 + 1 from rfl, Instr.checkKey]
    simp only [Sem.run_bind, run_underlying Tryz.underlying3, Result.andThen_ok]
    rfl
  rw [show (10000 : Nat) = 9999 + 1 from rfl, Instr.checkKey]
  unfold keyV
  simp only [Sem.run_bind, run_underlying Tryz.underlying36, Result.andThen_ok]
  go_simp

theorem findAsking_run (k : Int × Int) (w : World) : ∀ (l : List ((Int × Int) × Value)) (es : List MapEntry) (i : Nat), es.map (fun e => (e.key, e.val)) = l.map (fun p => (keyV p.1, p.2)) → (Instr.findAsking 36 (keyV k) es i).run Tryz.prog w = .ok (findM k l i) w := by
  intro l
  induction l with
  | nil =>
    intro es i h
    cases es with
    | nil => rfl
    | cons e es => simp at h
  | cons p l ih =>
    intro es i h
    cases es with
    | nil => simp at h
    | cons e es =>
      simp only [List.map_cons, List.cons.injEq, Prod.mk.injEq] at h
      obtain ⟨⟨h1, h2⟩, h3⟩ := h
      rw [Instr.findAsking]
      simp only [Sem.run_bind, h1, keyEq, Result.andThen_ok]
      unfold findM
      by_cases e2 : k = p.1
      · rw [decide_eq_true e2, if_pos e2, h2]; rfl
      · rw [decide_eq_false e2, if_neg e2]
        exact ih es (i + 1) h3

theorem findKey_run (k : Int × Int) (w : World) (l : List ((Int × Int) × Value)) (es : List MapEntry) (h : es.map (fun e => (e.key, e.val)) = l.map (fun p => (keyV p.1, p.2))) : (Instr.findKey 36 (keyV k) es).run Tryz.prog w = .ok (findM k l 0) w := by
  unfold Instr.findKey
  simp only [Sem.run_bind, run_underlying Tryz.underlying36, Result.andThen_ok]
  cases es with
  | nil =>
    cases l with
    | nil => rfl
    | cons p l => simp at h
  | cons e es =>
    have hn : ∀ fs, Instr.findNow (.struct fs) (keyV k) (e :: es) 0 = none := fun _ => rfl
    simp only [hn]
    exact findAsking_run k w l (e :: es) 0 h

theorem MapSV.made (w : World) : MapSV (w.alloc (.map #[] 0)) w.heap.size [] := ⟨#[], 0, heap_alloc_last w _, rfl, fun e he => absurd he (by simp), by simp⟩

theorem MapSV.block {w w' : World} {r : Nat} {l : List ((Int × Int) × Value)} (h : MapSV w r l) (hb : w'.heap[r]? = w.heap[r]?) : MapSV w' r l := by
  obtain ⟨es, clock, h1, h2⟩ := h
  exact ⟨es, clock, hb.trans h1, h2⟩

theorem MapSV.lt {w : World} {r : Nat} {l : List ((Int × Int) × Value)} (h : MapSV w r l) : r < w.heap.size := by
  obtain ⟨es, clock, h1, _⟩ := h
  exact (Array.getElem?_eq_some_iff.1 h1).1

theorem MapSV.on {w w' : World} {r : Nat} {l : List ((Int × Int) × Value)} (h : MapSV w r l) (hb : Below w.heap.size w w') : MapSV w' r l := h.block (hb.block r h.lt)

/-- 'm[k]', and 'v, ok := m[k]'. -/
theorem MapSV.look {w : World} {r : Nat} {l : List ((Int × Int) × Value)} (h : MapSV w r l) (t et : TypeId) (ht : Tryz.prog.underlying t = some (.map 36 et)) (z : Value) (hz : ∀ w, (zeroValue et).run Tryz.prog w = .ok z w) (k : Int × Int) (ok : Bool) :
    (Instr.lookup t (.map (some r)) (keyV k) ok).run Tryz.prog w = .ok (if ok then .tuple #[(lookM l k).getD z, .bool (lookM l k).isSome] else (lookM l k).getD z) w := by
  obtain ⟨es, clock, h1, h2, _⟩ := h
  unfold Instr.lookup
  simp only [Sem.run_bind, Sem.run_pure, run_underlying ht, Result.andThen_ok, MapKept.run_getObj_map h1, checkKey_ok, findKey_run k w l es.toList h2]
  unfold lookM
  cases hf : findM k l 0 with
  | none => simp [hz, Sem.run_bind]
  | some p => simp

/-- The map with a key's value put: in its place, or at the end. -/
def putM (l : List ((Int × Int) × Value)) (k : Int × Int) (v : Value) : List ((Int × Int) × Value) := match findM k l 0 with
  | some (i, _) => l.set i (k, v)
  | none => l ++ [(k, v)]

theorem findM_at (k : Int × Int) : ∀ (l : List ((Int × Int) × Value)) (i j : Nat) (v : Value), findM k l i = some (j, v) → i ≤ j ∧ l[j - i]? = some (k, v) := by
  intro l
  induction l with
  | nil => intro i j v h; cases h
  | cons p l ih =>
    intro i j v h
    unfold findM at h
    by_cases e : k = p.1
    · rw [if_pos e] at h
      cases h
      exact ⟨Nat.le_refl _, by rw [Nat.sub_self, e]; rfl⟩
    · rw [if_neg e] at h
      obtain ⟨h1, h2⟩ := ih (i + 1) j v h
      exact ⟨by omega, by rw [show j - i = (j - (i + 1)) + 1 by omega]; exact h2⟩

/-- 'm[k] = v'. -/
theorem MapSV.put {w : World} {r : Nat} {l : List ((Int × Int) × Value)} (h : MapSV w r l) (t et : TypeId) (ht : Tryz.prog.underlying t = some (.map 36 et)) (k : Int × Int) (v : Value) :
    ∃ w', (Instr.mapUpdate t (.map (some r)) (keyV k) v).run Tryz.prog w = .ok () w' ∧ MapSV w' r (putM l k v) ∧ w.grownBy w' (some r) := by
  obtain ⟨es, clock, h1, h2, hb1, hb2⟩ := h
  have hlt : r < w.heap.size := (Array.getElem?_eq_some_iff.1 h1).1
  have fr : ∀ o : Obj, w.grownBy { w with heap := w.heap.setIfInBounds r o } (some r) := fun o => ⟨rfl, rfl, rfl, by simp, fun j hj hne => by
    rw [Array.getElem?_setIfInBounds, if_neg (fun e => hne (by rw [e]))]⟩
  have at_ : ∀ o : Obj, ({ w with heap := w.heap.setIfInBounds r o } : World).heap[r]? = some o := fun o => by
    show (w.heap.setIfInBounds r o)[r]? = _
    rw [Array.getElem?_setIfInBounds, if_pos rfl, if_pos hlt]
  unfold Instr.mapUpdate putM
  cases hf : findM k l 0 with
  | none =>
    refine ⟨{ w with heap := w.heap.setIfInBounds r (.map (es.push { key := keyV k, val := v, born := clock }) (clock + 1)) }, ?_, ⟨_, _, at_ _, ?_, ?_⟩, fr _⟩
    · simp only [Sem.run_bind, Sem.run_pure, run_underlying ht, Result.andThen_ok, MapKept.run_getObj_map h1, checkKey_ok, findKey_run k w l es.toList h2, hf, MapKept.run_setObj_map _ h1]
    · rw [Array.toList_push, List.map_append, h2, List.map_append]; rfl
    · refine ⟨fun e he => ?_, ?_⟩
      · rw [Array.toList_push, List.mem_append] at he
        rcases he with he | he
        · have := hb1 e he; omega
        · rw [List.mem_singleton] at he; subst he; exact Nat.lt_succ_self _
      · rw [Array.toList_push, List.map_append, List.nodup_append]
        refine ⟨hb2, by simp, fun a ha b hb => ?_⟩
        obtain ⟨e, he, rfl⟩ := List.mem_map.1 ha
        have := hb1 e he
        simp at hb
        rw [hb]
        show e.born ≠ clock
        omega
  | some p =>
    obtain ⟨j, v0⟩ := p
    obtain ⟨_, hj⟩ := findM_at k l 0 j v0 hf
    rw [Nat.sub_zero] at hj
    have hjl : j < l.length := (List.getElem?_eq_some_iff.1 hj).1
    have hlen : es.toList.length = l.length := by
      have := congrArg List.length h2
      simpa using this
    have hje : j < es.size := by rw [← Array.length_toList]; omega
    have hkey : (es[j]'hje).key = keyV k := by
      have e1 : (es.toList.map (fun e => (e.key, e.val)))[j]? = some ((es[j]'hje).key, (es[j]'hje).val) := by
        rw [List.getElem?_map, Array.getElem?_toList, Array.getElem?_eq_getElem hje]; rfl
      rw [h2, List.getElem?_map, hj] at e1
      have := Option.some.inj e1
      exact (congrArg Prod.fst this).symm
    have hsame : Instr.sameBits 10000 (keyV k) (keyV k) = true := by
      rw [show (10000 : Nat) = 9998 + 1 + 1 from rfl]
      simp [Instr.sameBits, keyV]
    refine ⟨{ w with heap := w.heap.setIfInBounds r (.map (es.modify j fun e => { e with key := keyV k, val := v }) clock) }, ?_, ⟨_, _, at_ _, ?_, ?_⟩, fr _⟩
    · simp only [Sem.run_bind, Sem.run_pure, run_underlying ht, Result.andThen_ok, MapKept.run_getObj_map h1, checkKey_ok, findKey_run k w l es.toList h2, hf]
      rw [Array.getElem?_eq_getElem hje]
      simp only [Option.map_some, Option.getD_some, hkey, Instr.keyThatStays, hsame, if_true, Sem.run_pure, Result.andThen_ok, MapKept.run_setObj_map _ h1]
    · rw [List.map_set, ← h2, Array.toList_modify]
      apply List.ext_getElem?
      intro i
      rw [List.getElem?_map, List.getElem?_set, List.getElem?_modify, List.getElem?_map]
      by_cases e : j = i
      · subst e
        have hji : j < es.toList.length := by rw [Array.length_toList]; exact hje
        simp [hji, hje]
      · simp [e]
    · have hm : (es.modify j fun e => { e with key := keyV k, val := v }).toList.map (·.born) = es.toList.map (·.born) := by
        rw [Array.toList_modify]
        apply List.ext_getElem?
        intro i
        rw [List.getElem?_map, List.getElem?_modify, List.getElem?_map]
        cases es.toList[i]? with
        | none => rfl
        | some x => by_cases e : j = i <;> simp [e]
      refine ⟨fun e he => ?_, by rw [hm]; exact hb2⟩
      have : e.born ∈ (es.modify j fun e => { e with key := keyV k, val := v }).toList.map (·.born) := List.mem_map.2 ⟨e, he, rfl⟩
      rw [hm] at this
      obtain ⟨e', he', h3⟩ := List.mem_map.1 this
      rw [← h3]; exact hb1 e' he'

/-- 'clear(m)'. -/
theorem MapSV.clear {w : World} {r : Nat} {l : List ((Int × Int) × Value)} (h : MapSV w r l) (t ty et : TypeId) (ht : Tryz.prog.underlying t = some (.map 36 et)) :
    ∃ w', (Builtin.clear_ #[t] ty #[.map (some r)]).run Tryz.prog w = .ok (.tuple #[]) w' ∧ MapSV w' r [] ∧ w.grownBy w' (some r) := by
  obtain ⟨es, clock, h1, _⟩ := h
  have hlt : r < w.heap.size := (Array.getElem?_eq_some_iff.1 h1).1
  refine ⟨{ w with heap := w.heap.setIfInBounds r (.map #[] clock) }, ?_, ⟨#[], clock, ?_, rfl, fun e he => absurd he (by simp), by simp⟩, ⟨rfl, rfl, rfl, by simp, fun j hj hne => by rw [Array.getElem?_setIfInBounds, if_neg (fun e => hne (by rw [e]))]⟩⟩
  · unfold Builtin.clear_
    simp [Sem.run_bind, run_underlying ht, MapKept.run_getObj_map h1, MapKept.run_setObj_map _ h1]
  · show (w.heap.setIfInBounds r (.map #[] clock))[r]? = _
    rw [Array.getElem?_setIfInBounds, if_pos rfl, if_pos hlt]

/-- 'len(m)'. -/
theorem MapSV.len {w : World} {r : Nat} {l : List ((Int × Int) × Value)} (h : MapSV w r l) : ∃ es clock, w.heap[r]? = some (.map es clock) ∧ es.size = l.length := by
  obtain ⟨es, clock, h1, h2, _⟩ := h
  refine ⟨es, clock, h1, ?_⟩
  have := congrArg List.length h2
  simpa using this

/-- A key's value behind a put. -/
theorem lookM_put (l : List ((Int × Int) × Value)) (k q : Int × Int) (v : Value) : lookM (putM l k v) q = if q = k then some v else lookM l q := by
  have gen : ∀ (l : List ((Int × Int) × Value)) (i : Nat), (findM q (match findM k l i with | some (j, _) => l.set (j - i) (k, v) | none => l ++ [(k, v)]) i).map (·.2) = if q = k then some v else (findM q l i).map (·.2) := by
    intro l
    induction l with
    | nil =>
      intro i
      show (findM q [(k, v)] i).map (·.2) = _
      unfold findM
      by_cases e : q = k
      · rw [if_pos e, if_pos e]; rfl
      · rw [if_neg e, if_neg e]; rfl
    | cons p l ih =>
      intro i
      by_cases e : k = p.1
      · have h1 : findM k (p :: l) i = some (i, p.2) := by unfold findM; rw [if_pos e]
        rw [h1]
        show (findM q ((p :: l).set (i - i) (k, v)) i).map (·.2) = _
        rw [Nat.sub_self]
        show (findM q ((k, v) :: l) i).map (·.2) = _
        unfold findM
        by_cases e2 : q = k
        · rw [if_pos e2, if_pos e2]; rfl
        · rw [if_neg e2, if_neg e2, if_neg (by rw [← e]; exact e2)]
      · have h1 : findM k (p :: l) i = findM k l (i + 1) := by
          show (if _ then _ else _) = _
          rw [if_neg e]
        rw [h1]
        have hi := ih (i + 1)
        have step : (match findM k l (i + 1) with | some (j, _) => (p :: l).set (j - i) (k, v) | none => (p :: l) ++ [(k, v)]) = p :: (match findM k l (i + 1) with | some (j, _) => l.set (j - (i + 1)) (k, v) | none => l ++ [(k, v)]) := by
          cases hf : findM k l (i + 1) with
          | none => rfl
          | some r =>
            obtain ⟨j, v0⟩ := r
            obtain ⟨h2, _⟩ := findM_at k l (i + 1) j v0 hf
            show (p :: l).set (j - i) (k, v) = p :: l.set (j - (i + 1)) (k, v)
            rw [show j - i = (j - (i + 1)) + 1 by omega]; rfl
        rw [step]
        show (if q = p.1 then some (i, p.2) else findM q _ (i + 1)).map (·.2) = if q = k then some v else (if q = p.1 then some (i, p.2) else findM q l (i + 1)).map (·.2)
        by_cases e2 : q = p.1
        · rw [if_pos e2, if_pos e2, if_neg (fun e3 => e (by rw [← e3, e2]))]
        · rw [if_neg e2, if_neg e2]; exact hi
  have := gen l 0
  exact this

/-- 'for k, v := range m' under way: block it is an iterator over map r; rest: what is still to come. -/
def MapIt (w : World) (r it : Nat) (l rest : List ((Int × Int) × Value)) : Prop :=
  ∃ es clock since seen c0, w.heap[r]? = some (.map es clock) ∧ es.toList.map (fun e => (e.key, e.val)) = l.map (fun p => (keyV p.1, p.2)) ∧ BornOk es clock ∧
    w.heap[it]? = some (.mapIter (some r) since seen c0) ∧ (∀ x ∈ es.toList, x.born < since) ∧ since ≤ c0 ∧ since ≤ clock ∧ (leftOf es seen).toList.map (fun e => (e.key, e.val)) = rest.map (fun p => (keyV p.1, p.2))

theorem MapIt.map {w : World} {r it : Nat} {l rest : List ((Int × Int) × Value)} (h : MapIt w r it l rest) : MapSV w r l := by
  obtain ⟨es, clock, since, seen, c0, h1, h2, h3, _⟩ := h
  exact ⟨es, clock, h1, h2, h3⟩

theorem MapIt.lt {w : World} {r it : Nat} {l rest : List ((Int × Int) × Value)} (h : MapIt w r it l rest) : it < w.heap.size := by
  obtain ⟨es, clock, since, seen, c0, h1, h2, h3, h4, _⟩ := h
  exact (Array.getElem?_eq_some_iff.1 h4).1

theorem MapIt.ne {w : World} {r it : Nat} {l rest : List ((Int × Int) × Value)} (h : MapIt w r it l rest) : it ≠ r := by
  obtain ⟨es, clock, since, seen, c0, h1, h2, h3, h4, _⟩ := h
  intro e
  rw [e, h1] at h4
  cases h4

theorem MapIt.walk {w : World} {r it : Nat} {l rest : List ((Int × Int) × Value)} (h : MapIt w r it l rest) : ∃ o : Obj, w.heap[it]? = some o ∧ o.isWalk = true := by
  obtain ⟨es, clock, since, seen, c0, h1, h2, h3, h4, _⟩ := h
  exact ⟨_, h4, rfl⟩

theorem MapIt.block {w w' : World} {r it : Nat} {l rest : List ((Int × Int) × Value)} (h : MapIt w r it l rest) (hb : w'.heap[r]? = w.heap[r]?) (hi : w'.heap[it]? = w.heap[it]?) : MapIt w' r it l rest := by
  obtain ⟨es, clock, since, seen, c0, h1, h2, h3, h4, h5⟩ := h
  exact ⟨es, clock, since, seen, c0, hb.trans h1, h2, h3, hi.trans h4, h5⟩

theorem MapIt.kept {w w' : World} {row : Option Nat} {r it : Nat} {l rest : List ((Int × Int) × Value)} (h : MapIt w r it l rest) (hg : w.grownBy w' row) (h1 : some r ≠ row) (h2 : some it ≠ row) : MapIt w' r it l rest :=
  h.block (hg.block r h.map.lt h1) (hg.block it h.lt h2)

/-- 'range m'. -/
theorem MapSV.range {w : World} {r : Nat} {l : List ((Int × Int) × Value)} (h : MapSV w r l) (t et : TypeId) (ht : Tryz.prog.underlying t = some (.map 36 et)) :
    ∃ w', (Instr.range t (.map (some r))).run Tryz.prog w = .ok (.pointer (some ⟨w.heap.size, 0, none⟩)) w' ∧ MapIt w' r w.heap.size l l ∧ w.grownBy w' none ∧ w'.heap.size = w.heap.size + 1 := by
  have hlt := h.lt
  obtain ⟨es, clock, h1, h2, h3, h4⟩ := h
  refine ⟨_, run_range_map w t 36 et r es clock ht h1, ⟨es, clock, clock, #[], clock, ((MapKept.heap_alloc w _).2 r hlt).trans h1, h2, ⟨h3, h4⟩, (MapKept.heap_alloc w _).1, h3, Nat.le_refl _, Nat.le_refl _, ?_⟩, World.grownBy_alloc w _ none, by simp⟩
  rw [← h2]
  unfold leftOf
  rw [Array.toList_filter, List.filter_eq_self.2 (fun _ _ => by simp)]

/-- Of entries whose stamps are their own the one that came is struck. -/
theorem left_next (f : MapEntry → Value × Value) (e : MapEntry) : ∀ (L : List MapEntry) (rest : List ((Int × Int) × Value)), e ∈ L → (L.map (·.born)).Nodup → L.map f = rest.map (fun p => (keyV p.1, p.2)) →
    ∃ p rest', f e = (keyV p.1, p.2) ∧ rest.Perm (p :: rest') ∧ (L.filter (fun x => !(x.born == e.born))).map f = rest'.map (fun p => (keyV p.1, p.2)) := by
  intro L
  induction L with
  | nil => intro rest he; exact absurd he (List.not_mem_nil)
  | cons x L ih =>
    intro rest he hn hr
    cases rest with
    | nil => simp at hr
    | cons q rest =>
      simp only [List.map_cons, List.cons.injEq] at hr
      rw [List.map_cons, List.nodup_cons] at hn
      obtain ⟨hr1, hr2⟩ := hr
      rcases List.mem_cons.1 he with rfl | he
      · refine ⟨q, rest, hr1, List.Perm.refl _, ?_⟩
        have : L.filter (fun x => !(x.born == e.born)) = L := List.filter_eq_self.2 (fun y hy => by
          have : y.born ≠ e.born := fun h => hn.1 (List.mem_map.2 ⟨y, hy, h⟩)
          simpa using this)
        rw [List.filter_cons]
        simp only [beq_self_eq_true, Bool.not_true, Bool.false_eq_true, if_false]
        rw [this]; exact hr2
      · obtain ⟨p, rest', h1, h2, h3⟩ := ih rest he hn.2 hr2
        refine ⟨p, q :: rest', h1, ?_, ?_⟩
        · exact (List.Perm.cons q h2).trans (List.Perm.swap p q rest')
        · have hne : x.born ≠ e.born := fun h => hn.1 (List.mem_map.2 ⟨e, he, h.symm⟩)
          rw [List.filter_cons, if_pos (by simpa using hne), List.map_cons, List.map_cons, h3, hr1]

/-- The step. -/
theorem MapIt.next {w : World} {r it : Nat} {l rest : List ((Int × Int) × Value)} (h : MapIt w r it l rest) (ty : TypeId) :
    (rest = [] ∧ (Instr.next (.pointer (some ⟨it, 0, none⟩)) false ty).run Tryz.prog w = .ok (.tuple #[.bool false]) w) ∨
    ∃ p rest' w', rest.Perm (p :: rest') ∧ (Instr.next (.pointer (some ⟨it, 0, none⟩)) false ty).run Tryz.prog w = .ok (.tuple #[.bool true, keyV p.1, p.2]) w' ∧ MapIt w' r it l rest' ∧ w.grownBy w' (some it) ∧ w'.heap.size = w.heap.size ∧
      (Instr.entry (.pointer (some ⟨it, 0, none⟩))).run Tryz.prog w' = .ok (.tuple #[keyV p.1, p.2]) w' := by
  have hne := h.ne
  obtain ⟨es, clock, since, seen, c0, h1, h2, ⟨h3, h3'⟩, h4, h5, h6, h7, h8⟩ := h
  rcases run_next_at (P := Tryz.prog) w ty it r since c0 seen es clock h4 h1 h5 h6 with ⟨h0, hrun⟩ | ⟨e, he, w1, hal, hrun⟩
  · refine .inl ⟨?_, hrun⟩
    have := congrArg List.length h8
    rw [List.length_map, List.length_map, Array.length_toList, h0] at this
    exact List.length_eq_zero_iff.1 this.symm
  · have hsub : (leftOf es seen).toList.Sublist es.toList := by unfold leftOf; rw [Array.toList_filter]; exact List.filter_sublist
    obtain ⟨p, rest', k1, k2, k3⟩ := left_next (fun e => (e.key, e.val)) e (leftOf es seen).toList rest he ((hsub.map _).nodup h3') h8
    have hk1 : e.key = keyV p.1 := congrArg Prod.fst k1
    have hk2 : e.val = p.2 := congrArg Prod.snd k1
    have hr1 : w1.heap[it]? = some (.mapIter (some r) since seen c0) := by rcases hal with rfl | rfl <;> exact h4
    have hb1 : w1.heap[r]? = some (.map es clock) := by rcases hal with rfl | rfl <;> exact h1
    have hset := MapKept.heap_set (o' := .mapIter (some r) since (seen.push e.born) clock) hr1
    have hb' : (Go.ChangeMaps.setBlock w1 it (.mapIter (some r) since (seen.push e.born) clock)).heap[r]? = some (.map es clock) := (hset.2 r (fun e1 => hne e1.symm)).trans hb1
    refine .inr ⟨p, rest', _, k2, by rw [hrun, hk1, hk2], ⟨es, clock, since, seen.push e.born, clock, hb', h2, ⟨h3, h3'⟩, hset.1, h5, h7, h7, ?_⟩, ?_, ?_, ?_⟩
    · rw [← k3]
      congr 1
      unfold leftOf
      rw [Array.toList_filter, Array.toList_filter, List.filter_filter]
      refine List.filter_congr (fun x _ => ?_)
      rw [contains_push]
      cases seen.contains x.born <;> cases (x.born == e.born) <;> rfl
    · rcases hal with rfl | rfl <;> exact ⟨rfl, rfl, rfl, by simp [Go.ChangeMaps.setBlock], fun i _ hi => hset.2 i (fun e1 => hi (by rw [e1]))⟩
    · rcases hal with rfl | rfl <;> simp [Go.ChangeMaps.setBlock]
    · have := run_entry_at (P := Tryz.prog) _ it r since seen es clock e hset.1 hb' (hsub.subset he) h3'
      rw [this, hk1, hk2]

end Go.Proofs.YtebnmghjdoblaaaGreatDoor

/- Maps of nodes by their numbers: looked up, put, cleared, ranged over. -/
namespace Go.Proofs.YtebnmghjdoblaaaGreatDoor
open Go.RowKit
set_option linter.unusedSimpArgs false

end Go.Proofs.YtebnmghjdoblaaaGreatDoor
