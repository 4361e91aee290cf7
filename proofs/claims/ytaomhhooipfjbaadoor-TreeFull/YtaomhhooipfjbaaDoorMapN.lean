/- Maps of nodes by their numbers: looked up, put, cleared, ranged over. -/
import Derived.Test.YtaomhhooipfjbaaDoorMapSV
import Derived.Test.YtaomhhooipfjbaaDoorTrP
namespace Go.Proofs.YtaomhhooipfjbaaDoor
open Go.RowKit
set_option linter.unusedSimpArgs false

theorem putM_cons (p : (Int × Int) × Value) (l : List ((Int × Int) × Value)) (k : Int × Int) (v : Value) : putM (p :: l) k v = if k = p.1 then (k, v) :: l else p :: putM l k v := by
  have up : ∀ (l : List ((Int × Int) × Value)) (i : Nat), findM k l (i + 1) = (findM k l i).map (fun q => (q.1 + 1, q.2)) := by
    intro l
    induction l with
    | nil => intro i; rfl
    | cons q l ih =>
      intro i
      unfold findM
      by_cases e : k = q.1
      · rw [if_pos e, if_pos e]; rfl
      · rw [if_neg e, if_neg e, ih]
  unfold putM
  by_cases e : k = p.1
  · rw [if_pos e, show findM k (p :: l) 0 = some (0, p.2) by unfold findM; rw [if_pos e]]
    rfl
  · rw [if_neg e, show findM k (p :: l) 0 = findM k l 1 by show (if _ then _ else _) = _; rw [if_neg e], up l 0]
    cases findM k l 0 with
    | none => rfl
    | some q => rfl

theorem filter_none {l : List ((Int × Int) × Value)} {k : Int × Int} (h : k ∉ l.map (·.1)) : l.filter (fun z => decide (z.1 ≠ k)) = l :=
  List.filter_eq_self.2 (fun z hz => by
    have : z.1 ≠ k := fun e => h (List.mem_map.2 ⟨z, hz, e⟩)
    simpa using this)

theorem putM_perm (k : Int × Int) (v : Value) : ∀ l : List ((Int × Int) × Value), (l.map (·.1)).Nodup → (putM l k v).Perm ((k, v) :: l.filter (fun z => decide (z.1 ≠ k))) := by
  intro l
  induction l with
  | nil => intro _; exact List.Perm.refl _
  | cons p l ih =>
    intro h
    rw [List.map_cons, List.nodup_cons] at h
    rw [putM_cons]
    by_cases e : k = p.1
    · rw [if_pos e, List.filter_cons, if_neg (by simp [e]), filter_none (by rw [e]; exact h.1)]
    · rw [if_neg e, List.filter_cons, if_pos (by simpa using fun e2 => e e2.symm)]
      exact (List.Perm.cons p (ih h.2)).trans (List.Perm.swap (k, v) p _)

theorem withR_perm (n : NodeT) : ∀ l : List NodeT, (withR n l).Perm (n :: l.filter (fun z => decide (z.1 ≠ n.1))) := by
  intro l
  induction l with
  | nil => exact List.Perm.refl _
  | cons y l ih =>
    rw [show withR n (y :: l) = if LessS y.1 n.1 then y :: withR n l else n :: (y :: l).filter (fun z => decide (z.1 ≠ n.1)) from rfl]
    by_cases hl : LessS y.1 n.1
    · have hne : y.1 ≠ n.1 := fun e => by rw [e] at hl; exact lessS_self _ hl
      rw [if_pos hl, List.filter_cons, if_pos (by simpa using hne)]
      exact (List.Perm.cons y ih).trans (List.Perm.swap n y _)
    · rw [if_neg hl]

theorem lookM_mem : ∀ (l : List ((Int × Int) × Value)), (l.map (·.1)).Nodup → ∀ k v, lookM l k = some v ↔ (k, v) ∈ l := by
  intro l
  have gen : ∀ (l : List ((Int × Int) × Value)) (i : Nat), (l.map (·.1)).Nodup → ∀ k v, (findM k l i).map (·.2) = some v ↔ (k, v) ∈ l := by
    intro l
    induction l with
    | nil => intro i _ k v; exact ⟨fun h => (by cases h), fun h => absurd h List.not_mem_nil⟩
    | cons p l ih =>
      intro i hn k v
      rw [List.map_cons, List.nodup_cons] at hn
      unfold findM
      by_cases e : k = p.1
      · rw [if_pos e]
        constructor
        · intro h
          simp at h
          rw [e, ← h]; exact List.mem_cons_self ..
        · intro h
          rcases List.mem_cons.1 h with h | h
          · rw [← h]; rfl
          · exact absurd (List.mem_map.2 ⟨(k, v), h, e⟩) hn.1
      · rw [if_neg e, ih (i + 1) hn.2 k v]
        constructor
        · exact fun h => List.mem_cons_of_mem _ h
        · intro h
          rcases List.mem_cons.1 h with h | h
          · exact absurd (by rw [← h]) e
          · exact h
  exact gen l 0

/-- A node as an entry. -/
def nodeV (n : NodeT) : Value := .agg (nodeA n)

def entN (n : NodeT) : (Int × Int) × Value := (n.1, nodeV n)

theorem nodeV_inj {a b : NodeT} (h : nodeV a = nodeV b) : a = b := by
  obtain ⟨⟨a1, a2⟩, ⟨a3, a4⟩, a5, a6⟩ := a
  obtain ⟨⟨b1, b2⟩, ⟨b3, b4⟩, b5, b6⟩ := b
  simp [nodeV, nodeA] at h
  obtain ⟨rfl, rfl, rfl, rfl, rfl, rfl⟩ := h
  rfl

/-- Block r is a map of nodes. -/
def MapN (w : World) (r : Nat) (ns : List NodeT) : Prop := SortN ns ∧ ∃ l, MapSV w r l ∧ l.Perm (ns.map entN)

theorem sortN_nodup {ns : List NodeT} (h : SortN ns) : ((ns.map entN).map (·.1)).Nodup := by
  rw [List.map_map]
  show (ns.map (fun n => n.1)).Nodup
  unfold SortN at h
  rw [List.nodup_iff_pairwise_ne, List.pairwise_map]
  exact h.imp (fun hl e => by rw [e] at hl; exact lessS_self _ hl)

theorem MapN.sort {w : World} {r : Nat} {ns : List NodeT} (h : MapN w r ns) : SortN ns := h.1

theorem MapN.lt {w : World} {r : Nat} {ns : List NodeT} (h : MapN w r ns) : r < w.heap.size := by
  obtain ⟨_, l, h1, _⟩ := h
  exact h1.lt

theorem MapN.block {w w' : World} {r : Nat} {ns : List NodeT} (h : MapN w r ns) (hb : w'.heap[r]? = w.heap[r]?) : MapN w' r ns := by
  obtain ⟨h0, l, h1, h2⟩ := h
  exact ⟨h0, l, h1.block hb, h2⟩

theorem MapN.made (w : World) : MapN (w.alloc (.map #[] 0)) w.heap.size [] := ⟨List.Pairwise.nil, [], MapSV.made w, List.Perm.refl _⟩

theorem look_entries {ns : List NodeT} (hs : SortN ns) {l : List ((Int × Int) × Value)} (hp : l.Perm (ns.map entN)) (k : Int × Int) : lookM l k = (look ns k).map nodeV := by
  have hn : (l.map (·.1)).Nodup := (hp.map (·.1)).nodup_iff.2 (sortN_nodup hs)
  cases h : look ns k with
  | none =>
    cases hl : lookM l k with
    | none => rfl
    | some v =>
      have := (lookM_mem l hn k v).1 hl
      obtain ⟨n, h1, h2⟩ := List.mem_map.1 (hp.subset this)
      exact absurd (congrArg Prod.fst h2) (look_none.1 h n h1)
  | some n =>
    obtain ⟨h1, h2⟩ := look_mem h
    refine (lookM_mem l hn k (nodeV n)).2 (hp.symm.subset (List.mem_map.2 ⟨n, h1, ?_⟩))
    show (n.1, nodeV n) = _
    rw [h2]

/-- An empty node. -/
def node0 : NodeT := ((0, 0), (0, 0), ⟨#[]⟩, ⟨#[]⟩)

theorem MapN.look {w : World} {r : Nat} {ns : List NodeT} (h : MapN w r ns) (k : Int × Int) (ok : Bool) :
    (Instr.lookup 50 (.map (some r)) (keyV k) ok).run Tryd.prog w = .ok (if ok then .tuple #[nodeV ((YtaomhhooipfjbaaDoor.look ns k).getD node0), .bool (YtaomhhooipfjbaaDoor.look ns k).isSome] else nodeV ((YtaomhhooipfjbaaDoor.look ns k).getD node0)) w := by
  obtain ⟨hs, l, h1, h2⟩ := h
  rw [h1.look 50 40 (by first | exact Tryd.underlying50 | kernel_rfl) (nodeV node0) (by intro w; first | exact Tryd.zeroValue40 w | kernel_rfl) k ok, look_entries hs h2]
  cases YtaomhhooipfjbaaDoor.look ns k <;> rfl

theorem MapN.put {w : World} {r : Nat} {ns : List NodeT} (h : MapN w r ns) (n : NodeT) :
    ∃ w', (Instr.mapUpdate 50 (.map (some r)) (keyV n.1) (nodeV n)).run Tryd.prog w = .ok () w' ∧ MapN w' r (withR n ns) ∧ w.grownBy w' (some r) := by
  obtain ⟨hs, l, h1, h2⟩ := h
  obtain ⟨w', k1, k2, k3⟩ := h1.put 50 40 (by first | exact Tryd.underlying50 | kernel_rfl) n.1 (nodeV n)
  have hn : (l.map (·.1)).Nodup := (h2.map (·.1)).nodup_iff.2 (sortN_nodup hs)
  refine ⟨w', k1, ⟨withR_sort n ns hs, _, k2, ?_⟩, k3⟩
  refine (putM_perm n.1 (nodeV n) l hn).trans (.trans ?_ ((withR_perm n ns).map entN).symm)
  rw [List.map_cons]
  refine List.Perm.cons _ ?_
  have := h2.filter (fun z => decide (z.1 ≠ n.1))
  rw [List.filter_map] at this
  exact this

theorem MapN.clear {w : World} {r : Nat} {ns : List NodeT} (h : MapN w r ns) (ty : TypeId) :
    ∃ w', (Builtin.clear_ #[50] ty #[.map (some r)]).run Tryd.prog w = .ok (.tuple #[]) w' ∧ MapN w' r [] ∧ w.grownBy w' (some r) := by
  obtain ⟨hs, l, h1, h2⟩ := h
  obtain ⟨w', k1, k2, k3⟩ := h1.clear 50 ty 40 (by first | exact Tryd.underlying50 | kernel_rfl)
  exact ⟨w', k1, ⟨List.Pairwise.nil, [], k2, List.Perm.refl _⟩, k3⟩

theorem MapN.len {w : World} {r : Nat} {ns : List NodeT} (h : MapN w r ns) : ∃ es clock, w.heap[r]? = some (.map es clock) ∧ es.size = ns.length := by
  obtain ⟨hs, l, h1, h2⟩ := h
  obtain ⟨es, clock, k1, k2⟩ := h1.len
  refine ⟨es, clock, k1, ?_⟩
  have := h2.length_eq
  rw [List.length_map] at this
  omega

/-- Ranged over: what is still to come. -/
def MapR (w : World) (r it : Nat) (ns rest : List NodeT) : Prop := SortN ns ∧ ∃ l, l.Perm (ns.map entN) ∧ ∃ rl, MapIt w r it l rl ∧ rl = rest.map entN

theorem MapR.map {w : World} {r it : Nat} {ns rest : List NodeT} (h : MapR w r it ns rest) : MapN w r ns := by
  obtain ⟨h0, l, h1, rl, h2, _⟩ := h
  exact ⟨h0, l, h2.map, h1⟩

theorem MapR.lt {w : World} {r it : Nat} {ns rest : List NodeT} (h : MapR w r it ns rest) : it < w.heap.size := by
  obtain ⟨h0, l, h1, rl, h2, _⟩ := h
  exact h2.lt

theorem MapR.ne {w : World} {r it : Nat} {ns rest : List NodeT} (h : MapR w r it ns rest) : it ≠ r := by
  obtain ⟨h0, l, h1, rl, h2, _⟩ := h
  exact h2.ne

theorem MapR.walk {w : World} {r it : Nat} {ns rest : List NodeT} (h : MapR w r it ns rest) : ∃ o : Obj, w.heap[it]? = some o ∧ o.isWalk = true := by
  obtain ⟨h0, l, h1, rl, h2, _⟩ := h
  exact h2.walk

theorem MapR.block {w w' : World} {r it : Nat} {ns rest : List NodeT} (h : MapR w r it ns rest) (hb : w'.heap[r]? = w.heap[r]?) (hi : w'.heap[it]? = w.heap[it]?) : MapR w' r it ns rest := by
  obtain ⟨h0, l, h1, rl, h2, h3⟩ := h
  exact ⟨h0, l, h1, rl, h2.block hb hi, h3⟩

theorem MapN.range {w : World} {r : Nat} {ns : List NodeT} (h : MapN w r ns) :
    ∃ w' all, (Instr.range 50 (.map (some r))).run Tryd.prog w = .ok (.pointer (some ⟨w.heap.size, 0, none⟩)) w' ∧ all.Perm ns ∧ MapR w' r w.heap.size ns all ∧ w.grownBy w' none ∧ w'.heap.size = w.heap.size + 1 := by
  obtain ⟨hs, l, h1, h2⟩ := h
  obtain ⟨w', k1, k2, k3, k4⟩ := h1.range 50 40 (by first | exact Tryd.underlying50 | kernel_rfl)
  have key : ∀ (l : List ((Int × Int) × Value)) (ns : List NodeT), l.Perm (ns.map entN) → ∃ all : List NodeT, l = all.map entN := by
    intro l ns hp
    have hm : ∀ q ∈ l, ∃ n, entN n = q := fun q hq => by
      obtain ⟨n, _, e⟩ := List.mem_map.1 (hp.subset hq)
      exact ⟨n, e⟩
    clear hp
    induction l with
    | nil => exact ⟨[], rfl⟩
    | cons q l ih =>
      obtain ⟨all, e⟩ := ih (fun q hq => hm q (List.mem_cons_of_mem _ hq))
      obtain ⟨n, e2⟩ := hm q (List.mem_cons_self ..)
      exact ⟨n :: all, by rw [List.map_cons, e, e2]⟩
  obtain ⟨all, rfl⟩ := key l ns h2
  refine ⟨w', all, k1, ?_, ⟨hs, _, h2, _, k2, rfl⟩, k3, k4⟩
  have inj : ∀ (a b : List NodeT), (a.map entN).Perm (b.map entN) → a.Perm b := by
    intro a b hp
    have hg : ∀ n : NodeT, ∃ g : (Int × Int) × Value → NodeT, True := fun n => ⟨fun _ => n, trivial⟩
    obtain ⟨g, hgl⟩ : ∃ g : (Int × Int) × Value → NodeT, ∀ n, g (entN n) = n := by
      refine ⟨fun q => match q.2 with | .agg #[.int _ a, .int _ b, .int _ c, .int _ d, .string s, .string t] => ((a, b), (c, d), s, t) | _ => node0, fun n => ?_⟩
      obtain ⟨⟨a1, a2⟩, ⟨a3, a4⟩, a5, a6⟩ := n
      rfl
    have := hp.map g
    rw [List.map_map, List.map_map] at this
    have e : (g ∘ entN) = id := funext hgl
    rw [e, List.map_id, List.map_id] at this
    exact this
  exact inj _ _ h2

theorem MapR.next {w : World} {r it : Nat} {ns rest : List NodeT} (h : MapR w r it ns rest) (ty : TypeId) :
    (rest = [] ∧ (Instr.next (.pointer (some ⟨it, 0, none⟩)) false ty).run Tryd.prog w = .ok (.tuple #[.bool false]) w) ∨
    ∃ n rest' w', rest.Perm (n :: rest') ∧ (Instr.next (.pointer (some ⟨it, 0, none⟩)) false ty).run Tryd.prog w = .ok (.tuple #[.bool true, keyV n.1, nodeV n]) w' ∧ MapR w' r it ns rest' ∧ w.grownBy w' (some it) ∧ w'.heap.size = w.heap.size ∧
      (Instr.entry (.pointer (some ⟨it, 0, none⟩))).run Tryd.prog w' = .ok (.tuple #[keyV n.1, nodeV n]) w' := by
  obtain ⟨hs, l, h1, rl, h2, rfl⟩ := h
  rcases h2.next ty with ⟨k1, k2⟩ | ⟨p, rest', w', k1, k2, k3, k4, k5, k6⟩
  · exact .inl ⟨List.map_eq_nil_iff.1 k1, k2⟩
  · obtain ⟨n, hn, e⟩ := List.mem_map.1 (k1.symm.subset (List.mem_cons_self ..))
    subst e
    have hm : ∀ q ∈ rest', ∃ n, entN n = q := fun q hq => by
      obtain ⟨n, _, e⟩ := List.mem_map.1 (k1.symm.subset (List.mem_cons_of_mem _ hq))
      exact ⟨n, e⟩
    have key : ∃ all : List NodeT, rest' = all.map entN := by
      clear k1 k3
      induction rest' with
      | nil => exact ⟨[], rfl⟩
      | cons q l ih =>
        obtain ⟨all, e⟩ := ih (fun q hq => hm q (List.mem_cons_of_mem _ hq))
        obtain ⟨n, e2⟩ := hm q (List.mem_cons_self ..)
        exact ⟨n :: all, by rw [List.map_cons, e, e2]⟩
    obtain ⟨all, rfl⟩ := key
    refine .inr ⟨n, all, w', ?_, k2, ⟨hs, l, h1, _, k3, rfl⟩, k4, k5, k6⟩
    obtain ⟨g, hgl⟩ : ∃ g : (Int × Int) × Value → NodeT, ∀ n, g (entN n) = n := by
      refine ⟨fun q => match q.2 with | .agg #[.int _ a, .int _ b, .int _ c, .int _ d, .string s, .string t] => ((a, b), (c, d), s, t) | _ => node0, fun n => ?_⟩
      obtain ⟨⟨a1, a2⟩, ⟨a3, a4⟩, a5, a6⟩ := n
      rfl
    have := k1.map g
    rw [List.map_cons, List.map_map, List.map_map, hgl] at this
    have e : (g ∘ entN) = id := funext hgl
    rw [e, List.map_id, List.map_id] at this
    exact this

end Go.Proofs.YtaomhhooipfjbaaDoor
