/- Layer 11 on plain data: the order in which operations come does not matter; nor when what is for good is so. -/
import Derived.Test.YtaomhhooipfjbaaDoorTrA
namespace Go.Proofs.YtaomhhooipfjbaaDoor
open Go.RowKit
set_option linter.unusedSimpArgs false

/-- Operations by rising stamps. -/
def SortO (l : List OpT) : Prop := l.Pairwise (fun a b => LessS a.2.1 b.2.1)

theorem putO_cons (o x : OpT) (l : List OpT) : putO o (x :: l) = if LessS o.2.1 x.2.1 then o :: x :: l else x :: putO o l := by
  unfold putO
  rw [posO_cons]
  by_cases h : LessS o.2.1 x.2.1
  · rw [if_pos h, if_pos h]; rfl
  · rw [if_neg h, if_neg h]; rfl

theorem putO_mem (o : OpT) (l : List OpT) (y : OpT) : y ∈ putO o l ↔ y = o ∨ y ∈ l := by
  induction l with
  | nil => simp [putO, posO]
  | cons x l ih =>
    rw [putO_cons]
    by_cases h : LessS o.2.1 x.2.1
    · rw [if_pos h, List.mem_cons]
    · rw [if_neg h, List.mem_cons, ih, List.mem_cons]
      constructor
      · rintro (h | h | h)
        · exact .inr (.inl h)
        · exact .inl h
        · exact .inr (.inr h)
      · rintro (h | h | h)
        · exact .inr (.inl h)
        · exact .inl h
        · exact .inr (.inr h)

theorem putO_sort (o : OpT) (l : List OpT) (h : SortO l) (hd : dupO o.2.1 l = false) : SortO (putO o l) := by
  induction l with
  | nil => exact List.pairwise_singleton _ _
  | cons x l ih =>
    unfold SortO at h
    rw [List.pairwise_cons] at h
    rw [dupO_cons, Bool.or_eq_false_iff] at hd
    have hne : x.2.1 ≠ o.2.1 := by simpa using hd.1
    rw [putO_cons]
    by_cases hl : LessS o.2.1 x.2.1
    · rw [if_pos hl]
      unfold SortO
      rw [List.pairwise_cons]
      refine ⟨fun y hy => ?_, List.pairwise_cons.2 h⟩
      rcases List.mem_cons.1 hy with rfl | hy
      · exact hl
      · exact lessS_trans _ _ _ hl (h.1 y hy)
    · rw [if_neg hl]
      unfold SortO
      rw [List.pairwise_cons]
      refine ⟨fun y hy => ?_, ih h.2 hd.2⟩
      rcases (putO_mem o l y).1 hy with rfl | hy
      · exact lessS_or _ _ hl (fun e => hne e.symm)
      · exact h.1 y hy

theorem dupO_iff (s : Int × Int) (l : List OpT) : dupO s l = true ↔ ∃ x ∈ l, x.2.1 = s := by
  unfold dupO
  rw [List.any_eq_true]
  simp

/-- Two sorted lists with the same members are one. -/
theorem sortO_ext {l m : List OpT} (hl : SortO l) (hm : SortO m) (h : ∀ x, x ∈ l ↔ x ∈ m) : l = m := by
  induction l generalizing m with
  | nil =>
    cases m with
    | nil => rfl
    | cons y m => exact absurd ((h y).2 (List.mem_cons_self ..)) (by simp)
  | cons x l ih =>
    cases m with
    | nil => exact absurd ((h x).1 (List.mem_cons_self ..)) (by simp)
    | cons y m =>
      unfold SortO at hl hm
      rw [List.pairwise_cons] at hl hm
      have e : x = y := by
        rcases List.mem_cons.1 ((h x).1 (List.mem_cons_self ..)) with e | hx
        · exact e
        · rcases List.mem_cons.1 ((h y).2 (List.mem_cons_self ..)) with e | hy
          · exact e.symm
          · exact absurd (hl.1 y hy) (lessS_not _ _ (hm.1 x hx))
      subst e
      congr 1
      refine ih hl.2 hm.2 (fun z => ⟨fun hz => ?_, fun hz => ?_⟩)
      · rcases List.mem_cons.1 ((h z).1 (List.mem_cons_of_mem _ hz)) with e | h
        · subst e; exact absurd (hl.1 z hz) (lessS_self _)
        · exact h
      · rcases List.mem_cons.1 ((h z).2 (List.mem_cons_of_mem _ hz)) with e | h
        · subst e; exact absurd (hm.1 z hz) (lessS_self _)
        · exact h

/-- A tree behind operations that come one behind the other. -/
def playP (M : OpT → Bool) (t : TreeT) (l : List OpT) : TreeT := l.foldl (fun t o => (applyP M t o).1) t

theorem playP_snoc (M : OpT → Bool) (t : TreeT) (l : List OpT) (o : OpT) : playP M t (l ++ [o]) = (applyP M (playP M t l) o).1 := by
  unfold playP; rw [List.foldl_append]; rfl

/-- With fewer than 512 operations nothing is full: what an operation that comes does. -/
theorem applyP_few (M : OpT → Bool) (t : TreeT) (o : OpT) (h : t.1.length + t.2.1.length < 512) :
    applyP M t o = if M o = false ∨ ¬ LessS t.2.2 o.2.1 then (t, 1) else if dupO o.2.1 t.2.1 = true then (t, 0) else ((t.1, putO o t.2.1, t.2.2), 0) := by
  unfold applyP
  have hc := creO_le t.2.1
  by_cases h1 : M o = false ∨ ¬ LessS t.2.2 o.2.1
  · rw [if_pos h1, if_pos h1]
  · rw [if_neg h1, if_neg h1]
    by_cases h2 : dupO o.2.1 t.2.1 = true
    · rw [if_pos h2, if_pos h2]
    · rw [if_neg h2, if_neg h2, if_neg (by omega)]

/-- What stands in a tree that began empty: sorted, each one of those that came, and may be. -/
structure Stands (M : OpT → Bool) (fx : List NodeT) (s : Int × Int) (l : List OpT) (t : TreeT) : Prop where
  fx : t.1 = fx
  base : t.2.2 = s
  sort : SortO t.2.1
  mem : ∀ x ∈ t.2.1, x ∈ l ∧ M x = true ∧ LessS s x.2.1
  all : ∀ x ∈ l, M x = true → LessS s x.2.1 → ∃ y ∈ t.2.1, y.2.1 = x.2.1
  len : t.2.1.length ≤ l.length

theorem stands_nil (M : OpT → Bool) (fx : List NodeT) (s : Int × Int) : Stands M fx s [] (fx, [], s) :=
  ⟨rfl, rfl, List.Pairwise.nil, fun _ hx => absurd hx (List.not_mem_nil), fun _ hx => absurd hx (List.not_mem_nil), Nat.le_refl _⟩

theorem stands_more {M : OpT → Bool} {fx : List NodeT} {s : Int × Int} {l : List OpT} {t : TreeT} (h : Stands M fx s l t) (o : OpT) (hn : fx.length + l.length < 512) : Stands M fx s (l ++ [o]) (applyP M t o).1 := by
  rw [applyP_few M t o (by have a := h.len; rw [h.fx]; omega)]
  have hsame : (M o = false ∨ ¬ LessS s o.2.1 ∨ dupO o.2.1 t.2.1 = true) → Stands M fx s (l ++ [o]) t := fun hh =>
    ⟨h.fx, h.base, h.sort, fun x hx => ⟨List.mem_append_left _ (h.mem x hx).1, (h.mem x hx).2⟩, fun x hx h1 h2 => by
      rcases List.mem_append.1 hx with hx | hx
      · exact h.all x hx h1 h2
      · rw [List.mem_singleton] at hx
        subst hx
        rcases hh with hh | hh | hh
        · rw [h1] at hh; cases hh
        · exact absurd h2 hh
        · obtain ⟨y, hy, e⟩ := (dupO_iff _ _).1 hh
          exact ⟨y, hy, e⟩, by have := h.len; rw [List.length_append]; omega⟩
  rw [h.base]
  by_cases h1 : M o = false ∨ ¬ LessS s o.2.1
  · rw [if_pos h1]
    exact hsame (h1.elim .inl (fun h => .inr (.inl h)))
  · rw [if_neg h1]
    by_cases h2 : dupO o.2.1 t.2.1 = true
    · rw [if_pos h2]; exact hsame (.inr (.inr h2))
    · rw [if_neg h2]
      have hM : M o = true := by
        cases e : M o with
        | true => rfl
        | false => exact absurd (.inl e) h1
      have hL : LessS s o.2.1 := by
        by_cases e : LessS s o.2.1
        · exact e
        · exact absurd (.inr e) h1
      refine ⟨h.fx, rfl, putO_sort o _ h.sort (by simpa using h2), fun x hx => ?_, fun x hx h3 h4 => ?_, ?_⟩
      · rcases (putO_mem o _ x).1 hx with rfl | hx
        · exact ⟨List.mem_append_right _ (List.mem_singleton.2 rfl), hM, hL⟩
        · exact ⟨List.mem_append_left _ (h.mem x hx).1, (h.mem x hx).2⟩
      · rcases List.mem_append.1 hx with hx | hx
        · obtain ⟨y, hy, e⟩ := h.all x hx h3 h4
          exact ⟨y, (putO_mem o _ y).2 (.inr hy), e⟩
        · rw [List.mem_singleton] at hx
          subst hx
          exact ⟨x, (putO_mem x _ x).2 (.inl rfl), rfl⟩
      · have a := h.len
        have hp : (putO o t.2.1).length = t.2.1.length + 1 := by
          unfold putO
          have := posO_le o.2.1 t.2.1
          rw [List.length_append, List.length_cons, List.length_take, List.length_drop]
          omega
        show (putO o t.2.1).length ≤ _
        rw [hp, List.length_append]
        show _ ≤ l.length + 1
        omega

theorem stands_go {M : OpT → Bool} {fx : List NodeT} {s : Int × Int} (l : List OpT) : ∀ (d : List OpT) (t : TreeT), Stands M fx s d t → fx.length + (d ++ l).length ≤ 512 → Stands M fx s (d ++ l) (playP M t l) := by
  induction l with
  | nil => intro d t h _; rw [List.append_nil]; exact h
  | cons o l ih =>
    intro d t h hn
    rw [List.length_append, List.length_cons] at hn
    have h1 := stands_more h o (by omega)
    have h2 := ih (d ++ [o]) _ h1 (by rw [List.length_append, List.length_append]; show _ + (_ + 1 + _) ≤ _; omega)
    rw [List.append_assoc] at h2
    exact h2

theorem stands_play (M : OpT → Bool) (fx : List NodeT) (s : Int × Int) (l : List OpT) (hn : fx.length + l.length ≤ 512) : Stands M fx s l (playP M (fx, [], s) l) := by
  have := stands_go l [] (fx, [], s) (stands_nil M fx s) (by simpa using hn)
  simpa using this

/-- THE ORDER IN WHICH OPERATIONS COME DOES NOT MATTER, if no two with one stamp differ. -/
theorem play_order {M : OpT → Bool} {fx : List NodeT} {s : Int × Int} {l m : List OpT} {t u : TreeT} (ht : Stands M fx s l t) (hu : Stands M fx s m u) (hlm : ∀ x, x ∈ l ↔ x ∈ m) (hone : ∀ x ∈ l, ∀ y ∈ l, x.2.1 = y.2.1 → x = y) : t = u := by
  have key : ∀ x, x ∈ t.2.1 ↔ x ∈ u.2.1 := fun x => by
    constructor
    · intro hx
      obtain ⟨h1, h2, h3⟩ := ht.mem x hx
      obtain ⟨y, hy, e⟩ := hu.all x ((hlm x).1 h1) h2 h3
      have := hone y ((hlm y).2 (hu.mem y hy).1) x h1 e
      rw [← this]; exact hy
    · intro hx
      obtain ⟨h1, h2, h3⟩ := hu.mem x hx
      obtain ⟨y, hy, e⟩ := ht.all x ((hlm x).2 h1) h2 h3
      have := hone y (ht.mem y hy).1 x ((hlm x).2 h1) e
      rw [← this]; exact hy
  have e := sortO_ext ht.sort hu.sort key
  obtain ⟨a, b, c⟩ := t
  obtain ⟨a', b', c'⟩ := u
  have h1 : a = fx := ht.fx
  have h2 : a' = fx := hu.fx
  have h3 : c = s := ht.base
  have h4 : c' = s := hu.base
  have e' : b = b' := e
  rw [h1, h2, h3, h4, e']

end Go.Proofs.YtaomhhooipfjbaaDoor
