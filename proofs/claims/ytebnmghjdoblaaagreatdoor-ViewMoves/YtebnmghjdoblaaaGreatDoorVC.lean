import Derived.Test.YtebnmghjdoblaaaGreatDoorVB
import Derived.Test.YtebnmghjdoblaaaGreatDoorTX
import Derived.Test.YtebnmghjdoblaaaGreatDoorR8b
import Derived.Sort.Walk0
import Derived.Test.YtebnmghjdoblaaaGreatDoorVA
import Derived.Lib.Split
import Derived.Lib.Join
/- The nodes below a stamp, and their lines, on plain data (layer 12). -/
namespace Go.Proofs.YtebnmghjdoblaaaGreatDoor
set_option linter.unusedSimpArgs false

/-- The numbers of a parent's children. -/
def kidS (l : List NodeT) (p : Int × Int) : List (Int × Int) := (kidsP l p l.length).map (fun x => x.1)

/-- The numbers of all that stand below. -/
def idsD (l : List NodeT) : Nat → (Int × Int) → List (Int × Int)
  | 0, _ => []
  | f + 1, p => (kidS l p).flatMap (fun q => q :: idsD l f q)

/-- The lines of all that stand below. -/
def showP (l : List NodeT) : Nat → (Int × Int) → Int → List LineT
  | 0, _, _ => []
  | f + 1, p, d => (childP l p d).flatMap (fun x => x :: showP l f x.2.1 (x.1 + 1))

/-- The ways down end ahead of so many steps. -/
def Low (l : List NodeT) : Nat → (Int × Int) → Prop
  | 0, _ => False
  | f + 1, p => ∀ q ∈ kidS l p, Low l f q

/-- Parents lead there in so many steps. -/
def UpTo (l : List NodeT) (r : Int × Int) : Nat → (Int × Int) → Prop
  | 0, q => q = r
  | k + 1, q => ∃ y ∈ l, y.1 = q ∧ UpTo l r k y.2.1

theorem nL_getE (l : List NodeT) (k : Nat) (h : k < l.length) : nL l k = l[k] := by
  unfold nL
  rw [List.getD_eq_getElem?_getD, List.getElem?_eq_getElem h]
  rfl

theorem kidsP_filter (l : List NodeT) (p : Int × Int) : ∀ k, k ≤ l.length → kidsP l p k = (l.take k).filter (fun x => decide (x.2.1 = p)) := by
  intro k
  induction k with
  | zero => intro _; rfl
  | succ k ih =>
    intro h
    have hk : k < l.length := by omega
    rw [List.take_succ_eq_append_getElem hk, List.filter_append, ← ih (by omega), ← nL_getE l k hk]
    show (if (nL l k).2.1 = p then kidsP l p k ++ [nL l k] else kidsP l p k) = _
    by_cases e : (nL l k).2.1 = p
    · rw [if_pos e, List.filter_cons_of_pos (by simpa using e), List.filter_nil]
    · rw [if_neg e, List.filter_cons_of_neg (by simpa using e), List.filter_nil, List.append_nil]

theorem kids_filter (l : List NodeT) (p : Int × Int) : kidsP l p l.length = l.filter (fun x => decide (x.2.1 = p)) := by
  rw [kidsP_filter l p l.length (Nat.le_refl _), List.take_length]

theorem kidS_mem {l : List NodeT} {p q : Int × Int} : q ∈ kidS l p ↔ ∃ y ∈ l, y.1 = q ∧ y.2.1 = p := by
  unfold kidS
  rw [kids_filter, List.mem_map]
  constructor
  · rintro ⟨y, h, e⟩
    rw [List.mem_filter] at h
    exact ⟨y, h.1, e, of_decide_eq_true h.2⟩
  · rintro ⟨y, h, e, e2⟩
    exact ⟨y, List.mem_filter.2 ⟨h, decide_eq_true e2⟩, e⟩

theorem kidS_nodup {l : List NodeT} (hn : (l.map (fun x => x.1)).Nodup) (p : Int × Int) : (kidS l p).Nodup := by
  unfold kidS
  rw [kids_filter]
  exact List.Nodup.sublist (List.Sublist.map _ List.filter_sublist) hn

theorem ids_inj {l : List NodeT} (hn : (l.map (fun x => x.1)).Nodup) : ∀ x ∈ l, ∀ y ∈ l, x.1 = y.1 → x = y := by
  induction l with
  | nil => intro x h; exact absurd h List.not_mem_nil
  | cons z l ih =>
    rw [List.map_cons, List.nodup_cons] at hn
    intro x hx y hy e
    rcases List.mem_cons.1 hx with h1 | h1
    · rcases List.mem_cons.1 hy with h2 | h2
      · rw [h1, h2]
      · rw [h1] at e
        exact absurd (List.mem_map.2 ⟨y, h2, e.symm⟩) hn.1
    · rcases List.mem_cons.1 hy with h2 | h2
      · rw [h2] at e
        exact absurd (List.mem_map.2 ⟨x, h1, e⟩) hn.1
      · exact ih hn.2 x h1 y h2 e

theorem upTo_uniq {l : List NodeT} (hn : (l.map (fun x => x.1)).Nodup) {r : Int × Int} (hr : ∀ y ∈ l, y.1 ≠ r) : ∀ {j k : Nat} {q : Int × Int}, UpTo l r j q → UpTo l r k q → j = k := by
  intro j
  induction j with
  | zero =>
    intro k q h1 h2
    cases k with
    | zero => rfl
    | succ k => obtain ⟨y, hy, e, _⟩ := h2; have h1 : q = r := h1; exact absurd (e.trans h1) (hr y hy)
  | succ j ih =>
    intro k q h1 h2
    obtain ⟨x, hx, e1, h1⟩ := h1
    cases k with
    | zero => have h2 : q = r := h2; exact absurd (e1.trans h2) (hr x hx)
    | succ k =>
      obtain ⟨y, hy, e2, h2⟩ := h2
      rw [ids_inj hn x hx y hy (e1.trans e2.symm)] at h1
      rw [ih h1 h2]

theorem upTo_fun {l : List NodeT} (hn : (l.map (fun x => x.1)).Nodup) {r s : Int × Int} : ∀ {k : Nat} {q : Int × Int}, UpTo l r k q → UpTo l s k q → r = s := by
  intro k
  induction k with
  | zero => intro q h1 h2; have h1 : q = r := h1; have h2 : q = s := h2; rw [← h1, ← h2]
  | succ k ih =>
    intro q h1 h2
    obtain ⟨x, hx, e1, h1⟩ := h1
    obtain ⟨y, hy, e2, h2⟩ := h2
    rw [ids_inj hn x hx y hy (e1.trans e2.symm)] at h1
    exact ih h1 h2

theorem upTo_add {l : List NodeT} {r p : Int × Int} {k : Nat} (h : UpTo l r k p) : ∀ {j : Nat} {q : Int × Int}, UpTo l p j q → UpTo l r (j + k) q := by
  intro j
  induction j with
  | zero => intro q h1; have h1 : q = p := h1; rw [h1, Nat.zero_add]; exact h
  | succ j ih =>
    intro q h1
    obtain ⟨y, hy, e, h1⟩ := h1
    have : j + 1 + k = j + k + 1 := by omega
    rw [this]
    exact ⟨y, hy, e, ih h1⟩

theorem upTo_kid {l : List NodeT} {p q : Int × Int} (h : q ∈ kidS l p) : UpTo l p 1 q := by
  obtain ⟨y, hy, e1, e2⟩ := kidS_mem.1 h
  exact ⟨y, hy, e1, e2⟩

theorem idsD_up {l : List NodeT} : ∀ {f : Nat} {p q : Int × Int}, q ∈ idsD l f p → ∃ j, j < f ∧ UpTo l p (j + 1) q := by
  intro f
  induction f with
  | zero => intro p q h; exact absurd h List.not_mem_nil
  | succ f ih =>
    intro p q h
    obtain ⟨x, hx, h⟩ := List.mem_flatMap.1 h
    rcases List.mem_cons.1 h with rfl | h
    · exact ⟨0, by omega, upTo_kid hx⟩
    · obtain ⟨j, hj, h⟩ := ih h
      exact ⟨j + 1, by omega, upTo_add (upTo_kid hx) h⟩

theorem upTo_split {l : List NodeT} {p : Int × Int} : ∀ {k : Nat} {q : Int × Int}, UpTo l p (k + 1) q → ∃ x ∈ kidS l p, UpTo l x k q := by
  intro k
  induction k with
  | zero =>
    intro q h
    obtain ⟨y, hy, e, h⟩ := h
    have h : y.2.1 = p := h
    exact ⟨q, kidS_mem.2 ⟨y, hy, e, h⟩, rfl⟩
  | succ k ih =>
    intro q h
    obtain ⟨y, hy, e, h⟩ := h
    obtain ⟨x, hx, h⟩ := ih h
    exact ⟨x, hx, y, hy, e, h⟩

theorem up_idsD {l : List NodeT} : ∀ {f : Nat} {p q : Int × Int} {j : Nat}, j < f → UpTo l p (j + 1) q → q ∈ idsD l f p := by
  intro f
  induction f with
  | zero => intro p q j h; exact absurd h (Nat.not_lt_zero _)
  | succ f ih =>
    intro p q j hj h
    obtain ⟨x, hx, h⟩ := upTo_split h
    refine List.mem_flatMap.2 ⟨x, hx, ?_⟩
    cases j with
    | zero => have h : q = x := h; rw [h]; exact List.mem_cons_self ..
    | succ j => exact List.mem_cons_of_mem _ (ih (by omega) h)

theorem idsD_nodup {l : List NodeT} (hn : (l.map (fun x => x.1)).Nodup) {r : Int × Int} (hr : ∀ y ∈ l, y.1 ≠ r) : ∀ (f : Nat) (k : Nat) (p : Int × Int), UpTo l r k p → (idsD l f p).Nodup := by
  intro f
  induction f with
  | zero => intro k p _; exact List.nodup_nil
  | succ f ih =>
    intro k p h
    have hk : ∀ q ∈ kidS l p, UpTo l r (1 + k) q := fun q hq => upTo_add h (upTo_kid hq)
    refine List.pairwise_flatMap.2 ⟨fun q hq => List.nodup_cons.2 ⟨fun hm => ?_, ih _ q (hk q hq)⟩, (kidS_nodup hn p).imp_of_mem (fun {a b} ha hb hab => ?_)⟩
    · obtain ⟨j, _, hj⟩ := idsD_up hm
      have := upTo_uniq hn hr (upTo_add (hk q hq) hj) (hk q hq)
      omega
    · have way : ∀ {c x : Int × Int}, x ∈ c :: idsD l f c → ∃ j, UpTo l c j x := fun {c x} hx => by
        rcases List.mem_cons.1 hx with rfl | hx
        · exact ⟨0, rfl⟩
        · obtain ⟨j, _, hj⟩ := idsD_up hx; exact ⟨_, hj⟩
      intro x hx y hy e
      obtain ⟨i, hi⟩ := way hx
      obtain ⟨j, hj⟩ := way hy
      rw [← e] at hj
      have := upTo_uniq hn hr (upTo_add (hk a ha) hi) (upTo_add (hk b hb) hj)
      have e2 : i = j := by omega
      rw [e2] at hi
      exact hab (upTo_fun hn hi hj)

theorem idsD_sub {l : List NodeT} {f : Nat} {p q : Int × Int} (h : q ∈ idsD l f p) : q ∈ l.map (fun x => x.1) := by
  obtain ⟨j, _, y, hy, e, _⟩ := idsD_up h
  exact List.mem_map.2 ⟨y, hy, e⟩

theorem idsD_len {l : List NodeT} (hn : (l.map (fun x => x.1)).Nodup) {r : Int × Int} (hr : ∀ y ∈ l, y.1 ≠ r) (f : Nat) : (idsD l f r).length ≤ l.length := by
  have := pigeon _ _ (idsD_nodup hn hr f 0 r rfl) (fun v hv => idsD_sub hv)
  rw [List.length_map] at this
  exact this

theorem upTo_few {l : List NodeT} (hn : (l.map (fun x => x.1)).Nodup) {r : Int × Int} (hr : ∀ y ∈ l, y.1 ≠ r) {k : Nat} {q : Int × Int} (h : UpTo l r k q) : k ≤ l.length := by
  have key : ∀ (k : Nat) (q : Int × Int), UpTo l r k q → ∃ vs : List NodeT, vs.length = k ∧ vs.Nodup ∧ ∀ v ∈ vs, v ∈ l ∧ ∃ j, j ≤ k ∧ UpTo l r j v.1 := by
    intro k
    induction k with
    | zero => intro q _; exact ⟨[], rfl, List.nodup_nil, fun v hv => absurd hv List.not_mem_nil⟩
    | succ k ih =>
      intro q h
      obtain ⟨y, hy, e, h⟩ := h
      obtain ⟨vs, h1, h2, h3⟩ := ih _ h
      refine ⟨y :: vs, by rw [List.length_cons, h1], List.nodup_cons.2 ⟨fun hm => ?_, h2⟩, fun v hv => ?_⟩
      · obtain ⟨_, j, hj, hu⟩ := h3 y hm
        have hy2 : UpTo l r (k + 1) y.1 := ⟨y, hy, rfl, h⟩
        have := upTo_uniq hn hr hu hy2
        omega
      · rcases List.mem_cons.1 hv with rfl | hv
        · exact ⟨hy, k + 1, Nat.le_refl _, v, hy, rfl, h⟩
        · obtain ⟨a, j, hj, hu⟩ := h3 v hv
          exact ⟨a, j, by omega, hu⟩
  obtain ⟨vs, h1, h2, h3⟩ := key k q h
  have := pigeon vs l h2 (fun v hv => (h3 v hv).1)
  omega

theorem low_of {l : List NodeT} (hn : (l.map (fun x => x.1)).Nodup) {r : Int × Int} (hr : ∀ y ∈ l, y.1 ≠ r) : ∀ (g k : Nat) (p : Int × Int), UpTo l r k p → l.length < k + g → Low l g p := by
  intro g
  induction g with
  | zero => intro k p h hk; have := upTo_few hn hr h; omega
  | succ g ih =>
    intro k p h hk q hq
    exact ih (1 + k) q (upTo_add h (upTo_kid hq)) (by omega)

theorem low_up {l : List NodeT} : ∀ {f : Nat} {p : Int × Int}, Low l f p → Low l (f + 1) p := by
  intro f
  induction f with
  | zero => intro p h; exact absurd h id
  | succ f ih => intro p h q hq; exact ih (h q hq)

theorem insL_perm (x : LineT) (o : List LineT) : (insL x o).Perm (x :: o) := by
  unfold insL
  rw [List.append_assoc]
  have := List.perm_middle (a := x) (l₁ := o.take (posL x.2.2.1 o)) (l₂ := o.drop (posL x.2.2.1 o))
  rw [List.take_append_drop] at this
  exact this

theorem childF_perm (ks : List NodeT) (ns : List ByteArray) (d : Int) : ∀ i, i ≤ ks.length → ((childF ks ns d i).map (fun x => x.2.1)).Perm ((ks.take i).map (fun x => x.1)) := by
  intro i
  induction i with
  | zero => intro _; exact List.Perm.refl _
  | succ i ih =>
    intro h
    have hi : i < ks.length := by omega
    refine ((insL_perm _ _).map _).trans ?_
    rw [List.take_succ_eq_append_getElem hi, List.map_append, List.map_cons, ← nL_getE ks i hi]
    exact ((ih (by omega)).cons _).trans (List.perm_append_comm (l₁ := [(nL ks i).1]))

theorem childP_perm (l : List NodeT) (p : Int × Int) (d : Int) : ((childP l p d).map (fun x => x.2.1)).Perm (kidS l p) := by
  have := childF_perm (kidsP l p l.length) (distF ((kidsP l p l.length).map (fun x => x.2.2.1)) (kidsP l p l.length).length) d _ (Nat.le_refl _)
  rw [List.take_length] at this
  exact this

theorem childP_kid {l : List NodeT} {p : Int × Int} {d : Int} {x : LineT} (h : x ∈ childP l p d) : x.2.1 ∈ kidS l p := (childP_perm l p d).mem_iff.1 (List.mem_map.2 ⟨x, h, rfl⟩)

theorem flat_perm {α β : Type} {f g : α → List β} : ∀ (l : List α), (∀ a ∈ l, (f a).Perm (g a)) → (l.flatMap f).Perm (l.flatMap g) := by
  intro l
  induction l with
  | nil => intro _; exact List.Perm.refl _
  | cons a l ih =>
    intro h
    rw [List.flatMap_cons, List.flatMap_cons]
    exact (h a (List.mem_cons_self ..)).append (ih (fun b hb => h b (List.mem_cons_of_mem _ hb)))

theorem flat_congr {α β : Type} {f g : α → List β} : ∀ (l : List α), (∀ a ∈ l, f a = g a) → l.flatMap f = l.flatMap g := by
  intro l
  induction l with
  | nil => intro _; rfl
  | cons a l ih =>
    intro h
    rw [List.flatMap_cons, List.flatMap_cons, h a (List.mem_cons_self ..), ih (fun b hb => h b (List.mem_cons_of_mem _ hb))]

theorem showP_ids (l : List NodeT) : ∀ (f : Nat) (p : Int × Int) (d : Int), ((showP l f p d).map (fun x => x.2.1)).Perm (idsD l f p) := by
  intro f
  induction f with
  | zero => intro p d; exact List.Perm.refl _
  | succ f ih =>
    intro p d
    show (((childP l p d).flatMap (fun x => x :: showP l f x.2.1 (x.1 + 1))).map (fun x => x.2.1)).Perm ((kidS l p).flatMap (fun q => q :: idsD l f q))
    rw [List.map_flatMap]
    refine (flat_perm (g := fun x => x.2.1 :: idsD l f x.2.1) _ (fun x _ => ?_)).trans ?_
    · rw [List.map_cons]; exact (ih x.2.1 (x.1 + 1)).cons _
    · rw [← List.flatMap_map (fun x : LineT => x.2.1) (fun q => q :: idsD l f q)]
      exact (childP_perm l p d).flatMap_right _

theorem showP_len (l : List NodeT) (f : Nat) (p : Int × Int) (d : Int) : (showP l f p d).length = (idsD l f p).length := by
  have := (showP_ids l f p d).length_eq
  rwa [List.length_map] at this

theorem showP_low {l : List NodeT} : ∀ {f : Nat} {p : Int × Int} {d : Int}, Low l f p → showP l f p d = showP l (f + 1) p d := by
  intro f
  induction f with
  | zero => intro p d h; exact absurd h id
  | succ f ih =>
    intro p d h
    exact flat_congr _ (fun x hx => by rw [ih (h _ (childP_kid hx))])

theorem showP_more {l : List NodeT} {f : Nat} {p : Int × Int} {d : Int} (h : Low l f p) (m : Nat) : Low l (f + m) p ∧ showP l (f + m) p d = showP l f p d := by
  induction m with
  | zero => exact ⟨h, rfl⟩
  | succ m ih => exact ⟨low_up ih.1, by rw [← ih.2]; exact (showP_low ih.1).symm⟩

/-- What is to come is told by what is there. -/
def Mid (l : List NodeT) (i : Nat) (o R : List LineT) : Prop := ∃ A B, o = A ++ B ∧ A.length = i ∧ R = A ++ B.flatMap (fun x => x :: showP l l.length x.2.1 (x.1 + 1)) ∧ ∀ x ∈ B, Low l l.length x.2.1

theorem mid_lines {l : List NodeT} (hn : (l.map (fun x => x.1)).Nodup) (hr : ∀ y ∈ l, y.1 ≠ (0, 0)) : ∀ i, (∀ j, j < i → j < (linesI l j).length) → Mid l i (linesI l i) (showP l (l.length + 1) (0, 0) 0) := by
  intro i
  induction i with
  | zero =>
    intro _
    have h0 : Low l (l.length + 1) (0, 0) := low_of hn hr _ 0 _ rfl (by omega)
    exact ⟨[], childP l (0, 0) 0, rfl, rfl, rfl, fun x hx => h0 _ (childP_kid hx)⟩
  | succ i ih =>
    intro hv
    obtain ⟨A, B, e, hA, hR, hB⟩ := ih (fun j hj => hv j (by omega))
    have hi := hv i (by omega)
    show Mid l (i + 1) (stepL l (linesI l i) i) _
    rw [e] at hi ⊢
    cases B with
    | nil => rw [List.append_nil] at hi; omega
    | cons x B =>
      have e1 : (A ++ x :: B).take (i + 1) = A ++ [x] := by
        rw [show A ++ x :: B = (A ++ [x]) ++ B by simp]
        rw [List.take_append_of_le_length (by simp; omega), List.take_of_length_le (by simp; omega)]
      have e2 : (A ++ x :: B).drop (i + 1) = B := by
        rw [show A ++ x :: B = (A ++ [x]) ++ B by simp]
        rw [List.drop_append_of_le_length (by simp; omega), List.drop_of_length_le (by simp; omega)]
        rfl
      have e3 : lL (A ++ x :: B) i = x := by
        unfold lL
        rw [List.getD_eq_getElem?_getD, List.getElem?_append_right (by omega), hA, Nat.sub_self]
        rfl
      have hx := hB x (List.mem_cons_self ..)
      refine ⟨A ++ [x], childP l x.2.1 (x.1 + 1) ++ B, ?_, by simp; omega, ?_, fun y hy => ?_⟩
      · unfold stepL; rw [e1, e2, e3]; simp
      · have h1 : showP l l.length x.2.1 (x.1 + 1) = (childP l x.2.1 (x.1 + 1)).flatMap (fun y => y :: showP l l.length y.2.1 (y.1 + 1)) := showP_low hx
        rw [hR, List.flatMap_cons, List.flatMap_append, ← h1]
        simp
      · rcases List.mem_append.1 hy with hy | hy
        · exact low_up hx _ (childP_kid hy)
        · exact hB y (List.mem_cons_of_mem _ hy)

theorem Mid.len {l : List NodeT} {i : Nat} {o R : List LineT} (h : Mid l i o R) : i ≤ o.length ∧ o.length ≤ R.length := by
  obtain ⟨A, B, rfl, hA, rfl, _⟩ := h
  have : ∀ (B : List LineT) (g : LineT → List LineT), B.length ≤ (B.flatMap (fun x => x :: g x)).length := by
    intro B g
    induction B with
    | nil => exact Nat.le_refl _
    | cons x B ih => rw [List.flatMap_cons]; simp only [List.length_cons, List.length_append]; omega
  have := this B (fun x => showP l l.length x.2.1 (x.1 + 1))
  rw [List.length_append, List.length_append]
  omega

/-- The document's lines are those of all that stand below the root, each with what stands below it behind it. -/
theorem linesR_show {l : List NodeT} (hn : (l.map (fun x => x.1)).Nodup) (hr : ∀ y ∈ l, y.1 ≠ (0, 0)) : LinesR l (showP l (l.length + 1) (0, 0) 0) := by
  have hM := mid_lines hn hr
  obtain ⟨R, hR⟩ : ∃ R, showP l (l.length + 1) (0, 0) 0 = R := ⟨_, rfl⟩
  rw [hR] at hM ⊢
  have stop : ∀ n, (∃ i, (∀ j, j < i → j < (linesI l j).length) ∧ ¬ i < (linesI l i).length) ∨ ∀ j, j < n → j < (linesI l j).length := by
    intro n
    induction n with
    | zero => exact .inr (fun j hj => absurd hj (Nat.not_lt_zero _))
    | succ n ih =>
      rcases ih with h | h
      · exact .inl h
      · by_cases hlt : n < (linesI l n).length
        · exact .inr (fun j hj => by
            by_cases e : j = n
            · rw [e]; exact hlt
            · exact h j (by omega))
        · exact .inl ⟨n, h, hlt⟩
  rcases stop (R.length + 1) with ⟨i, h1, h2⟩ | h
  · have hm := hM i h1
    have := hm.len
    obtain ⟨A, B, e, hA, e2, _⟩ := hm
    have hl : (linesI l i).length = i := by omega
    refine ⟨i, h1, hl, ?_⟩
    rw [e, List.length_append] at hl
    have hB : B = [] := List.eq_nil_of_length_eq_zero (by omega)
    rw [hB] at e e2
    rw [e2, e]
    rfl
  · have h1 := h R.length (by omega)
    have := (hM R.length (fun j hj => h j (by omega))).len
    omega

theorem linesI_few {l : List NodeT} (hn : (l.map (fun x => x.1)).Nodup) (hr : ∀ y ∈ l, y.1 ≠ (0, 0)) (i : Nat) (h : ∀ j, j < i → j < (linesI l j).length) : (linesI l i).length ≤ l.length := by
  have h1 := (mid_lines hn hr i h).len
  have h2 := showP_len l (l.length + 1) (0, 0) 0
  have h3 := idsD_len hn hr (l.length + 1)
  omega
end Go.Proofs.YtebnmghjdoblaaaGreatDoor

/- What nodes may be a tree's: counted from above, and sought from below (layer 12). -/
namespace Go.Proofs.YtebnmghjdoblaaaGreatDoor
open Go.RowKit
set_option linter.unusedSimpArgs false

/-- What is told of each node on its own. -/
def EachV (l : List NodeT) : Prop := ∀ k, k < l.length → VH l k

theorem less_chain (l : List NodeT) (h : ∀ k, 0 < k → k < l.length → LessS (nL l (k - 1)).1 (nL l k).1) : ∀ i j, i < j → j < l.length → LessS (nL l i).1 (nL l j).1 := by
  intro i j hij
  induction j with
  | zero => omega
  | succ j ih =>
    intro hj
    have h1 := h (j + 1) (by omega) hj
    rw [Nat.add_sub_cancel] at h1
    by_cases e : i = j
    · rw [e]; exact h1
    · have h2 := ih (by omega) (by omega)
      unfold LessS at *
      omega

theorem each_nodup {l : List NodeT} (h : EachV l) : (l.map (fun x => x.1)).Nodup := by
  have h1 := less_chain l (fun k h0 hk => (h k hk).2.1 h0)
  rw [List.nodup_iff_pairwise_ne, List.pairwise_map, List.pairwise_iff_getElem]
  intro i j hi hj hij e
  have h2 := h1 i j hij hj
  rw [nL_getE l i hi, nL_getE l j hj, e] at h2
  unfold LessS at h2
  omega

theorem each_out {l : List NodeT} (h : EachV l) {r : Int × Int} (hr : r.1 = 0) : ∀ y ∈ l, y.1 ≠ r := by
  intro y hy e
  obtain ⟨k, hk, e2⟩ := List.mem_iff_getElem.1 hy
  have h1 := (h k hk).1
  rw [nL_getE l k hk, e2, e] at h1
  unfold MayS at h1
  omega

theorem upTo_end {l : List NodeT} (hn : (l.map (fun x => x.1)).Nodup) {r s : Int × Int} (hr : ∀ y ∈ l, y.1 ≠ r) (hs : ∀ y ∈ l, y.1 ≠ s) : ∀ {j k : Nat} {q : Int × Int}, UpTo l r j q → UpTo l s k q → r = s := by
  intro j
  induction j with
  | zero =>
    intro k q h1 h2
    have h1 : q = r := h1
    cases k with
    | zero => have h2 : q = s := h2; rw [← h1, ← h2]
    | succ k => obtain ⟨y, hy, e, _⟩ := h2; exact absurd (e.trans h1) (hr y hy)
  | succ j ih =>
    intro k q h1 h2
    obtain ⟨x, hx, e1, h1⟩ := h1
    cases k with
    | zero => have h2 : q = s := h2; exact absurd (e1.trans h2) (hs x hx)
    | succ k =>
      obtain ⟨y, hy, e2, h2⟩ := h2
      rw [ids_inj hn x hx y hy (e1.trans e2.symm)] at h1
      exact ih h1 h2

theorem topF_up (l : List NodeT) : ∀ (f : Nat) (q : Int × Int), TopOk (topF l f q) → ∃ j, j < f ∧ UpTo l (topF l f q) j q := by
  intro f
  induction f with
  | zero => intro q h; have h : (1 : Int) = 0 ∧ _ := h; exact absurd h.1 (by decide)
  | succ f ih =>
    intro q h
    have e : topF l (f + 1) q = if findI l q < 0 then q else topF l f (nL l (findI l q).toNat).2.1 := rfl
    rcases findI_lt l q with hf | ⟨k, hf, hk, hid⟩
    · rw [if_pos (by omega)] at e
      rw [e]
      exact ⟨0, by omega, rfl⟩
    · rw [if_neg (by omega), hf] at e
      rw [e] at h ⊢
      obtain ⟨j, hj, hu⟩ := ih _ h
      refine ⟨j + 1, by omega, nL l k, ?_, hid, hu⟩
      rw [nL_getE l k hk]
      exact List.getElem_mem hk

theorem findI_none {l : List NodeT} {q : Int × Int} (h : ∀ y ∈ l, y.1 ≠ q) : findI l q < 0 := by
  rcases findI_lt l q with hf | ⟨k, hf, hk, hid⟩
  · omega
  · rw [nL_getE l k hk] at hid
    exact absurd hid (h _ (List.getElem_mem hk))

theorem findI_at {l : List NodeT} (hn : (l.map (fun x => x.1)).Nodup) {y : NodeT} (hy : y ∈ l) : ¬ findI l y.1 < 0 ∧ nL l (findI l y.1).toNat = y := by
  rcases findI_E l y.1 with ⟨h1, h2⟩ | ⟨i, h1, h2, h3, _⟩
  · obtain ⟨k, hk, e⟩ := List.mem_iff_getElem.1 hy
    have := h2 k hk
    rw [nL_getE l k hk, e] at this
    exact absurd rfl this
  · rw [h1]
    refine ⟨by omega, ?_⟩
    rw [Int.toNat_natCast]
    rw [nL_getE l i h2] at h3 ⊢
    exact ids_inj hn _ (List.getElem_mem h2) y hy h3

theorem up_topF {l : List NodeT} (hn : (l.map (fun x => x.1)).Nodup) {r : Int × Int} (hr : ∀ y ∈ l, y.1 ≠ r) : ∀ (j f : Nat) (q : Int × Int), j < f → UpTo l r j q → topF l f q = r := by
  intro j
  induction j with
  | zero =>
    intro f q hf h
    have h : q = r := h
    cases f with
    | zero => omega
    | succ f =>
      show (if findI l q < 0 then q else _) = r
      rw [if_pos (by rw [h]; exact findI_none hr), h]
  | succ j ih =>
    intro f q hf h
    obtain ⟨y, hy, e, h⟩ := h
    cases f with
    | zero => omega
    | succ f =>
      obtain ⟨h1, h2⟩ := findI_at hn hy
      show (if findI l q < 0 then q else topF l f (nL l (findI l q).toNat).2.1) = r
      rw [← e, if_neg h1, h2]
      exact ih f _ (by omega) h

theorem topOk_is {t : Int × Int} (h : TopOk t) : t = (0, 0) ∨ t = (0, 1) := by
  obtain ⟨a, b⟩ := t
  obtain ⟨h1, h2 | h2⟩ := h
  · exact .inl (Prod.ext h1 h2)
  · exact .inr (Prod.ext h1 h2)

/-- All nodes are met on the ways down from the root and from the trash just if from each one parents lead up there. -/
theorem count_top {l : List NodeT} (h : EachV l) : (idsD l (l.length + 1) (0, 0)).length + (idsD l (l.length + 1) (0, 1)).length = l.length ↔ ∀ k, k < l.length → TopOk (topF l (l.length + 1) (nL l k).1) := by
  have hn := each_nodup h
  have h0 := each_out h (r := (0, 0)) rfl
  have h1 := each_out h (r := (0, 1)) rfl
  have hd : ((idsD l (l.length + 1) (0, 0)) ++ (idsD l (l.length + 1) (0, 1))).Nodup := by
    refine List.nodup_append.2 ⟨idsD_nodup hn h0 _ 0 _ rfl, idsD_nodup hn h1 _ 0 _ rfl, ?_⟩
    intro x hx y hy e
    obtain ⟨i, _, hi⟩ := idsD_up hx
    obtain ⟨j, _, hj⟩ := idsD_up hy
    rw [← e] at hj
    exact absurd (upTo_end hn h0 h1 hi hj) (by decide)
  have hs : ∀ v ∈ (idsD l (l.length + 1) (0, 0)) ++ (idsD l (l.length + 1) (0, 1)), v ∈ l.map (fun x => x.1) := by
    intro v hv
    rcases List.mem_append.1 hv with hv | hv
    · exact idsD_sub hv
    · exact idsD_sub hv
  rw [← List.length_append]
  constructor
  · intro hl k hk
    have hm : (nL l k).1 ∈ (idsD l (l.length + 1) (0, 0)) ++ (idsD l (l.length + 1) (0, 1)) := by
      refine Classical.byContradiction fun hno => ?_
      have := pigeon ((nL l k).1 :: _) _ (List.nodup_cons.2 ⟨hno, hd⟩) (fun v hv => by
        rcases List.mem_cons.1 hv with e | hv
        · rw [e, nL_getE l k hk]; exact List.mem_map.2 ⟨_, List.getElem_mem hk, rfl⟩
        · exact hs v hv)
      rw [List.length_cons, List.length_map] at this
      omega
    rcases List.mem_append.1 hm with hm | hm
    · obtain ⟨j, hj, hu⟩ := idsD_up hm
      rw [up_topF hn h0 (j + 1) _ _ (by have := upTo_few hn h0 hu; omega) hu]
      exact ⟨rfl, .inl rfl⟩
    · obtain ⟨j, hj, hu⟩ := idsD_up hm
      rw [up_topF hn h1 (j + 1) _ _ (by have := upTo_few hn h1 hu; omega) hu]
      exact ⟨rfl, .inr rfl⟩
  · intro ht
    have hle := pigeon _ _ hd hs
    have hge := pigeon (l.map (fun x => x.1)) ((idsD l (l.length + 1) (0, 0)) ++ (idsD l (l.length + 1) (0, 1))) hn (fun v hv => by
      obtain ⟨y, hy, e⟩ := List.mem_map.1 hv
      obtain ⟨k, hk, e2⟩ := List.mem_iff_getElem.1 hy
      have h3 := ht k hk
      rw [nL_getE l k hk, e2, e] at h3
      obtain ⟨j, hj, hu⟩ := topF_up l _ v h3
      have key : ∀ {r : Int × Int}, (∀ y ∈ l, y.1 ≠ r) → UpTo l r j v → v ∈ idsD l (l.length + 1) r := fun {r} hr hu => by
        cases j with
        | zero => have hu : v = r := hu; exact absurd (e.trans hu) (hr y hy)
        | succ j => exact up_idsD (by omega) hu
      rcases topOk_is h3 with e3 | e3
      · rw [e3] at hu; exact List.mem_append_left _ (key h0 hu)
      · rw [e3] at hu; exact List.mem_append_right _ (key h1 hu))
    rw [List.length_map] at hle hge
    omega

theorem mayV_count (l : List NodeT) : MayV l ↔ l.length ≤ 512 ∧ EachV l ∧ (idsD l (l.length + 1) (0, 0)).length + (idsD l (l.length + 1) (0, 1)).length = l.length := by
  constructor
  · rintro ⟨h1, h2, h3⟩; exact ⟨h1, h2, (count_top h2).2 h3⟩
  · rintro ⟨h1, h2, h3⟩; exact ⟨h1, h2, (count_top h2).1 h3⟩

/-- The lines of nodes. -/
def linesP (l : List NodeT) : List LineT := showP l (l.length + 1) (0, 0) 0

theorem linesP_len {l : List NodeT} (h : MayV l) : (linesP l).length ≤ l.length := by
  have h1 := showP_len l (l.length + 1) (0, 0) 0
  have h2 := idsD_len (each_nodup h.2.1) (each_out h.2.1 (r := (0, 0)) rfl) (l.length + 1)
  unfold linesP
  omega

theorem rlinesP_any (l : List NodeT) (a : Option Addr) (n c : Nat) (w : World) (D : Bool) (hD : D = true ↔ MayV l) (hn : n ≤ 90) (hz : ∀ k, k < n → (nL l k).2.2.1.size ≤ 65536 ∧ (nL l k).2.2.2.size ≤ maxLen) (hI : NodesAt w a n l) :
    Calls Tryz.prog 13 #[.slice a n c] w fun e w' => ∃ v, e = .returned (.tuple #[v, .int .i64 (if D = true then 0 else 1)]) ∧ OwnL w' w.heap.size v (if D = true then linesP l else []) ∧ Below w.heap.size w w' :=
  rlinesV_any l a n c w D hD (linesP l) (fun h => linesR_show (each_nodup (hD.1 h).2.1) (each_out (hD.1 h).2.1 rfl)) (fun h i hi => by
    have := linesI_few (each_nodup (hD.1 h).2.1) (each_out (hD.1 h).2.1 rfl) i hi
    have := hI.1
    omega) hn hz hI
end Go.Proofs.YtebnmghjdoblaaaGreatDoor

/- Lines in the order of their names, on plain data (layer 12). -/
namespace Go.Proofs.YtebnmghjdoblaaaGreatDoor
open Go.RowKit
set_option linter.unusedSimpArgs false

theorem ltT_iff (a b : ByteArray) : ltT a b = true ↔ a.toList < b.toList := by
  unfold ltT
  rw [bytesLess_eq, decide_eq_true_eq]

theorem ltT_self (a : ByteArray) : ltT a a = false := by
  cases h : ltT a a with
  | false => rfl
  | true => exact absurd ((ltT_iff a a).1 h) (List.lt_irrefl _)

theorem ltT_trans {a b c : ByteArray} (h1 : ltT a b = true) (h2 : ltT b c = true) : ltT a c = true := (ltT_iff _ _).2 (List.lt_trans ((ltT_iff _ _).1 h1) ((ltT_iff _ _).1 h2))

theorem bt_list {a b : ByteArray} (h : a.toList = b.toList) : a = b := bytes_ext (by rw [toList_data, toList_data] at h; exact h)

theorem ltT_or {a b : ByteArray} (h : ltT a b = false) (hne : a ≠ b) : ltT b a = true := by
  have h1 : ¬ a.toList < b.toList := fun k => by rw [(ltT_iff a b).2 k] at h; cases h
  refine (ltT_iff b a).2 (Classical.byContradiction fun h2 => ?_)
  exact hne (bt_list (List.le_antisymm (List.not_lt.1 h2) (List.not_lt.1 h1)))

theorem ltT_asymm {a b : ByteArray} (h : ltT a b = true) : ltT b a = false := by
  cases k : ltT b a with
  | false => rfl
  | true => have := ltT_trans h k; rw [ltT_self] at this; cases this

/-- Names rise. -/
def SortL (o : List LineT) : Prop := o.Pairwise (fun x y => ltT x.2.2.1 y.2.2.1 = true)

theorem sortL_perm {o p : List LineT} (h1 : SortL o) (h2 : SortL p) (h : o.Perm p) : o = p := List.Perm.eq_of_pairwise (fun a b _ _ hab hba => by rw [ltT_asymm hab] at hba; cases hba) h1 h2 h

theorem insL_cons (x y : LineT) (o : List LineT) : insL x (y :: o) = if ltT y.2.2.1 x.2.2.1 = true then y :: insL x o else x :: y :: o := by
  have e : posL x.2.2.1 (y :: o) = if ltT y.2.2.1 x.2.2.1 = true then posL x.2.2.1 o + 1 else 0 := rfl
  unfold insL
  rw [e]
  by_cases h : ltT y.2.2.1 x.2.2.1 = true
  · rw [if_pos h, if_pos h]; rfl
  · rw [if_neg h, if_neg h]; rfl

theorem insL_sort {x : LineT} : ∀ {o : List LineT}, SortL o → (∀ y ∈ o, y.2.2.1 ≠ x.2.2.1) → SortL (insL x o) := by
  intro o
  induction o with
  | nil => intro _ _; exact List.pairwise_singleton ..
  | cons y o ih =>
    intro h hx
    have h' := List.pairwise_cons.1 h
    rw [insL_cons]
    by_cases hl : ltT y.2.2.1 x.2.2.1 = true
    · rw [if_pos hl]
      refine List.pairwise_cons.2 ⟨fun z hz => ?_, ih h'.2 (fun z hz => hx z (List.mem_cons_of_mem _ hz))⟩
      rcases insL_mem _ _ z hz with e | hz
      · rw [e]; exact hl
      · exact h'.1 z hz
    · rw [if_neg hl]
      have hxy := ltT_or (Bool.eq_false_iff.2 hl) (hx y (List.mem_cons_self ..))
      refine List.pairwise_cons.2 ⟨fun z hz => ?_, h⟩
      rcases List.mem_cons.1 hz with e | hz
      · rw [e]; exact hxy
      · exact ltT_trans hxy (h'.1 z hz)

/-- The lines of children, as they come. -/
def rowL (ks : List NodeT) (ns : List ByteArray) (d : Int) : Nat → List LineT
  | 0 => []
  | i + 1 => rowL ks ns d i ++ [(d, (nL ks i).1, strL ns i, (nL ks i).2.2.2)]

theorem rowL_len (ks : List NodeT) (ns : List ByteArray) (d : Int) : ∀ i, (rowL ks ns d i).length = i := by
  intro i
  induction i with
  | zero => rfl
  | succ i ih => show (rowL ks ns d i ++ [_]).length = _; rw [List.length_append, ih]; rfl

theorem rowL_mem (ks : List NodeT) (ns : List ByteArray) (d : Int) : ∀ i y, y ∈ rowL ks ns d i → ∃ j, j < i ∧ y = (d, (nL ks j).1, strL ns j, (nL ks j).2.2.2) := by
  intro i
  induction i with
  | zero => intro y h; exact absurd h List.not_mem_nil
  | succ i ih =>
    intro y h
    rcases List.mem_append.1 h with h | h
    · obtain ⟨j, hj, e⟩ := ih y h; exact ⟨j, by omega, e⟩
    · exact ⟨i, by omega, List.mem_singleton.1 h⟩

theorem childF_row (ks : List NodeT) (ns : List ByteArray) (d : Int) : ∀ i, (rowL ks ns d i).Perm (childF ks ns d i) := by
  intro i
  induction i with
  | zero => exact List.Perm.refl _
  | succ i ih =>
    refine List.Perm.trans ?_ (insL_perm _ _).symm
    exact List.perm_append_comm.trans (ih.cons _)

theorem childF_sort (ks : List NodeT) (ns : List ByteArray) (d : Int) (n : Nat) (hd : ∀ i k, i < n → k < i → strL ns k ≠ strL ns i) : ∀ i, i ≤ n → SortL (childF ks ns d i) := by
  intro i
  induction i with
  | zero => intro _; exact List.Pairwise.nil
  | succ i ih =>
    intro hi
    refine insL_sort (ih (by omega)) (fun y hy => ?_)
    obtain ⟨j, hj, e⟩ := rowL_mem ks ns d i y ((childF_row ks ns d i).symm.mem_iff.1 hy)
    rw [e]
    exact hd i j (by omega) hj

/-- Whatever has the lines of a parent's children, sorted by their names, is what the document shows. -/
theorem childP_is (l : List NodeT) (p : Int × Int) (d : Int) (hn : (kidsP l p l.length).length ≤ 90) {o : List LineT} (hp : o.Perm (rowL (kidsP l p l.length) (distF ((kidsP l p l.length).map (fun x => x.2.2.1)) (kidsP l p l.length).length) d (kidsP l p l.length).length)) (hs : SortL o) : o = childP l p d :=
  sortL_perm hs (childF_sort _ _ _ _ (fun i k hi hk => dist_apart _ _ i k (by rw [List.length_map]) hn hi hk) _ (Nat.le_refl _)) (hp.trans (childF_row _ _ _ _))

theorem childP_sort (l : List NodeT) (p : Int × Int) (d : Int) (hn : (kidsP l p l.length).length ≤ 90) : SortL (childP l p d) :=
  childF_sort _ _ _ _ (fun i k hi hk => dist_apart _ _ i k (by rw [List.length_map]) hn hi hk) _ (Nat.le_refl _)
end Go.Proofs.YtebnmghjdoblaaaGreatDoor

/- Places of lines, and names without a stroke, on plain data (layer 12). -/
namespace Go.Proofs.YtebnmghjdoblaaaGreatDoor
set_option linter.unusedSimpArgs false

/-- Each line at most one deeper than the one ahead. -/
def StepsL : Int → List LineT → Prop
  | _, [] => True
  | a, x :: r => 0 ≤ x.1 ∧ x.1 ≤ a ∧ StepsL (x.1 + 1) r

theorem stepsL_mono {a b : Int} (h : a ≤ b) : ∀ {R : List LineT}, StepsL a R → StepsL b R
  | [], _ => trivial
  | _ :: _, hR => ⟨hR.1, Int.le_trans hR.2.1 h, hR.2.2⟩

theorem stepsL_app {c : Int} {B : List LineT} (hB : StepsL c B) : ∀ {A : List LineT} {a : Int}, StepsL a A → (∀ x ∈ A, c ≤ x.1 + 1) → c ≤ a → StepsL a (A ++ B)
  | [], _, _, _, h => stepsL_mono h hB
  | x :: _, _, hA, hx, _ => ⟨hA.1, hA.2.1, stepsL_app hB hA.2.2 (fun y hy => hx y (List.mem_cons_of_mem _ hy)) (hx x (List.mem_cons_self ..))⟩

theorem show_deep (l : List NodeT) : ∀ (f : Nat) (p : Int × Int) (d : Int), ∀ x ∈ showP l f p d, d ≤ x.1 := by
  intro f
  induction f with
  | zero => intro p d x hx; cases hx
  | succ f ih =>
    intro p d x hx
    have hx : x ∈ (childP l p d).flatMap (fun x => x :: showP l f x.2.1 (x.1 + 1)) := hx
    rw [List.mem_flatMap] at hx
    obtain ⟨y, hy, hx⟩ := hx
    have hd : y.1 = d := childF_deep _ _ _ _ _ hy
    rcases List.mem_cons.1 hx with rfl | hx
    · omega
    · have := ih _ _ x hx; omega

theorem show_steps (l : List NodeT) : ∀ (f : Nat) (p : Int × Int) (d : Int), 0 ≤ d → StepsL d (showP l f p d) := by
  intro f
  induction f with
  | zero => intro p d _; exact trivial
  | succ f ih =>
    intro p d h0
    show StepsL d ((childP l p d).flatMap (fun x => x :: showP l f x.2.1 (x.1 + 1)))
    have hd : ∀ y ∈ childP l p d, y.1 = d := fun y hy => childF_deep _ _ _ _ _ hy
    revert hd
    generalize childP l p d = C
    intro hd
    induction C with
    | nil => exact trivial
    | cons y r ih2 =>
      rw [List.flatMap_cons]
      have hy := hd y (List.mem_cons_self ..)
      refine stepsL_app (c := d) (ih2 (fun z hz => hd z (List.mem_cons_of_mem _ hz))) ?_ ?_ (Int.le_refl _)
      · exact ⟨by omega, by omega, ih _ _ (by omega)⟩
      · intro x hx
        rcases List.mem_cons.1 hx with rfl | hx
        · omega
        · have := show_deep l f _ _ x hx; omega

theorem lL_cons (x : LineT) (R : List LineT) (k : Nat) : lL (x :: R) (k + 1) = lL R k := by unfold lL; simp
theorem lL_zero (x : LineT) (R : List LineT) : lL (x :: R) 0 = x := by unfold lL; simp

theorem steps_at : ∀ (R : List LineT) (a : Int), StepsL a R → ∀ k, k < R.length → 0 ≤ (lL R k).1 ∧ (lL R k).1 ≤ (if k = 0 then a else (lL R (k - 1)).1 + 1) := by
  intro R
  induction R with
  | nil => intro a _ k hk; simp at hk
  | cons x r ih =>
    intro a h k hk
    cases k with
    | zero => rw [lL_zero, if_pos rfl]; exact ⟨h.1, h.2.1⟩
    | succ k =>
      have h1 := ih (x.1 + 1) h.2.2 k (by simp at hk; omega)
      rw [lL_cons, if_neg (by omega), show k + 1 - 1 = k by omega]
      refine ⟨h1.1, ?_⟩
      cases k with
      | zero => rw [lL_zero]; simpa using h1.2
      | succ k => rw [lL_cons]; simpa using h1.2

/-- The own names from the root down to a line. -/
def placeF (R : List LineT) : Nat → List ByteArray
  | 0 => []
  | k + 1 => (placeF R k).take (lL R k).1.toNat ++ [(lL R k).2.2.1]

theorem place_len {R : List LineT} (h : StepsL 0 R) : ∀ k, k < R.length → (lL R k).1.toNat ≤ (placeF R k).length ∧ (placeF R (k + 1)).length = (lL R k).1.toNat + 1 := by
  intro k
  induction k with
  | zero =>
    intro hk
    have h1 := steps_at R 0 h 0 hk
    rw [if_pos rfl] at h1
    have e : (lL R 0).1.toNat = 0 := by omega
    refine ⟨by omega, ?_⟩
    show ((placeF R 0).take (lL R 0).1.toNat ++ [_]).length = _
    rw [e]; rfl
  | succ k ih =>
    intro hk
    have h1 := steps_at R 0 h (k + 1) hk
    rw [if_neg (by omega), show k + 1 - 1 = k by omega] at h1
    have h2 := (ih (by omega)).2
    have h3 : (lL R (k + 1)).1.toNat ≤ (placeF R (k + 1)).length := by omega
    refine ⟨h3, ?_⟩
    show ((placeF R (k + 1)).take (lL R (k + 1)).1.toNat ++ [_]).length = _
    rw [List.length_append, List.length_take]
    simp only [List.length_cons, List.length_nil]
    omega

/-- Names, each with a stroke behind it, ahead of a text. -/
def preB (Q : List ByteArray) (s : ByteArray) : ByteArray := Q.foldr (fun n acc => (n ++ ⟨#[47]⟩) ++ acc) s

theorem preB_end (Q : List ByteArray) (x s : ByteArray) : preB (Q ++ [x]) s = preB Q ((x ++ ⟨#[47]⟩) ++ s) := by unfold preB; rw [List.foldr_append]; rfl

theorem path_pre {R : List LineT} (h : StepsL 0 R) : ∀ k, k ≤ R.length → ∀ (d : Nat) (s : ByteArray), d ≤ (placeF R k).length → pathF R k (d : Int) s = preB ((placeF R k).take d) s := by
  intro k
  induction k with
  | zero =>
    intro _ d s hd
    have hd : d ≤ 0 := hd
    obtain rfl : d = 0 := by omega
    rfl
  | succ k ih =>
    intro hk d s hd
    have h0 := steps_at R 0 h k (by omega)
    obtain ⟨h1, h2⟩ := place_len h k (by omega)
    obtain ⟨m, hm⟩ : ∃ m : Nat, (lL R k).1 = (m : Int) := ⟨(lL R k).1.toNat, by omega⟩
    have em : (lL R k).1.toNat = m := by omega
    have eP : placeF R (k + 1) = (placeF R k).take m ++ [(lL R k).2.2.1] := by show _ ++ _ = _; rw [em]
    show (if (lL R k).1 < (d : Int) then pathF R k (lL R k).1 _ else pathF R k d s) = _
    by_cases hlt : m < d
    · rw [if_pos (by omega), hm, ih (by omega) m _ (by omega)]
      have hdm : d = m + 1 := by omega
      have hl : ((placeF R k).take m ++ [(lL R k).2.2.1]).length = d := by rw [← eP]; omega
      have e2 : ((placeF R k).take m ++ [(lL R k).2.2.1]).take d = (placeF R k).take m ++ [(lL R k).2.2.1] := List.take_of_length_le (by omega)
      rw [eP, e2, preB_end]
    · rw [if_neg (by omega), ih (by omega) d s (by omega), eP, List.take_append_of_le_length (by rw [List.length_take]; omega), List.take_take]
      rw [show min d m = d by omega]

def joinB (P : List ByteArray) : ByteArray := ⟨(Lib.join (P.map (·.data.toList)) [47]).toArray⟩

theorem join_two (x y : List UInt8) (r : List (List UInt8)) : Lib.join (x :: y :: r) [47] = x ++ 47 :: Lib.join (y :: r) [47] := by
  rw [Lib.join_cons, Lib.join_cons]
  unfold Lib.joinTail
  simp

theorem preB_join (Q : List ByteArray) (s : ByteArray) : preB Q s = joinB (Q ++ [s]) := by
  induction Q with
  | nil =>
    apply bytes_ext
    show s.data.toList = Lib.join [s.data.toList] [47]
    rw [Lib.join_one]
  | cons q Q ih =>
    show (q ++ ⟨#[47]⟩) ++ preB Q s = _
    rw [ih]
    apply bytes_ext
    obtain ⟨y, r, hy⟩ : ∃ y r, (Q ++ [s]).map (·.data.toList) = y :: r := by cases Q <;> exact ⟨_, _, rfl⟩
    show ((q ++ ⟨#[47]⟩) ++ joinB (Q ++ [s])).data.toList = Lib.join (q.data.toList :: (Q ++ [s]).map (·.data.toList)) [47]
    unfold joinB
    rw [hy, join_two, ByteArray.data_append, ByteArray.data_append, Array.toList_append, Array.toList_append]
    simp

theorem path_join {R : List LineT} (h : StepsL 0 R) (i : Nat) (hi : i < R.length) : pathB R i = joinB (placeF R (i + 1)) := by
  have h0 := steps_at R 0 h i hi
  obtain ⟨h1, _⟩ := place_len h i hi
  unfold pathB
  have e : (lL R i).1 = ((lL R i).1.toNat : Int) := by omega
  rw [e, path_pre h i (by omega) _ _ h1, preB_join]
  rfl

/-- No byte of it is a stroke. -/
def NoSl (s : ByteArray) : Prop := ∀ i, i < s.size → bt s i ≠ 47

theorem noSl_mem {s : ByteArray} (h : NoSl s) : (47 : UInt8) ∉ s.data.toList := by
  intro hm
  obtain ⟨i, hi, e⟩ := List.mem_iff_getElem.1 hm
  rw [Array.length_toList] at hi
  refine h i hi ?_
  have e' : s.data[i] = 47 := by rw [← e]; simp
  simp [bt, List.getD_eq_getElem?_getD, Array.getElem?_eq_getElem hi, e']

theorem one_tailB {t : ByteArray} {n least x0 x K : Nat} (h : oneTail t n least x0 = some (x, K)) : K = n + 1 ∧ ∀ j, 1 ≤ j → j < K → 128 ≤ bt t j := by
  unfold oneTail at h
  split at h
  · rename_i hc
    have h := Option.some.inj h
    have h2 : n + 1 = K := congrArg Prod.snd h
    refine ⟨h2.symm, fun j hj hK => ?_⟩
    have := (hc.1 (j - 1) (by omega)).2.1
    rw [show j - 1 + 1 = j by omega] at this
    exact this
  · cases h

theorem one_cont {t : ByteArray} {x K : Nat} (h : oneP t = some (x, K)) : ∀ j, 1 ≤ j → j < K → 128 ≤ bt t j := by
  unfold oneP at h
  split at h
  · have h := Option.some.inj h
    have h2 : 1 = K := congrArg Prod.snd h
    intro j h1 h3; omega
  · split at h
    · exact (one_tailB h).2
    · split at h
      · exact (one_tailB h).2
      · split at h
        · exact (one_tailB h).2
        · cases h

theorem name_noSl {s : ByteArray} (h : NameP s) : NoSl s := by
  have main : ∀ k, k ≤ countR s → ∀ i, i < posR s k → bt s i ≠ 47 := by
    intro k
    induction k with
    | zero => intro _ i hi; rw [posR_zero] at hi; omega
    | succ k ih =>
      intro hk i hi e
      have hp := pos_before s k (by omega)
      rw [posR_succ s k hp] at hi
      by_cases h1 : i < posR s k
      · exact ih (by omega) i h1 e
      · obtain ⟨⟨x, K⟩, hr⟩ := h.all k (by omega)
        have hg := h.2.1 k (by omega)
        unfold nextR at hi
        unfold runeAt at hg
        rw [hr] at hi hg
        have hK : i < posR s k + K := hi
        have eb : bt (restB s (posR s k)) (i - posR s k) = 47 := by rw [bt_restB, show posR s k + (i - posR s k) = i by omega]; exact e
        by_cases h0 : i - posR s k = 0
        · rw [h0] at eb
          unfold oneP at hr
          rw [if_pos (by omega), eb] at hr
          have h3 : 47 = x := congrArg Prod.fst (Option.some.inj hr)
          have h4 : goodX ((x : Nat) : Int) := hg
          rw [← h3] at h4
          exact h4.2.1 rfl
        · have := one_cont hr (i - posR s k) (by omega) (by omega)
          omega
  intro i hi
  exact main (countR s) (Nat.le_refl _) i (by rw [pos_count]; exact hi)

theorem noSl_app {a b : ByteArray} (ha : NoSl a) (hb : NoSl b) : NoSl (a ++ b) := by
  intro i hi
  by_cases h : i < a.size
  · rw [bt_append_left _ _ _ h]; exact ha i h
  · rw [ByteArray.size_append] at hi
    rw [show i = a.size + (i - a.size) by omega, bt_append_right]; exact hb _ (by omega)

theorem noSl_cut {s : ByteArray} (h : NoSl s) (n : Nat) : NoSl (cutR s n) := by
  intro i hi
  unfold cutR at *
  rw [front_size _ _ (posR_le s n)] at hi
  rw [front_bt _ _ _ (posR_le s n) hi]
  exact h i (by have := posR_le s n; omega)

theorem noSl_tail (k : Nat) (hk : k < 100) : NoSl (tailB k) := by
  have h : ∀ k : Fin 100, ∀ i : Fin 3, i.1 < (tailB k.1).size → bt (tailB k.1) i.1 ≠ 47 := by decide +kernel
  intro i hi
  exact h ⟨k, hk⟩ ⟨i, by have := tailB_size k; omega⟩ hi

theorem dist_noSl (l : List ByteArray) (hl : l.length ≤ 90) (h : ∀ s ∈ l, NoSl s) : ∀ k, k ≤ l.length → ∀ s ∈ distF l k, NoSl s := by
  intro k
  induction k with
  | zero => intro _ s hs; cases hs
  | succ k ih =>
    intro hk s hs
    rw [distF_succ, List.mem_append] at hs
    rcases hs with hs | hs
    · exact ih (by omega) s hs
    · have e : s = pickN (distF l k) (strL l k) (l.length + 1) 2 (strL l k) := by simpa using hs
      have hb : NoSl (strL l k) := h _ (by unfold strL; rw [List.getD_eq_getElem?_getD, List.getElem?_eq_getElem (show k < l.length by omega)]; exact List.getElem_mem _)
      rcases pick_of (distF l k) (strL l k) (l.length + 1) 2 (strL l k) with e2 | ⟨j, h1, h2, e2⟩
      · rw [e, e2]; exact hb
      · rw [e, e2]
        unfold candB
        exact noSl_app (noSl_cut hb _) (noSl_tail j (by omega))

theorem childF_names (ks : List NodeT) (ns : List ByteArray) (d : Int) : ∀ i, ∀ x ∈ childF ks ns d i, ∃ j, j < i ∧ x.2.2.1 = strL ns j := by
  intro i
  induction i with
  | zero => intro x hx; cases hx
  | succ i ih =>
    intro x hx
    have hx := (insL_perm _ _).mem_iff.1 (show x ∈ insL (d, (nL ks i).1, strL ns i, (nL ks i).2.2.2) (childF ks ns d i) from hx)
    rcases List.mem_cons.1 hx with rfl | hx
    · exact ⟨i, by omega, rfl⟩
    · obtain ⟨j, hj, e⟩ := ih x hx; exact ⟨j, by omega, e⟩

theorem show_in (l : List NodeT) (Pr : LineT → Prop) (h : ∀ p d, ∀ x ∈ childP l p d, Pr x) : ∀ (f : Nat) (p : Int × Int) (d : Int), ∀ x ∈ showP l f p d, Pr x := by
  intro f
  induction f with
  | zero => intro p d x hx; cases hx
  | succ f ih =>
    intro p d x hx
    have hx : x ∈ (childP l p d).flatMap (fun x => x :: showP l f x.2.1 (x.1 + 1)) := hx
    rw [List.mem_flatMap] at hx
    obtain ⟨y, hy, hx⟩ := hx
    rcases List.mem_cons.1 hx with rfl | hx
    · exact h _ _ _ hy
    · exact ih _ _ x hx

theorem lines_noSl {l : List NodeT} (h : MayV l) (hl : l.length ≤ 90) : ∀ x ∈ linesP l, NoSl x.2.2.1 := by
  refine show_in l _ (fun p d x hx => ?_) _ _ _
  obtain ⟨j, hj, e⟩ := childF_names _ _ _ _ x hx
  have hk := kidsP_len l p l.length
  rw [e]
  have hd := dist_noSl ((kidsP l p l.length).map (fun x => x.2.2.1)) (by rw [List.length_map]; omega) (fun s hs => by
    obtain ⟨y, hy, rfl⟩ := List.mem_map.1 hs
    obtain ⟨i, hi, rfl⟩ := kidsP_mem l p _ y hy
    exact name_noSl (h.2.1 i hi).2.2.1) (kidsP l p l.length).length (by rw [List.length_map]; exact Nat.le_refl _)
  refine hd _ ?_
  unfold strL
  rw [List.getD_eq_getElem?_getD, List.getElem?_eq_getElem (by rw [distF_length]; exact hj)]
  exact List.getElem_mem _

theorem place_mem (R : List LineT) : ∀ k, k ≤ R.length → ∀ s ∈ placeF R k, ∃ x ∈ R, s = x.2.2.1 := by
  intro k
  induction k with
  | zero => intro _ s hs; cases hs
  | succ k ih =>
    intro hk s hs
    have hs : s ∈ (placeF R k).take (lL R k).1.toNat ++ [(lL R k).2.2.1] := hs
    rcases List.mem_append.1 hs with hs | hs
    · exact ih (by omega) s (List.mem_of_mem_take hs)
    · refine ⟨lL R k, lL_mem R k (by omega), by simpa using hs⟩

theorem index_miss : ∀ s : List UInt8, 47 ∉ s → Lib.index s [47] = -1
  | [], _ => rfl
  | b :: l, h => by
    have hb : ¬ (47 = b) := fun e => h (by rw [e]; exact List.mem_cons_self ..)
    have ih := index_miss l (fun e => h (List.mem_cons_of_mem _ e))
    unfold Lib.index
    rw [ih]
    simp [List.isPrefixOf, hb]
theorem index_hit : ∀ (s t : List UInt8), 47 ∉ s → Lib.index (s ++ 47 :: t) [47] = s.length
  | [], t, _ => by simp [Lib.index, List.isPrefixOf]
  | b :: l, t, h => by
    have hb : ¬ (47 = b) := fun e => h (by rw [e]; exact List.mem_cons_self ..)
    have ih := index_hit l t (fun e => h (List.mem_cons_of_mem _ e))
    show Lib.index (b :: (l ++ 47 :: t)) [47] = _
    unfold Lib.index
    rw [ih]
    have : ¬ ((l.length : Int) = -1) := by omega
    simp [List.isPrefixOf, hb, this]
theorem split_at (s : List UInt8) : 47 ∉ s ∨ ∃ a b, s = a ++ 47 :: b ∧ 47 ∉ a := by
  induction s with
  | nil => exact .inl (by simp)
  | cons c s ih =>
    by_cases hc : c = 47
    · exact .inr ⟨[], s, by rw [hc]; rfl, by simp⟩
    · rcases ih with h | ⟨a, b, e, h⟩
      · refine .inl (fun hm => ?_)
        rcases List.mem_cons.1 hm with e | e
        · exact hc e.symm
        · exact h e
      · refine .inr ⟨c :: a, b, by rw [e]; rfl, fun hm => ?_⟩
        rcases List.mem_cons.1 hm with e | e
        · exact hc e.symm
        · exact h e

theorem splitK_miss (k : Nat) (s : List UInt8) (h : 47 ∉ s) : Lib.splitK [47] 0 k s = [s] := by
  cases k with
  | zero => rfl
  | succ k => unfold Lib.splitK; rw [index_miss s h]; rfl
theorem splitK_hit (k : Nat) (a b : List UInt8) (h : 47 ∉ a) : Lib.splitK [47] 0 (k + 1) (a ++ 47 :: b) = a :: Lib.splitK [47] 0 k b := by
  have e1 : (a ++ 47 :: b).take ((a.length : Int).toNat + 0) = a := by simp
  have e2 : (a ++ 47 :: b).drop ((a.length : Int).toNat + [(47 : UInt8)].length) = b := by
    rw [Int.toNat_natCast, List.drop_append]
    simp
  have : ¬ (((a.length : Int) == -1) = true) := by rw [beq_iff_eq]; omega
  rw [Lib.splitK, index_hit a b h, if_neg this, e1, e2]
theorem splitK_some (k : Nat) (s : List UInt8) : ∃ x r, Lib.splitK [47] 0 k s = x :: r := by
  cases k with
  | zero => exact ⟨s, [], rfl⟩
  | succ k =>
    rcases split_at s with h | ⟨a, b, e, h⟩
    · exact ⟨_, _, splitK_miss _ s h⟩
    · rw [e]; exact ⟨_, _, splitK_hit k a b h⟩
theorem join_split (k : Nat) : ∀ s : List UInt8, Lib.join (Lib.splitK [47] 0 k s) [47] = s := by
  induction k with
  | zero => intro s; exact Lib.join_one s _
  | succ k ih =>
    intro s
    rcases split_at s with h | ⟨a, b, e, h⟩
    · rw [splitK_miss _ s h]; exact Lib.join_one s _
    · rw [e, splitK_hit k a b h]
      obtain ⟨x, r, hx⟩ := splitK_some k b
      have := ih b
      rw [hx] at this ⊢
      rw [join_two, this]
theorem split_join : ∀ (P : List (List UInt8)) (k : Nat), P ≠ [] → (∀ s ∈ P, 47 ∉ s) → P.length ≤ k + 1 → Lib.splitK [47] 0 k (Lib.join P [47]) = P
  | [], _, h, _, _ => absurd rfl h
  | [x], k, _, h, _ => by rw [Lib.join_one]; exact splitK_miss k x (h x (by simp))
  | x :: y :: r, k, _, h, hk => by
    cases k with
    | zero => simp at hk
    | succ k =>
      rw [join_two, splitK_hit k _ _ (h x (by simp)), split_join (y :: r) k (by simp) (fun s hs => h s (List.mem_cons_of_mem _ hs)) (by simp at hk ⊢; omega)]
theorem join_long : ∀ P : List (List UInt8), P.length ≤ (Lib.join P [47]).length + 1
  | [] => by simp
  | [x] => by simp
  | x :: y :: r => by
    have := join_long (y :: r)
    rw [join_two]
    simp at this ⊢
    omega

theorem datas_inj : ∀ {A B : List ByteArray}, A.map (·.data.toList) = B.map (·.data.toList) → A = B := by
  intro A
  induction A with
  | nil => intro B h; cases B with | nil => rfl | cons => cases h
  | cons a A ih =>
    intro B h
    cases B with
    | nil => cases h
    | cons b B =>
      rw [List.map_cons, List.map_cons] at h
      injection h with h1 h2
      rw [bytes_ext h1, ih h2]

/-- A path is split into a place just where it is that place's. -/
theorem place_split (s : ByteArray) (P : List ByteArray) (h0 : P ≠ []) (h1 : ∀ x ∈ P, NoSl x) (h2 : P.length ≤ 100) : Lib.splitB ⟨#[47]⟩ 0 (min 513 (s.size + 1) - 1) s = P ↔ joinB P = s := by
  have hd := Lib.splitB_data ⟨#[47]⟩ 0 (min 513 (s.size + 1) - 1) s
  constructor
  · intro h
    rw [h] at hd
    apply bytes_ext
    show Lib.join (P.map (·.data.toList)) [47] = _
    rw [hd]
    exact join_split _ _
  · intro h
    subst h
    refine datas_inj (hd.trans ?_)
    have hl := join_long (P.map (·.data.toList))
    rw [List.length_map] at hl
    have hz : (joinB P).size = (Lib.join (P.map (·.data.toList)) [47]).length := by unfold joinB ByteArray.size; simp
    refine split_join (P.map (·.data.toList)) (min 513 ((joinB P).size + 1) - 1) (by simpa using h0) (fun x hx => ?_) (by rw [List.length_map]; omega)
    obtain ⟨y, hy, rfl⟩ := List.mem_map.1 hx
    exact noSl_mem (h1 y hy)
end Go.Proofs.YtebnmghjdoblaaaGreatDoor

/- Lines stand in order; no two have one place (layer 12, plain). -/
namespace Go.Proofs.YtebnmghjdoblaaaGreatDoor
set_option linter.unusedSimpArgs false

theorem lL_left {A B : List LineT} {k : Nat} (h : k < A.length) : lL (A ++ B) k = lL A k := by
  unfold lL
  rw [List.getD_eq_getElem?_getD, List.getD_eq_getElem?_getD, List.getElem?_append_left h]
theorem lL_right {A B : List LineT} (k : Nat) : lL (A ++ B) (A.length + k) = lL B k := by
  unfold lL
  rw [List.getD_eq_getElem?_getD, List.getD_eq_getElem?_getD, List.getElem?_append_right (by omega), Nat.add_sub_cancel_left]

/-- Of lines of one depth, with none above them between, the names rise. -/
def OrdAt (R : List LineT) : Prop := ∀ k i, k < i → i < R.length → (∀ j, k ≤ j → j < i → (lL R i).1 ≤ (lL R j).1) → (lL R k).1 = (lL R i).1 → ltT (lL R k).2.2.1 (lL R i).2.2.1 = true

theorem flat_head {f : LineT → List LineT} {d : Int} : ∀ {C : List LineT}, (∀ x ∈ C, ∀ z ∈ f x, d + 1 ≤ z.1) → ∀ z ∈ C.flatMap (fun x => x :: f x), z.1 = d → z ∈ C := by
  intro C h z hz e
  rw [List.mem_flatMap] at hz
  obtain ⟨x, hx, hz⟩ := hz
  rcases List.mem_cons.1 hz with rfl | hz
  · exact hx
  · have := h x hx z hz; omega

theorem ord_flat {f : LineT → List LineT} {d : Int} : ∀ {C : List LineT}, (∀ x ∈ C, x.1 = d) → (∀ x ∈ C, (∀ z ∈ f x, d + 1 ≤ z.1) ∧ OrdAt (f x)) → SortL C → OrdAt (C.flatMap (fun x => x :: f x)) := by
  intro C
  induction C with
  | nil => intro _ _ _ k i _ hi; simp at hi
  | cons x C ih =>
    intro hd hf hs
    obtain ⟨hs1, hs2⟩ := List.pairwise_cons.1 hs
    have ihC := ih (fun y hy => hd y (List.mem_cons_of_mem _ hy)) (fun y hy => hf y (List.mem_cons_of_mem _ hy)) hs2
    obtain ⟨hfx, hox⟩ := hf x (List.mem_cons_self ..)
    have hdx := hd x (List.mem_cons_self ..)
    have hge : ∀ z ∈ C.flatMap (fun x => x :: f x), d ≤ z.1 := fun z hz => by
      rw [List.mem_flatMap] at hz
      obtain ⟨y, hy, hz⟩ := hz
      rcases List.mem_cons.1 hz with rfl | hz
      · have := hd z (List.mem_cons_of_mem _ hy); omega
      · have := (hf y (List.mem_cons_of_mem _ hy)).1 z hz; omega
    have hhead : 0 < (C.flatMap (fun x => x :: f x)).length → (lL (C.flatMap (fun x => x :: f x)) 0).1 = d := fun h => by
      cases C with
      | nil => simp at h
      | cons y C => rw [List.flatMap_cons]; show (lL (y :: (f y ++ _)) 0).1 = d; rw [lL_zero]; exact hd y (by simp)
    have hfl := flat_head (f := f) (d := d) (C := C) (fun y hy => (hf y (List.mem_cons_of_mem _ hy)).1)
    rw [List.flatMap_cons]
    generalize C.flatMap (fun x => x :: f x) = R' at *
    generalize f x = S at *
    intro k i hki hi hbt heq
    have hlen : (x :: S).length = S.length + 1 := rfl
    rw [List.length_append, hlen] at hi
    have sMem : ∀ m, m < S.length → (lL S m) ∈ S := fun m hm => lL_mem S m hm
    by_cases hiS : i < S.length + 1
    · rw [lL_left (k := i) (by rw [hlen]; exact hiS), lL_left (k := k) (by rw [hlen]; omega)] at heq ⊢
      obtain ⟨i', rfl⟩ : ∃ i', i = i' + 1 := ⟨i - 1, by omega⟩
      cases k with
      | zero =>
        rw [lL_zero, lL_cons] at heq
        have := hfx _ (sMem i' (by omega))
        omega
      | succ k =>
        rw [lL_cons, lL_cons] at heq ⊢
        refine hox k i' (by omega) (by omega) (fun j h1 h2 => ?_) heq
        have := hbt (j + 1) (by omega) (by omega)
        rw [lL_left (by rw [hlen]; omega), lL_left (by rw [hlen]; omega), lL_cons, lL_cons] at this
        exact this
    · obtain ⟨i', rfl⟩ : ∃ i', i = (x :: S).length + i' := ⟨i - (S.length + 1), by rw [hlen]; omega⟩
      by_cases hkS : k < S.length + 1
      · rw [lL_right] at heq ⊢
        rw [lL_left (by rw [hlen]; exact hkS)] at heq ⊢
        have hi' : i' < R'.length := by rw [hlen] at hi; omega
        have hge' := hge _ (lL_mem R' i' hi')
        have hle : (lL R' i').1 ≤ d := by
          cases i' with
          | zero => have := hhead hi'; omega
          | succ i' =>
            have := hbt ((x :: S).length + 0) (by rw [hlen]; omega) (by omega)
            rw [lL_right, lL_right, hhead (by omega)] at this
            exact this
        have hik : (lL R' i').1 = d := by omega
        have hmem := hfl _ (lL_mem R' i' hi') hik
        cases k with
        | zero => rw [lL_zero]; exact hs1 _ hmem
        | succ k =>
          rw [lL_cons] at heq
          have := hfx _ (sMem k (by omega))
          omega
      · obtain ⟨k', rfl⟩ : ∃ k', k = (x :: S).length + k' := ⟨k - (S.length + 1), by rw [hlen]; omega⟩
        rw [lL_right, lL_right] at heq ⊢
        refine ihC k' i' (by omega) (by rw [hlen] at hi; omega) (fun j h1 h2 => ?_) heq
        have := hbt ((x :: S).length + j) (by omega) (by omega)
        rw [lL_right, lL_right] at this
        exact this

theorem show_ord (l : List NodeT) (hl : l.length ≤ 90) : ∀ (f : Nat) (p : Int × Int) (d : Int), OrdAt (showP l f p d) := by
  intro f
  induction f with
  | zero => intro p d k i _ hi; simp [showP] at hi
  | succ f ih =>
    intro p d
    have hd : ∀ x ∈ childP l p d, x.1 = d := fun x hx => childF_deep _ _ _ _ _ hx
    refine ord_flat (f := fun x => showP l f x.2.1 (x.1 + 1)) (d := d) hd (fun x hx => ⟨fun z hz => ?_, ih _ _⟩) (childP_sort l p d (Nat.le_trans (kidsP_len _ _ _) hl))
    have h1 := show_deep l f _ _ z hz
    have h2 := hd x hx
    omega

/-- The line at depth e on the way down to line j. -/
theorem place_at {R : List LineT} (h : StepsL 0 R) : ∀ j, j < R.length → ∀ e : Nat, (e : Int) ≤ (lL R j).1 → ∃ a, a ≤ j ∧ (lL R a).1 = (e : Int) ∧ (∀ m, a < m → m ≤ j → (e : Int) < (lL R m).1) ∧ (placeF R (j + 1))[e]? = some (lL R a).2.2.1 := by
  intro j
  induction j with
  | zero =>
    intro hj e he
    have h0 := steps_at R 0 h 0 hj
    rw [if_pos rfl] at h0
    have hz : (lL R 0).1 = 0 := by omega
    have e0 : e = 0 := by omega
    subst e0
    refine ⟨0, Nat.le_refl _, by rw [hz]; rfl, fun m h1 h2 => by omega, ?_⟩
    show ((placeF R 0).take (lL R 0).1.toNat ++ [(lL R 0).2.2.1])[0]? = _
    rw [hz]; rfl
  | succ j ih =>
    intro hj e he
    have h0 := steps_at R 0 h (j + 1) hj
    rw [if_neg (by omega), show j + 1 - 1 = j by omega] at h0
    obtain ⟨p1, p2⟩ := place_len h (j + 1) hj
    obtain ⟨q1, q2⟩ := place_len h j (by omega)
    have eP : placeF R (j + 1 + 1) = (placeF R (j + 1)).take (lL R (j + 1)).1.toNat ++ [(lL R (j + 1)).2.2.1] := rfl
    by_cases hlt : (e : Int) < (lL R (j + 1)).1
    · obtain ⟨a, h1, h2, h3, h4⟩ := ih (by omega) e (by omega)
      refine ⟨a, by omega, h2, fun m m1 m2 => ?_, ?_⟩
      · by_cases e2 : m = j + 1
        · rw [e2]; exact hlt
        · exact h3 m m1 (by omega)
      · rw [eP, List.getElem?_append_left (by rw [List.length_take]; omega), List.getElem?_take_of_lt (by omega)]
        exact h4
    · have hee : (lL R (j + 1)).1 = (e : Int) := by omega
      refine ⟨j + 1, Nat.le_refl _, hee, fun m m1 m2 => by omega, ?_⟩
      rw [eP, hee, Int.toNat_natCast, List.getElem?_append_right (by rw [List.length_take]; omega), List.length_take]
      have : e - min e (placeF R (j + 1)).length = 0 := by rw [hee, Int.toNat_natCast] at p1; omega
      rw [this]; rfl

/-- The least depth behind j, up to i, and the last line that has it. -/
theorem least_last (R : List LineT) (j : Nat) : ∀ i, j < i → ∃ m, j < m ∧ m ≤ i ∧ ∀ x, j < x → x ≤ i → (lL R m).1 ≤ (lL R x).1 ∧ (m < x → (lL R m).1 < (lL R x).1) := by
  intro i
  induction i with
  | zero => intro h; omega
  | succ i ih =>
    intro h
    by_cases e : j = i
    · refine ⟨i + 1, by omega, Nat.le_refl _, fun x h1 h2 => ?_⟩
      obtain rfl : x = i + 1 := by omega
      exact ⟨Int.le_refl _, fun h => by omega⟩
    · obtain ⟨m, h1, h2, h3⟩ := ih (by omega)
      by_cases hle : (lL R (i + 1)).1 ≤ (lL R m).1
      · refine ⟨i + 1, by omega, Nat.le_refl _, fun x x1 x2 => ?_⟩
        by_cases ex : x = i + 1
        · subst ex; exact ⟨Int.le_refl _, fun h => by omega⟩
        · have := (h3 x x1 (by omega)).1
          exact ⟨by omega, fun h => by omega⟩
      · refine ⟨m, h1, by omega, fun x x1 x2 => ?_⟩
        by_cases ex : x = i + 1
        · subst ex; exact ⟨by omega, fun _ => by omega⟩
        · exact h3 x x1 (by omega)

theorem place_inj {R : List LineT} (h : StepsL 0 R) (ho : OrdAt R) {i j : Nat} (hji : j < i) (hi : i < R.length) : placeF R (j + 1) ≠ placeF R (i + 1) := by
  intro e
  have hl1 := (place_len h j (by omega)).2
  have hl2 := (place_len h i hi).2
  have d1 := (steps_at R 0 h j (by omega)).1
  have d2 := (steps_at R 0 h i hi).1
  have hdd : (lL R j).1 = (lL R i).1 := by
    have : (placeF R (j + 1)).length = (placeF R (i + 1)).length := by rw [e]
    omega
  obtain ⟨m, m1, m2, m3⟩ := least_last R j i hji
  have hm0 := (steps_at R 0 h m (by omega)).1
  obtain ⟨E, hE⟩ : ∃ E : Nat, (lL R m).1 = (E : Int) := ⟨(lL R m).1.toNat, by omega⟩
  have hEi : (E : Int) ≤ (lL R i).1 := by have := (m3 i hji (Nat.le_refl _)).1; omega
  obtain ⟨a, a1, a2, a3, a4⟩ := place_at h j (by omega) E (by omega)
  obtain ⟨b, b1, b2, b3, b4⟩ := place_at h i hi E hEi
  have hbm : b = m := by
    by_cases hlt : b < m
    · have := b3 m hlt m2; omega
    · by_cases hgt : m < b
      · have := (m3 b (by omega) b1).2 hgt; omega
      · omega
  subst hbm
  have hlt := ho a b (by omega) (by omega) (fun x x1 x2 => by
    by_cases hx : x ≤ j
    · by_cases hxa : x = a
      · rw [hxa]; omega
      · have := a3 x (by omega) hx; omega
    · exact (m3 x (by omega) (by omega)).1) (by omega)
  rw [e, b4] at a4
  have := Option.some.inj a4
  rw [this, ltT_self] at hlt
  cases hlt
end Go.Proofs.YtebnmghjdoblaaaGreatDoor
