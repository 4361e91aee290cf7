/- Layer 11 on plain data: what it is to do an operation, by look-ups alone. -/
import Derived.Test.YtaomhhooipfjbaaDoorTrF
namespace Go.Proofs.YtaomhhooipfjbaaDoor
open Go.RowKit
set_option linter.unusedSimpArgs false

theorem find_none {l : List NodeT} {id : Int × Int} : findI l id < 0 ↔ look l id = none := by
  rw [look_none]
  refine ⟨findI_no, fun h => ?_⟩
  by_cases e : findI l id < 0
  · exact e
  · obtain ⟨h1, h2⟩ := findI_is e
    exact absurd h2 (h _ h1)

theorem find_look {l : List NodeT} (hs : SortN l) {id : Int × Int} {x : NodeT} (h : look l id = some x) : ¬ findI l id < 0 ∧ nL l (findI l id).toNat = x := by
  have hn : ¬ findI l id < 0 := fun e => by rw [find_none.1 e] at h; cases h
  obtain ⟨h1, h2⟩ := findI_is hn
  obtain ⟨k1, k2⟩ := look_mem h
  exact ⟨hn, sortN_uniq hs h1 k1 (h2.trans k2.symm)⟩

/-- Is a stamp that of a parent, among nodes? -/
def holdB (l : List NodeT) (p : Int × Int) : Bool := (look l p).isSome || (decide (p = (0, 0)) || decide (p = (0, 1)))

theorem hold_there {l : List NodeT} {p : Int × Int} (hp : ParS p) : thereP l p = holdB l p := by
  unfold thereP holdB
  by_cases h0 : p.1 = 0
  · rw [if_pos h0]
    rcases hp with h | ⟨_, h⟩
    · have := h.1; omega
    · obtain ⟨a, b⟩ := p
      simp only at h0 h
      rcases h with rfl | rfl <;> simp [h0]
  · rw [if_neg h0]
    have e1 : ¬ p = (0, 0) := fun e => h0 (by rw [e])
    have e2 : ¬ p = (0, 1) := fun e => h0 (by rw [e])
    rw [decide_eq_false e1, decide_eq_false e2, Bool.or_false, Bool.or_false]
    cases h : look l p with
    | none => rw [decide_eq_false (by have := find_none.2 h; omega)]; rfl
    | some x =>
      have : ¬ findI l p < 0 := fun e => by rw [find_none.1 e] at h; cases h
      rw [decide_eq_true (by omega)]; rfl

/-- Is a stamp a node's, or below it, in so many steps? -/
def withinF (l : List NodeT) (id : Int × Int) : Nat → (Int × Int) → Bool
  | 0, _ => false
  | f + 1, p => if p = id then true else match look l p with
    | none => false
    | some n => withinF l id f n.2.1

def Lead (l : List NodeT) : Nat → Int × Int → Int × Int → Prop
  | 0, p, q => p = q
  | f + 1, p, q => ∃ x ∈ l, x.1 = p ∧ Lead l f x.2.1 q

theorem underF_no {l : List NodeT} {id p : Int × Int} {f : Nat} (e : p ≠ id) (h : look l p = none) : underF l id (f + 1) p = false := by
  show (if p = id then true else if findI l p < 0 then false else _) = _
  rw [if_neg e, if_pos (find_none.2 h)]

theorem underF_on {l : List NodeT} (hs : SortN l) {id p : Int × Int} {x : NodeT} {f : Nat} (e : p ≠ id) (h : look l p = some x) : underF l id (f + 1) p = underF l id f x.2.1 := by
  obtain ⟨h1, h2⟩ := find_look hs h
  show (if p = id then true else if findI l p < 0 then false else underF l id f (nL l (findI l p).toNat).2.1) = _
  rw [if_neg e, if_neg h1, h2]

theorem withinF_no {l : List NodeT} {id p : Int × Int} {f : Nat} (e : p ≠ id) (h : look l p = none) : withinF l id (f + 1) p = false := by
  unfold withinF; rw [if_neg e, h]

theorem withinF_on {l : List NodeT} {id p : Int × Int} {x : NodeT} {f : Nat} (e : p ≠ id) (h : look l p = some x) : withinF l id (f + 1) p = withinF l id f x.2.1 := by
  show (if p = id then true else match look l p with | none => false | some n => withinF l id f n.2.1) = _
  rw [if_neg e, h]

theorem within_yes {l : List NodeT} (hs : SortN l) {id : Int × Int} : ∀ (f : Nat) (p : Int × Int), withinF l id f p = true → ∀ g, underF l id (f + g) p = true := by
  intro f
  induction f with
  | zero => intro p h; cases h
  | succ f ih =>
    intro p h g
    rw [show f + 1 + g = (f + g) + 1 by omega]
    by_cases e : p = id
    · unfold underF; rw [if_pos e]
    · cases hl : look l p with
      | none => rw [withinF_no e hl] at h; cases h
      | some x => rw [withinF_on e hl] at h; rw [underF_on hs e hl]; exact ih _ h g

theorem within_no {l : List NodeT} (hs : SortN l) {id : Int × Int} : ∀ (f : Nat) (p : Int × Int), withinF l id f p = false → (∀ g, underF l id (f + g) p = false) ∨ ∃ q, Lead l f p q ∧ ∀ g, underF l id (f + g) p = underF l id g q := by
  intro f
  induction f with
  | zero => intro p _; exact .inr ⟨p, rfl, fun g => by rw [Nat.zero_add]⟩
  | succ f ih =>
    intro p h
    by_cases e : p = id
    · unfold withinF at h; rw [if_pos e] at h; cases h
    · cases hl : look l p with
      | none => exact .inl (fun g => by rw [show f + 1 + g = (f + g) + 1 by omega]; exact underF_no e hl)
      | some x =>
        rw [withinF_on e hl] at h
        obtain ⟨h1, h2⟩ := look_mem hl
        rcases ih _ h with k | ⟨q, k1, k2⟩
        · exact .inl (fun g => by rw [show f + 1 + g = (f + g) + 1 by omega, underF_on hs e hl]; exact k g)
        · exact .inr ⟨q, ⟨x, h1, h2, k1⟩, fun g => by rw [show f + 1 + g = (f + g) + 1 by omega, underF_on hs e hl]; exact k2 g⟩

theorem lead_up {l : List NodeT} {x y : NodeT} {q : Int × Int} (hy : y ∈ l) (e : y.1 = q) : ∀ (f k : Nat) (z : NodeT), Up l x k z → Lead l f z.2.1 q → Up l x (k + f + 1) y := by
  intro f
  induction f with
  | zero => intro k z hu hl; exact ⟨z, hu, hy, by have : z.2.1 = q := hl; rw [e, this]⟩
  | succ f ih =>
    intro k z hu hl
    obtain ⟨x', h1, h2, h3⟩ := hl
    have := ih (k + 1) x' ⟨z, hu, h1, h2⟩ h3
    rw [show k + 1 + f + 1 = k + (f + 1) + 1 by omega] at this
    exact this

theorem within_under {l : List NodeT} (h : Rooted l) {id : Int × Int} (hid : ∃ y ∈ l, y.1 = id) (p : Int × Int) : withinF l id l.length p = underF l id (l.length + 1) p := by
  cases hw : withinF l id l.length p with
  | true => exact (within_yes h.sort _ _ hw 1).symm
  | false =>
    rcases within_no h.sort _ _ hw with k | ⟨q, k1, k2⟩
    · exact (k 1).symm
    · rw [k2 1]
      cases hu : underF l id 1 q with
      | false => rfl
      | true =>
        exfalso
        obtain ⟨y, hy, e⟩ : ∃ y ∈ l, y.1 = q := by
          by_cases e : q = id
          · rw [e]; exact hid
          · cases hl : look l q with
            | none => rw [underF_no e hl] at hu; cases hu
            | some y => exact ⟨y, (look_mem hl).1, (look_mem hl).2⟩
        obtain ⟨n, hn⟩ : ∃ n, l.length = n + 1 := by
          cases hln : l.length with
          | zero => rw [List.length_eq_zero_iff.1 hln] at hy; exact absurd hy List.not_mem_nil
          | succ n => exact ⟨n, rfl⟩
        rw [hn] at k1
        obtain ⟨x, h1, _, h3⟩ := k1
        have := up_few h h1 (lead_up hy e n 0 x rfl h3)
        omega

/-- A node turned, if it is there. -/
def changeP (l : List NodeT) (id : Int × Int) (f : NodeT → NodeT) : List NodeT := match look l id with
  | none => l
  | some n => withR (f n) l

def moveP (l : List NodeT) (id p : Int × Int) : List NodeT := if (holdB l p && !withinF l id l.length p) = true then changeP l id (fun n => (n.1, p, n.2.2.1, n.2.2.2)) else l

def createP (l : List NodeT) (o : OpT) : List NodeT := if (look l o.2.2.1).isSome = true then l else if holdB l o.2.2.2.1 = true then withR (o.2.2.1, o.2.2.2.1, o.2.2.2.2.1, ⟨#[]⟩) l else l

/-- What it is to do an operation, as the code does it. -/
def doC (l : List NodeT) (o : OpT) : List NodeT :=
  if o.1 = 1 then createP l o else if o.1 = 2 then moveP l o.2.2.1 o.2.2.2.1 else if o.1 = 5 then moveP l o.2.2.1 (0, 1)
  else if o.1 = 3 then changeP l o.2.2.1 (fun n => (n.1, n.2.1, o.2.2.2.2.1, n.2.2.2)) else if o.1 = 4 then changeP l o.2.2.1 (fun n => (n.1, n.2.1, n.2.2.1, o.2.2.2.2.2)) else l

theorem changeP_is {l : List NodeT} (hs : SortN l) (id : Int × Int) (f : NodeT → NodeT) : changeP l id f = if findI l id < 0 then l else withP l (f (nL l (findI l id).toNat)) := by
  unfold changeP
  cases h : look l id with
  | none => rw [if_pos (find_none.2 h)]
  | some n =>
    obtain ⟨h1, h2⟩ := find_look hs h
    rw [if_neg h1, h2, withP_R]

theorem do_move {l : List NodeT} (h : Rooted l) {id p : Int × Int} (hp : ParS p) : moveP l id p = if findI l id < 0 then l else if thereP l p = true then (if underF l id (l.length + 1) p = true then l else withP l ((nL l (findI l id).toNat).1, p, (nL l (findI l id).toNat).2.2.1, (nL l (findI l id).toNat).2.2.2)) else l := by
  unfold moveP
  rw [hold_there hp, changeP_is h.sort]
  by_cases hf : findI l id < 0
  · rw [if_pos hf, if_pos hf]
    split <;> rfl
  · rw [if_neg hf, if_neg hf]
    obtain ⟨h1, h2⟩ := findI_is hf
    rw [within_under h ⟨_, h1, h2⟩ p]
    cases holdB l p <;> cases underF l id (l.length + 1) p <;> rfl

theorem doP_C {l : List NodeT} (h : Rooted l) {o : OpT} (hm : MayO o) : doP l o = doC l o := by
  obtain ⟨_, _, hk⟩ := hm
  unfold doP doC parO
  rcases hk with ⟨h1, _, hp, _⟩ | ⟨h1, hp, _⟩ | ⟨h1, _⟩ | ⟨h1, _⟩ | ⟨h1, _⟩
  · rw [if_pos h1, if_pos h1, if_neg (by omega : ¬ o.1 = 5), hold_there hp, withP_R]
    unfold createP
    cases hl : look l o.2.2.1 with
    | none => rw [if_neg (by have := find_none.2 hl; omega)]; rfl
    | some n =>
      have := (find_look h.sort hl).1
      rw [if_pos (by omega)]; rfl
  · rw [if_neg (by omega : ¬ o.1 = 1), if_neg (by omega : ¬ o.1 = 1), if_neg (by omega : ¬ o.1 = 5), if_neg (by omega : ¬ o.1 = 3), if_neg (by omega : ¬ o.1 = 4), if_pos h1, do_move h hp]
  · rw [if_neg (by omega : ¬ o.1 = 1), if_neg (by omega : ¬ o.1 = 1), if_pos h1, if_neg (by omega : ¬ o.1 = 2), if_neg (by omega : ¬ o.1 = 5), if_pos h1, changeP_is h.sort]
  · rw [if_neg (by omega : ¬ o.1 = 1), if_neg (by omega : ¬ o.1 = 1), if_neg (by omega : ¬ o.1 = 3), if_pos h1, if_neg (by omega : ¬ o.1 = 2), if_neg (by omega : ¬ o.1 = 5), if_neg (by omega : ¬ o.1 = 3), if_pos h1, changeP_is h.sort]
  · rw [if_neg (by omega : ¬ o.1 = 1), if_neg (by omega : ¬ o.1 = 1), if_neg (by omega : ¬ o.1 = 3), if_neg (by omega : ¬ o.1 = 4), if_pos h1, if_neg (by omega : ¬ o.1 = 2), if_pos h1, do_move h (.inr ⟨rfl, .inr rfl⟩)]

end Go.Proofs.YtaomhhooipfjbaaDoor
