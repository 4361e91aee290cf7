import Derived.Test.YtmfckdhincffkabDoorTX
import Derived.Test.YtmfckdhincffkabDoorT11
/- Layer 11 on plain data: of names and values the last stamp wins. -/
namespace Go.Proofs.YtmfckdhincffkabDoor
open Go.RowKit
set_option linter.unusedSimpArgs false

/-- The last operation of a kind: its stamp, and what it sets. -/
def lastK (k : Int) (f : OpT → ByteArray) (a : (Int × Int) × ByteArray) (l : List OpT) : (Int × Int) × ByteArray := l.foldl (fun a o => if o.1 = k then (o.2.1, f o) else a) a

theorem lastK_cons (k : Int) (f : OpT → ByteArray) (a : (Int × Int) × ByteArray) (x : OpT) (l : List OpT) : lastK k f a (x :: l) = lastK k f (if x.1 = k then (x.2.1, f x) else a) l := rfl

theorem lastK_is (k : Int) (f : OpT → ByteArray) (l : List OpT) : (∀ a, lastK k f a l = a) ∨ ∃ y ∈ l, y.1 = k ∧ ∀ a, lastK k f a l = (y.2.1, f y) := by
  induction l with
  | nil => exact .inl (fun _ => rfl)
  | cons x l ih =>
    rcases ih with h | ⟨y, hy, hk, h⟩
    · by_cases e : x.1 = k
      · exact .inr ⟨x, List.mem_cons_self .., e, fun a => by rw [lastK_cons, if_pos e]; exact h _⟩
      · exact .inl (fun a => by rw [lastK_cons, if_neg e]; exact h a)
    · exact .inr ⟨y, List.mem_cons_of_mem _ hy, hk, fun a => by rw [lastK_cons]; exact h _⟩

theorem lastK_other (k : Int) (f : OpT → ByteArray) (o : OpT) (ho : o.1 ≠ k) (l : List OpT) : ∀ a, lastK k f a (putO o l) = lastK k f a l := by
  induction l with
  | nil => intro a; show lastK k f a [o] = a; rw [lastK_cons, if_neg ho]; rfl
  | cons x l ih =>
    intro a
    rw [putO_cons]
    by_cases h : LessS o.2.1 x.2.1
    · rw [if_pos h, lastK_cons, if_neg ho]
    · rw [if_neg h, lastK_cons, lastK_cons, ih]

theorem lastK_put (k : Int) (f : OpT → ByteArray) (o : OpT) (ho : o.1 = k) (l : List OpT) (hs : SortO l) (hd : dupO o.2.1 l = false) : ∀ a : (Int × Int) × ByteArray, LessS a.1 o.2.1 → lastK k f a (putO o l) = if LessS (lastK k f a l).1 o.2.1 then (o.2.1, f o) else lastK k f a l := by
  induction l with
  | nil =>
    intro a ha
    show lastK k f a [o] = if LessS a.1 o.2.1 then _ else _
    rw [if_pos ha, lastK_cons, if_pos ho]; rfl
  | cons x l ih =>
    intro a ha
    unfold SortO at hs
    rw [List.pairwise_cons] at hs
    rw [dupO_cons, Bool.or_eq_false_iff] at hd
    have hne : x.2.1 ≠ o.2.1 := by simpa using hd.1
    rw [putO_cons]
    by_cases h : LessS o.2.1 x.2.1
    · rw [if_pos h, lastK_cons, if_pos ho]
      rcases lastK_is k f (x :: l) with e | ⟨y, hy, _, e⟩
      · rw [e, e, if_pos ha]
      · rw [e, e]
        have hoy : LessS o.2.1 y.2.1 := by
          rcases List.mem_cons.1 hy with rfl | hy
          · exact h
          · exact lessS_trans _ _ _ h (hs.1 y hy)
        rw [if_neg (lessS_not _ _ hoy)]
    · rw [if_neg h, lastK_cons, lastK_cons]
      refine ih hs.2 hd.2 _ ?_
      by_cases e : x.1 = k
      · rw [if_pos e]; exact lessS_or _ _ h (fun e2 => hne e2.symm)
      · rw [if_neg e]; exact ha

/-- One node, and operations that name it, or set its value. -/
theorem do_name (x : NodeT) (o : OpT) (h3 : o.1 = 3) (hn : o.2.2.1 = x.1) : doP [x] o = [(x.1, x.2.1, o.2.2.2.2.1, x.2.2.2)] := by
  have hf : findI [x] o.2.2.1 = 0 := by
    show findK [x] o.2.2.1 1 0 = 0
    unfold findK
    rw [if_pos (show (nL [x] 0).1 = o.2.2.1 from hn.symm)]; rfl
  unfold doP
  rw [hf, if_neg (by omega), if_neg (by omega), if_pos h3, withP_R]
  show withR (x.1, x.2.1, o.2.2.2.2.1, x.2.2.2) [x] = _
  rw [show withR (x.1, x.2.1, o.2.2.2.2.1, x.2.2.2) [x] = if LessS x.1 x.1 then _ else _ from rfl, if_neg (lessS_self _)]
  simp

theorem do_value (x : NodeT) (o : OpT) (h4 : o.1 = 4) (hn : o.2.2.1 = x.1) : doP [x] o = [(x.1, x.2.1, x.2.2.1, o.2.2.2.2.2)] := by
  have hf : findI [x] o.2.2.1 = 0 := by
    show findK [x] o.2.2.1 1 0 = 0
    unfold findK
    rw [if_pos (show (nL [x] 0).1 = o.2.2.1 from hn.symm)]; rfl
  unfold doP
  rw [hf, if_neg (by omega), if_neg (by omega), if_neg (by omega), if_pos h4, withP_R]
  show withR (x.1, x.2.1, x.2.2.1, o.2.2.2.2.2) [x] = _
  rw [show withR (x.1, x.2.1, x.2.2.1, o.2.2.2.2.2) [x] = if LessS x.1 x.1 then _ else _ from rfl, if_neg (lessS_self _)]
  simp

theorem nodes_last (l : List OpT) : ∀ (x : NodeT) (a b : Int × Int), (∀ o ∈ l, (o.1 = 3 ∨ o.1 = 4) ∧ o.2.2.1 = x.1) → nodesP [x] l = [(x.1, x.2.1, (lastK 3 (fun o => o.2.2.2.2.1) (a, x.2.2.1) l).2, (lastK 4 (fun o => o.2.2.2.2.2) (b, x.2.2.2) l).2)] := by
  induction l with
  | nil => intro x a b _; rfl
  | cons o l ih =>
    intro x a b h
    obtain ⟨hk, hn⟩ := h o (List.mem_cons_self ..)
    show nodesP (doP [x] o) l = _
    rw [lastK_cons, lastK_cons]
    rcases hk with hk | hk
    · rw [do_name x o hk hn, if_pos hk, if_neg (by omega)]
      exact ih (x.1, x.2.1, o.2.2.2.2.1, x.2.2.2) o.2.1 b (fun y hy => h y (List.mem_cons_of_mem _ hy))
    · rw [do_value x o hk hn, if_pos hk, if_neg (by omega)]
      exact ih (x.1, x.2.1, x.2.2.1, o.2.2.2.2.2) a o.2.1 (fun y hy => h y (List.mem_cons_of_mem _ hy))

end Go.Proofs.YtmfckdhincffkabDoor

/- Layer 11 on plain data: as many operations as may be; what is trashed. -/
namespace Go.Proofs.YtmfckdhincffkabDoor
open Go.RowKit
set_option linter.unusedSimpArgs false

/-- TreeFull's operations, one behind the other. -/
def fullO (b : Bool) (i : Int) : OpT := if b then (1, (i, 1), (i, 1), (0, 0), ⟨#[110]⟩, ⟨#[]⟩) else (4, (i, 1), (1, 1), (0, 0), ⟨#[]⟩, ⟨#[118]⟩)

theorem fullO_at (b : Bool) (i : Int) : (fullO b i).2.1 = (i, 1) := by cases b <;> rfl

def seqO (b : Bool) : Nat → List OpT
  | 0 => []
  | n + 1 => seqO b n ++ [fullO b ((n : Int) + 1)]

theorem seqO_len (b : Bool) (n : Nat) : (seqO b n).length = n := by
  induction n with
  | zero => rfl
  | succ n ih => show (seqO b n ++ [_]).length = _; rw [List.length_append, ih]; rfl

theorem seqO_oL (b : Bool) (n i : Nat) (h : i < n) : oL (seqO b n) i = fullO b ((i : Int) + 1) := by
  induction n with
  | zero => omega
  | succ n ih =>
    show oL (seqO b n ++ [_]) i = _
    unfold oL
    by_cases e : i < n
    · rw [List.getD_eq_getElem?_getD, List.getElem?_append_left (by rw [seqO_len]; exact e), ← List.getD_eq_getElem?_getD]
      exact ih e
    · have : i = n := by omega
      subst this
      rw [List.getD_eq_getElem?_getD, List.getElem?_append_right (by rw [seqO_len]; exact Nat.le_refl _), seqO_len, Nat.sub_self]
      rfl

theorem seqO_pos (b : Bool) (n : Nat) (s : Int × Int) (h : (n : Int) < s.1) : posO s (seqO b n) = n := by
  have := posO_all s (seqO b n) (fun i hi => by
    rw [seqO_len] at hi
    rw [seqO_oL b n i hi, fullO_at]
    intro hl
    have : s.1 < (i : Int) + 1 ∨ (s.1 = (i : Int) + 1 ∧ s.2 < 1) := hl
    omega)
  rw [seqO_len] at this; exact this

theorem seqO_dup (b : Bool) (n : Nat) (s : Int × Int) (h : (n : Int) < s.1) : dupO s (seqO b n) = false := by
  cases e : dupO s (seqO b n) with
  | false => rfl
  | true =>
    obtain ⟨x, hx, e2⟩ := (dupO_iff _ _).1 e
    obtain ⟨i, hi, rfl⟩ := List.getElem_of_mem hx
    have h1 : oL (seqO b n) i = (seqO b n)[i] := by unfold oL; rw [List.getD_eq_getElem?_getD, List.getElem?_eq_getElem hi]; rfl
    rw [seqO_len] at hi
    rw [← h1, seqO_oL b n i hi, fullO_at] at e2
    have : (i : Int) + 1 = s.1 := congrArg Prod.fst e2
    omega

theorem seqO_cre (b : Bool) (n : Nat) : creO (seqO b n) = if b = true then n else 0 := by
  induction n with
  | zero => cases b <;> rfl
  | succ n ih =>
    show creO (seqO b n ++ [_]) = _
    unfold creO at ih ⊢
    rw [List.countP_append, ih]
    cases b <;> simp [fullO]

theorem putO_last (o : OpT) (l : List OpT) (h : posO o.2.1 l = l.length) : putO o l = l ++ [o] := by
  unfold putO; rw [h, List.take_length, List.drop_length]

theorem full_apply (M : OpT → Bool) (b : Bool) (n : Nat) (hM : M (fullO b ((n : Int) + 1)) = true) :
    applyP M ([], seqO b n, (0, 0)) (fullO b ((n : Int) + 1)) = if 512 ≤ n then (([], seqO b n, (0, 0)), 2) else (([], seqO b (n + 1), (0, 0)), 0) := by
  have hat := fullO_at b ((n : Int) + 1)
  unfold applyP
  rw [if_neg (by
    rw [hM, hat]
    intro h
    rcases h with h | h
    · cases h
    · exact h (.inl (show (0 : Int) < (n : Int) + 1 by omega)))]
  rw [hat]
  show (if dupO ((n : Int) + 1, 1) (seqO b n) = true then _ else _) = _
  rw [seqO_dup b n _ (show (n : Int) < (n : Int) + 1 by omega), if_neg (by decide)]
  show (if 512 ≤ (seqO b n).length ∨ ((fullO b ((n : Int) + 1)).1 = 1 ∧ 512 ≤ ([] : List NodeT).length + creO (seqO b n)) then _ else _) = _
  rw [seqO_len, seqO_cre]
  by_cases h : 512 ≤ n
  · rw [if_pos (.inl h), if_pos h]
  · rw [if_neg h, if_neg (by
      intro hh
      rcases hh with hh | ⟨_, hh⟩
      · exact h hh
      · cases b
        · simp at hh
        · simp at hh; omega)]
    rw [putO_last _ _ (by rw [hat, seqO_pos b n _ (show (n : Int) < (n : Int) + 1 by omega), seqO_len])]
    rfl

theorem full_cut (b : Bool) (n : Nat) (h : 10 < n) : posO (10, 6) (seqO b n) = 10 := by
  refine posO_at (10, 6) (seqO b n) 10 (by rw [seqO_len]; exact h) (fun i hi => ?_) ?_
  · rw [seqO_oL b n i (by omega), fullO_at]
    intro hl
    have : (10 : Int) < (i : Int) + 1 ∨ ((10 : Int) = (i : Int) + 1 ∧ (6 : Int) < 1) := hl
    omega
  · rw [seqO_oL b n 10 h, fullO_at]
    exact .inl (by show (10 : Int) < ((10 : Nat) : Int) + 1; omega)

end Go.Proofs.YtmfckdhincffkabDoor

/- Layer 11 on plain data: operations that come in order; what is trashed is below the trash (TreeTrash). -/
namespace Go.Proofs.YtmfckdhincffkabDoor
open Go.RowKit
set_option linter.unusedSimpArgs false

/-- An operation behind all others is put at their end. -/
theorem apply_last (M : OpT → Bool) (t : TreeT) (o : OpT) (hM : M o = true) (hb : LessS t.2.2 o.2.1) (hl : ∀ x ∈ t.2.1, LessS x.2.1 o.2.1) (hn : t.1.length + t.2.1.length < 512) : applyP M t o = ((t.1, t.2.1 ++ [o], t.2.2), 0) := by
  rw [applyP_few M t o hn, if_neg (by rw [hM]; exact fun h => h.elim (fun h => by cases h) (fun h => h hb))]
  have hd : dupO o.2.1 t.2.1 = false := by
    cases e : dupO o.2.1 t.2.1 with
    | false => rfl
    | true =>
      obtain ⟨x, hx, e2⟩ := (dupO_iff _ _).1 e
      have := hl x hx
      rw [e2] at this
      exact absurd this (lessS_self _)
  rw [hd, if_neg (by decide), putO_last o t.2.1 (posO_all _ _ (fun i hi => by
    have e : oL t.2.1 i = t.2.1[i] := by unfold oL; rw [List.getD_eq_getElem?_getD, List.getElem?_eq_getElem hi]; rfl
    rw [e]
    exact lessS_not _ _ (hl _ (List.getElem_mem hi))))]

/-- TreeTrash's operations. -/
def chainO (i : Int) : OpT := (1, (i, 1), (i, 1), (if 1 < i then (i - 1, 1) else (0, 0)), ⟨#[110]⟩, ⟨#[]⟩)

def chainL : Nat → List OpT
  | 0 => []
  | n + 1 => chainL n ++ [chainO ((n : Int) + 1)]

def trashL (n : Nat) (k : Int) (back : Bool) : List OpT := chainL n ++ (5, (50, 2), (k, 1), (0, 0), ⟨#[]⟩, ⟨#[]⟩) :: (if back then [(2, (60, 1), (k, 1), (0, 0), ⟨#[]⟩, ⟨#[]⟩)] else [])

/-- Where parents lead. -/
def upW (L : List NodeT) : Nat → Int × Int → Option (Int × Int)
  | 0, p => some p
  | f + 1, p => if p.1 ≤ 0 then some p else match look L p with | none => none | some x => upW L f x.2.1

set_option maxRecDepth 100000 in
theorem trash_up : ∀ n : Fin 12, ∀ back : Bool, ∀ k : Fin 12, k ≤ n → ∀ i : Fin 12, i ≤ n → upW (nodesP [] (trashL (n.val + 1) ((k.val : Int) + 1) back)) (n.val + 2) ((i.val : Int) + 1, 1) = some (if k ≤ i ∧ back = false then (0, 1) else (0, 0)) := by
  decide +kernel

end Go.Proofs.YtmfckdhincffkabDoor

/- Layer 11 on plain data: TreeLast. -/
namespace Go.Proofs.YtmfckdhincffkabDoor
open Go.RowKit
set_option linter.unusedSimpArgs false

def laC : OpT := (1, (1, 1), (1, 1), (0, 0), ⟨#[102, 105, 114, 115, 116]⟩, ⟨#[]⟩)

abbrev fN (o : OpT) : ByteArray := o.2.2.2.2.1

abbrev fV (o : OpT) : ByteArray := o.2.2.2.2.2

theorem first_count : countR ⟨#[102, 105, 114, 115, 116]⟩ = 5 := by decide +kernel

theorem first_name : NameP ⟨#[102, 105, 114, 115, 116]⟩ := by
  refine ⟨⟨?_, ?_, by decide, by decide +kernel, by decide +kernel⟩, fun k hk => ?_, by rw [first_count]; decide⟩
  · rw [toList_data]; decide
  · rw [toList_data]; decide
  · rw [first_count] at hk
    unfold goodX
    match k, hk with
    | 0, _ => decide +kernel
    | 1, _ => decide +kernel
    | 2, _ => decide +kernel
    | 3, _ => decide +kernel
    | 4, _ => decide +kernel

def letB (k : Nat) : ByteArray := ⟨#[UInt8.ofNat (97 + k)]⟩

theorem let_count : ∀ k : Fin 24, countR (letB k.val) = 1 := by decide +kernel

theorem let_one : ∀ k : Fin 24, (letB k.val).size ≤ 1048576 ∧ ¬ (letB k.val).data.toList = [] ∧ ¬ (letB k.val).data.toList = [46] ∧ ¬ (letB k.val).data.toList = [46, 46] := by decide +kernel

theorem let_good : ∀ k : Fin 24, goodX (runeAt (letB k.val) (posR (letB k.val) 0)) := by
  unfold goodX
  decide +kernel

theorem laC_may : MayO laC := ⟨by decide, by decide, .inl ⟨rfl, rfl, by decide, first_name, rfl⟩⟩

theorem la_begin (M : OpT → Bool) (hM : ∀ o, M o = true ↔ MayO o) : applyP M ([], [], (0, 0)) laC = (([], [laC], (0, 0)), 0) := by
  rw [ap_ok M _ _ ((hM _).2 laC_may) (by decide) (by decide) (by decide)]
  rfl

/-- What stands behind names and values that came. -/
structure LastS (n : Nat) (T : TreeT) (nm vl : (Int × Int) × ByteArray) : Prop where
  ex : ∃ rest, T = ([], laC :: rest, (0, 0)) ∧ SortO (laC :: rest) ∧ (∀ o ∈ rest, (o.1 = 3 ∨ o.1 = 4) ∧ o.2.2.1 = (1, 1)) ∧ nm = lastK 3 fN ((1, 1), ⟨#[102, 105, 114, 115, 116]⟩) rest ∧ vl = lastK 4 fV ((1, 1), ⟨#[]⟩) rest ∧ rest.length ≤ n

theorem LastS.more {n : Nat} {T : TreeT} {nm vl : (Int × Int) × ByteArray} (h : LastS n T nm vl) : LastS (n + 1) T nm vl := by
  obtain ⟨rest, h1, h2, h3, h4, h5, h6⟩ := h.ex
  exact ⟨rest, h1, h2, h3, h4, h5, by omega⟩

theorem LastS.few {n : Nat} {T : TreeT} {nm vl : (Int × Int) × ByteArray} (h : LastS n T nm vl) : T.1.length + T.2.1.length ≤ n + 1 := by
  obtain ⟨rest, rfl, h2, h3, h4, h5, h6⟩ := h.ex
  simp only [List.length_nil, List.length_cons]; omega

theorem last_nil : LastS 0 ([], [laC], (0, 0)) ((1, 1), ⟨#[102, 105, 114, 115, 116]⟩) ((1, 1), ⟨#[]⟩) :=
  ⟨[], rfl, List.pairwise_singleton _ _, fun _ h => absurd h List.not_mem_nil, rfl, rfl, Nat.le_refl _⟩

theorem LastS.next {M : OpT → Bool} {n : Nat} {T : TreeT} {nm vl : (Int × Int) × ByteArray} (h : LastS n T nm vl) (hn : n < 400) (o : OpT) (hk : o.1 = 3 ∨ o.1 = 4) (ho : o.2.2.1 = (1, 1)) (hm : M o = true) (hl : LessS (1, 1) o.2.1) :
    (applyP M T o).2 = 0 ∧ (((applyP M T o).1 = T) ∨ ((applyP M T o).1.2.1.length = T.2.1.length + 1 ∧ LastS (n + 1) (applyP M T o).1 (if o.1 = 3 ∧ LessS nm.1 o.2.1 then (o.2.1, fN o) else nm) (if o.1 = 4 ∧ LessS vl.1 o.2.1 then (o.2.1, fV o) else vl))) := by
  obtain ⟨rest, rfl, h2, h3, h4, h5, h6⟩ := h.ex
  have h0 : LessS ((0 : Int), (0 : Int)) o.2.1 := lessS_trans _ _ _ (by decide : LessS (0, 0) (1, 1)) hl
  rw [applyP_few M _ o (by simp only [List.length_nil, List.length_cons]; omega), if_neg (fun hh => hh.elim (fun e => by rw [hm] at e; cases e) (fun e => e h0))]
  have hne : ¬ laC.2.1 = o.2.1 := fun e => by rw [← e] at hl; exact lessS_self _ hl
  have hd : dupO o.2.1 (laC :: rest) = dupO o.2.1 rest := by rw [dupO_cons, decide_eq_false hne, Bool.false_or]
  by_cases hdd : dupO o.2.1 (laC :: rest) = true
  · rw [if_pos hdd]; exact ⟨rfl, .inl rfl⟩
  · rw [if_neg hdd]
    have hdr : dupO o.2.1 rest = false := by rw [hd] at hdd; simpa using hdd
    have hs := (List.pairwise_cons.1 h2).2
    have hp : putO o (laC :: rest) = laC :: putO o rest := by rw [putO_cons, if_neg (show ¬ LessS o.2.1 laC.2.1 from lessS_not _ _ hl)]
    refine ⟨rfl, .inr ⟨?_, putO o rest, ?_, ?_, fun x hx => ?_, ?_, ?_, ?_⟩⟩
    · show (putO o (laC :: rest)).length = (laC :: rest).length + 1
      have := posO_le o.2.1 (laC :: rest)
      unfold putO
      rw [List.length_append, List.length_cons, List.length_take, List.length_drop]
      omega
    · show (([] : List NodeT), putO o (laC :: rest), ((0 : Int), (0 : Int))) = _
      rw [hp]
    · rw [← hp]; exact putO_sort o _ h2 (by simpa using hdd)
    · rcases (putO_mem o rest x).1 hx with rfl | hx
      · exact ⟨hk, ho⟩
      · exact h3 x hx
    · rcases hk with hk | hk
      · rw [lastK_put 3 fN o hk rest hs hdr ((1, 1), _) hl, ← h4]
        by_cases e : LessS nm.1 o.2.1
        · rw [if_pos e, if_pos ⟨hk, e⟩]
        · rw [if_neg e, if_neg (fun hh => e hh.2)]
      · rw [lastK_other 3 fN o (by omega) rest, ← h4, if_neg (fun hh => by omega)]
    · rcases hk with hk | hk
      · rw [lastK_other 4 fV o (by omega) rest, ← h5, if_neg (fun hh => by omega)]
      · rw [lastK_put 4 fV o hk rest hs hdr ((1, 1), _) hl, ← h5]
        by_cases e : LessS vl.1 o.2.1
        · rw [if_pos e, if_pos ⟨hk, e⟩]
        · rw [if_neg e, if_neg (fun hh => e hh.2)]
    · have : (putO o rest).length = rest.length + 1 := by
        have := posO_le o.2.1 rest
        unfold putO
        rw [List.length_append, List.length_cons, List.length_take, List.length_drop]
        omega
      omega

theorem la_first : doP [] laC = [((1, 1), (0, 0), ⟨#[102, 105, 114, 115, 116]⟩, ⟨#[]⟩)] := by decide +kernel

theorem last_look {n : Nat} {T : TreeT} {nm vl : (Int × Int) × ByteArray} (h : LastS n T nm vl) : look (nodesP T.1 T.2.1) (1, 1) = some ((1, 1), (0, 0), nm.2, vl.2) := by
  obtain ⟨rest, rfl, h2, h3, h4, h5, h6⟩ := h.ex
  show look (nodesP (doP [] laC) rest) (1, 1) = _
  rw [la_first, nodes_last rest ((1, 1), (0, 0), ⟨#[102, 105, 114, 115, 116]⟩, ⟨#[]⟩) (1, 1) (1, 1) h3, h4, h5]
  rfl

end Go.Proofs.YtmfckdhincffkabDoor
