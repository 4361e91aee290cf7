import Derived.Test.YtmfckdhincffkaaGreatDoorT11
import Derived.Test.YtmfckdhincffkaaGreatDoorTX
/- A tree of the call's own, and several (layer 11). -/
namespace Go.Proofs.YtmfckdhincffkaaGreatDoor
open Go.RowKit
set_option linter.unusedSimpArgs false

/-- A tree all whose blocks are newer than a world. -/
structure Tr (w0 w : World) (g f m : Nat) (r : Option Nat) (T : TreeT) : Prop where
  tree : TreeIn w g f m r T
  bel : Below w0.heap.size w0 w
  new : ∀ k, tfoot g f m r k → w0.heap.size ≤ k

theorem Tr.on {w0 w w' : World} {g f m : Nat} {r : Option Nat} {T : TreeT} (h : Tr w0 w g f m r T) (hb : Below w.heap.size w w') : Tr w0 w' g f m r T :=
  ⟨h.tree.on hb, below_step h.bel (Nat.le_refl _) hb, h.new⟩

theorem tfoot_next {w : World} {g f m : Nat} {r r' : Option Nat} (hN : Nx w r r') {k : Nat} (hk : tfoot g f m r' k) : tfoot g f m r k ∨ w.heap.size ≤ k := by
  rcases hk with h | h | h | h
  · exact .inl (.inl h)
  · exact .inl (.inr (.inl h))
  · exact .inl (.inr (.inr (.inl h)))
  · rcases hN k h.symm with h' | h'
    · exact .inl (.inr (.inr (.inr h'.symm)))
    · exact .inr h'

theorem Tr.next {w0 w w' : World} {g f m : Nat} {r r' : Option Nat} {T T' : TreeT} (h : Tr w0 w g f m r T) (hT : TreeIn w' g f m r' T') (hK : KeptF (tfoot g f m r) w w') (hN : Nx w r r') : Tr w0 w' g f m r' T' :=
  ⟨hT, h.bel.trans (hK.below w0.heap.size h.bel.size h.new), fun k hk => by
    rcases tfoot_next hN hk with h' | h'
    · exact h.new k h'
    · exact Nat.le_trans h.bel.size h'⟩

/-- Another tree beside it. -/
theorem Tr.beside {w0 w w' : World} {g f m g' f' m' : Nat} {r r' : Option Nat} {T T' : TreeT} (h : Tr w0 w g f m r T) (h' : Tr w0 w g' f' m' r' T') (hK : KeptF (tfoot g f m r) w w') (hd : ∀ k, tfoot g f m r k → ¬ tfoot g' f' m' r' k) : Tr w0 w' g' f' m' r' T' :=
  ⟨h'.tree.kept hK (fun k hk hf => hd k hf hk), h.bel.trans (hK.below w0.heap.size h.bel.size h.new), h'.new⟩

theorem apart_next {w w0 : World} {g f m g' f' m' : Nat} {r r' rn : Option Nat} {T' : TreeT} (h' : Tr w0 w g' f' m' r' T') (hd : ∀ k, tfoot g f m r k → ¬ tfoot g' f' m' r' k) (hN : Nx w r rn) : ∀ k, tfoot g f m rn k → ¬ tfoot g' f' m' r' k := fun k hk hk' => by
  rcases tfoot_next hN hk with h | h
  · exact hd k h hk'
  · have := h'.tree.lt hk'; omega

/-- What stands of a tree: its blocks and what it is. -/
abbrev TreeA := Nat × Nat × Nat × Option Nat × TreeT

def TrA (w0 w : World) (A : TreeA) : Prop := Tr w0 w A.1 A.2.1 A.2.2.1 A.2.2.2.1 A.2.2.2.2

def Apart (A B : TreeA) : Prop := ∀ k, tfoot A.1 A.2.1 A.2.2.1 A.2.2.2.1 k → ¬ tfoot B.1 B.2.1 B.2.2.1 B.2.2.2.1 k

theorem Apart.symm {A B : TreeA} (h : Apart A B) : Apart B A := fun k hb ha => h k ha hb

/-- Two trees side by side. -/
structure Duo (w0 w : World) (A B : TreeA) : Prop where
  a : TrA w0 w A
  b : TrA w0 w B
  ab : Apart A B

theorem Duo.turn {w0 w : World} {A B : TreeA} (h : Duo w0 w A B) : Duo w0 w B A := ⟨h.b, h.a, h.ab.symm⟩

theorem Duo.on {w0 w w' : World} {A B : TreeA} (h : Duo w0 w A B) (hb : Below w.heap.size w w') : Duo w0 w' A B := ⟨Tr.on h.a hb, Tr.on h.b hb, h.ab⟩

theorem Duo.next {w0 w w' : World} {g f m : Nat} {r r' : Option Nat} {T T' : TreeT} {B : TreeA} (h : Duo w0 w (g, f, m, r, T) B) (hT : TreeIn w' g f m r' T') (hK : KeptF (tfoot g f m r) w w') (hN : Nx w r r') : Duo w0 w' (g, f, m, r', T') B :=
  ⟨Tr.next h.a hT hK hN, Tr.beside h.a h.b hK h.ab, apart_next h.b h.ab hN⟩

/-- Three trees side by side. -/
structure Trio (w0 w : World) (A B C : TreeA) : Prop where
  a : TrA w0 w A
  b : TrA w0 w B
  c : TrA w0 w C
  ab : Apart A B
  bc : Apart B C
  ca : Apart C A

theorem Trio.turn {w0 w : World} {A B C : TreeA} (h : Trio w0 w A B C) : Trio w0 w B C A := ⟨h.b, h.c, h.a, h.bc, h.ca, h.ab⟩

theorem Trio.on {w0 w w' : World} {A B C : TreeA} (h : Trio w0 w A B C) (hb : Below w.heap.size w w') : Trio w0 w' A B C := ⟨Tr.on h.a hb, Tr.on h.b hb, Tr.on h.c hb, h.ab, h.bc, h.ca⟩

theorem Trio.next {w0 w w' : World} {g f m : Nat} {r r' : Option Nat} {T T' : TreeT} {B C : TreeA} (h : Trio w0 w (g, f, m, r, T) B C) (hT : TreeIn w' g f m r' T') (hK : KeptF (tfoot g f m r) w w') (hN : Nx w r r') : Trio w0 w' (g, f, m, r', T') B C :=
  ⟨Tr.next h.a hT hK hN, Tr.beside h.a h.b hK h.ab, Tr.beside h.a h.c hK h.ca.symm, apart_next h.b h.ab hN, h.bc, Apart.symm (apart_next h.c h.ca.symm hN)⟩

/-- A new tree. -/
theorem new_tr (w0 w : World) (h0 : Below w0.heap.size w0 w) : Calls Tryz.prog 5 #[] w fun e w' => ∃ g f m, e = .returned (.pointer (some ⟨g, 0, none⟩)) ∧ Tr w0 w' g f m none ([], [], (0, 0)) ∧ (∀ k, tfoot g f m none k → w.heap.size ≤ k) ∧ Below w.heap.size w w' :=
  (new_any w).mono fun _ _ ⟨g, f, m, h1, h2, h3, h4⟩ => ⟨g, f, m, h1, ⟨h2, below_step h0 (Nat.le_refl _) h4, fun k hk => Nat.le_trans h0.size (h3 k hk)⟩, h3, h4⟩

theorem apart_new {w w0 : World} {g f m g' f' m' : Nat} {r r' : Option Nat} {T' : TreeT} (h' : Tr w0 w g' f' m' r' T') (hn : ∀ k, tfoot g f m r k → w.heap.size ≤ k) : ∀ k, tfoot g f m r k → ¬ tfoot g' f' m' r' k := fun k hk hk' => by
  have h1 := hn k hk
  have h2 := h'.tree.lt hk'
  omega

/-- Rows that are newer than a tree stand behind what is done to it. -/
theorem ownN_kept {w w' : World} {F : Nat → Prop} {B : Nat} {v : Value} {N : List NodeT} (h : OwnN w B v N) (hK : KeptF F w w') (hF : ∀ k, F k → k < B) : OwnN w' B v N :=
  owns_same h (fun k hv => hK.block k (World.ownsRow.lt h k hv).2 (fun hf => by have h1 := hF k hf; have h2 := (World.ownsRow.lt h k hv).1; omega))

theorem ownO_kept {w w' : World} {F : Nat → Prop} {B : Nat} {v : Value} {N : List OpT} (h : OwnO w B v N) (hK : KeptF F w w') (hF : ∀ k, F k → k < B) : OwnO w' B v N :=
  owns_same h (fun k hv => hK.block k (World.ownsRow.lt h k hv).2 (fun hf => by have h1 := hF k hf; have h2 := (World.ownsRow.lt h k hv).1; omega))

/-- An operation comes to a tree. -/
theorem apply_tr (M : OpT → Bool) (hM : ∀ o, M o = true ↔ MayO o) (g f m : Nat) (r : Option Nat) (T : TreeT) (o : OpT) (w0 w : World) (h : Tr w0 w g f m r T) (hG : Glob8 w0) (hn : T.1.length + T.2.1.length ≤ 50000) (h7 : o.2.2.2.2.1.size ≤ 1048576) (h8 : o.2.2.2.2.2.size ≤ 9223372036854775807) :
    Calls Tryz.prog 11 #[.pointer (some ⟨g, 0, none⟩), .agg (opA o)] w fun e w' => e = .returned (.int .i64 (applyP M T o).2) ∧ ∃ r', TreeIn w' g f m r' (applyP M T o).1 ∧ KeptF (tfoot g f m r) w w' ∧ Nx w r r' :=
  apply_any M hM g f m r T o w h.tree (hG.below h.bel) hn h7 h8
end Go.Proofs.YtmfckdhincffkaaGreatDoor

/- Layer 11 on plain data: operations turned about, and the other way round. -/
namespace Go.Proofs.YtmfckdhincffkaaGreatDoor
open Go.RowKit
set_option linter.unusedSimpArgs false

theorem oL_mem (l : List OpT) (i : Nat) (h : i < l.length) : oL l i ∈ l := by
  have e : oL l i = l[i] := by unfold oL; rw [List.getD_eq_getElem?_getD, List.getElem?_eq_getElem h]; rfl
  rw [e]; exact List.getElem_mem h

theorem mem_oL (l : List OpT) (x : OpT) (h : x ∈ l) : ∃ i, i < l.length ∧ x = oL l i := by
  obtain ⟨i, hi, rfl⟩ := List.getElem_of_mem h
  exact ⟨i, hi, by unfold oL; rw [List.getD_eq_getElem?_getD, List.getElem?_eq_getElem hi]; rfl⟩

theorem take_oL (l : List OpT) (k : Nat) (h : k < l.length) : l.take (k + 1) = l.take k ++ [oL l k] := by
  have e : oL l k = l[k] := by unfold oL; rw [List.getD_eq_getElem?_getD, List.getElem?_eq_getElem h]; rfl
  rw [e]; exact List.take_succ_eq_append_getElem h

def rotL (l : List OpT) (t n : Nat) : Nat → List OpT
  | 0 => []
  | k + 1 => rotL l t n k ++ [oL l ((k + t) % n)]

def revL (l : List OpT) (n : Nat) : Nat → List OpT
  | 0 => []
  | k + 1 => (revL l n k ++ [oL l (n - 1 - k)]) ++ [oL l (n - 1 - k)]

theorem rotL_len (l : List OpT) (t n k : Nat) : (rotL l t n k).length = k := by
  induction k with
  | zero => rfl
  | succ k ih => show (rotL l t n k ++ _).length = _; rw [List.length_append, ih]; rfl

theorem revL_len (l : List OpT) (n k : Nat) : (revL l n k).length = 2 * k := by
  induction k with
  | zero => rfl
  | succ k ih => show ((revL l n k ++ _) ++ _).length = _; rw [List.length_append, List.length_append, ih]; show 2 * k + 1 + 1 = _; omega

theorem rotL_mem (l : List OpT) (t n k : Nat) (x : OpT) : x ∈ rotL l t n k ↔ ∃ i, i < k ∧ x = oL l ((i + t) % n) := by
  induction k with
  | zero => exact ⟨fun h => absurd h List.not_mem_nil, fun ⟨i, hi, _⟩ => absurd hi (Nat.not_lt_zero _)⟩
  | succ k ih =>
    show x ∈ rotL l t n k ++ [_] ↔ _
    rw [List.mem_append, List.mem_singleton, ih]
    constructor
    · rintro (⟨i, hi, e⟩ | e)
      · exact ⟨i, by omega, e⟩
      · exact ⟨k, by omega, e⟩
    · rintro ⟨i, hi, e⟩
      by_cases h : i = k
      · rw [h] at e; exact .inr e
      · exact .inl ⟨i, by omega, e⟩

theorem revL_mem (l : List OpT) (n k : Nat) (x : OpT) : x ∈ revL l n k ↔ ∃ i, i < k ∧ x = oL l (n - 1 - i) := by
  induction k with
  | zero => exact ⟨fun h => absurd h List.not_mem_nil, fun ⟨i, hi, _⟩ => absurd hi (Nat.not_lt_zero _)⟩
  | succ k ih =>
    show x ∈ (revL l n k ++ [_]) ++ [_] ↔ _
    rw [List.mem_append, List.mem_append, List.mem_singleton, ih]
    constructor
    · rintro ((⟨i, hi, e⟩ | e) | e)
      · exact ⟨i, by omega, e⟩
      · exact ⟨k, by omega, e⟩
      · exact ⟨k, by omega, e⟩
    · rintro ⟨i, hi, e⟩
      by_cases h : i = k
      · rw [h] at e; exact .inr e
      · exact .inl (.inl ⟨i, by omega, e⟩)

theorem rot_all (l : List OpT) (t : Nat) (x : OpT) : x ∈ l ↔ x ∈ rotL l t l.length l.length := by
  rw [rotL_mem]
  constructor
  · intro h
    obtain ⟨j, hj, e⟩ := mem_oL l x h
    have ht := Nat.mod_lt t (show 0 < l.length by omega)
    refine ⟨(j + (l.length - t % l.length)) % l.length, Nat.mod_lt _ (by omega), ?_⟩
    rw [e]
    congr 1
    rw [Nat.mod_add_mod]
    have h1 : j + (l.length - t % l.length) + t = j + l.length * (1 + t / l.length) := by
      have h2 := Nat.div_add_mod t l.length
      rw [Nat.mul_add, Nat.mul_one]
      omega
    rw [h1, Nat.add_mul_mod_self_left, Nat.mod_eq_of_lt hj]
  · rintro ⟨i, hi, rfl⟩
    exact oL_mem l _ (Nat.mod_lt _ (by omega))

theorem rev_all (l : List OpT) (x : OpT) : x ∈ l ↔ x ∈ revL l l.length l.length := by
  rw [revL_mem]
  constructor
  · intro h
    obtain ⟨j, hj, e⟩ := mem_oL l x h
    exact ⟨l.length - 1 - j, by omega, by rw [e]; congr 1; omega⟩
  · rintro ⟨i, hi, rfl⟩
    exact oL_mem l _ (by omega)

abbrev T0 : TreeT := ([], [], (0, 0))

theorem play_len (M : OpT → Bool) (l : List OpT) (h : l.length ≤ 512) : (playP M T0 l).1.length + (playP M T0 l).2.1.length ≤ 512 := by
  have s := stands_play M [] (0, 0) l (by simpa using h)
  have h1 := s.fx
  have h2 := s.len
  have h3 : (playP M ([], [], (0, 0)) l).1.length = 0 := by rw [h1]; rfl
  show (playP M ([], [], (0, 0)) l).1.length + (playP M ([], [], (0, 0)) l).2.1.length ≤ _
  omega

theorem play_fx (M : OpT → Bool) (l : List OpT) (h : l.length ≤ 512) : (playP M T0 l).1 = [] := (stands_play M [] (0, 0) l (by simpa using h)).fx

theorem play_may (M : OpT → Bool) (hM : ∀ o, M o = true ↔ MayO o) (l : List OpT) (h : l.length ≤ 512) : ∀ o ∈ (playP M T0 l).2.1, MayO o := fun o ho => (hM o).1 ((stands_play M [] (0, 0) l (by simpa using h)).mem o ho).2.1

theorem play_rooted (M : OpT → Bool) (hM : ∀ o, M o = true ↔ MayO o) (l : List OpT) (h : l.length ≤ 512) : Rooted (nodesP (playP M T0 l).1 (playP M T0 l).2.1) := by
  rw [play_fx M l h]
  exact rooted_nodes rooted_nil _ (play_may M hM l h)

theorem orders_rot (M : OpT → Bool) (l : List OpT) (t : Nat) (h : l.length ≤ 512) (hone : ∀ x ∈ l, ∀ y ∈ l, x.2.1 = y.2.1 → x = y) : playP M T0 l = playP M T0 (rotL l t l.length l.length) :=
  play_order (stands_play M [] (0, 0) l (by simpa using h)) (stands_play M [] (0, 0) _ (by rw [rotL_len]; simpa using h)) (rot_all l t) hone

theorem orders_rev (M : OpT → Bool) (l : List OpT) (h : l.length ≤ 256) (hone : ∀ x ∈ l, ∀ y ∈ l, x.2.1 = y.2.1 → x = y) : playP M T0 l = playP M T0 (revL l l.length l.length) :=
  play_order (stands_play M [] (0, 0) l (by simp; omega)) (stands_play M [] (0, 0) _ (by rw [revL_len]; simp; omega)) (rev_all l) hone

end Go.Proofs.YtmfckdhincffkaaGreatDoor

/- Layer 11 on plain data: TreeCompacts. -/
namespace Go.Proofs.YtmfckdhincffkaaGreatDoor
open Go.RowKit
set_option linter.unusedSimpArgs false

theorem putO_len (o : OpT) (l : List OpT) : (putO o l).length = l.length + 1 := by
  unfold putO
  have := posO_le o.2.1 l
  rw [List.length_append, List.length_cons, List.length_take, List.length_drop]
  omega

theorem apply_len (M : OpT → Bool) (t : TreeT) (o : OpT) : (applyP M t o).1.1 = t.1 ∧ (applyP M t o).1.2.2 = t.2.2 ∧ (applyP M t o).1.2.1.length ≤ t.2.1.length + 1 := by
  unfold applyP
  by_cases h1 : M o = false ∨ ¬ LessS t.2.2 o.2.1
  · rw [if_pos h1]; exact ⟨rfl, rfl, Nat.le_succ _⟩
  · rw [if_neg h1]
    by_cases h2 : dupO o.2.1 t.2.1 = true
    · rw [if_pos h2]; exact ⟨rfl, rfl, Nat.le_succ _⟩
    · rw [if_neg h2]
      by_cases h3 : 512 ≤ t.2.1.length ∨ (o.1 = 1 ∧ 512 ≤ t.1.length + creO t.2.1)
      · rw [if_pos h3]; exact ⟨rfl, rfl, Nat.le_succ _⟩
      · rw [if_neg h3]; exact ⟨rfl, rfl, Nat.le_of_eq (putO_len o t.2.1)⟩

theorem take_pos (s : Int × Int) (l : List OpT) : ∀ x ∈ l.take (posO s l), ¬ LessS s x.2.1 := by
  induction l with
  | nil => intro x hx; rw [List.take_nil] at hx; exact absurd hx List.not_mem_nil
  | cons y l ih =>
    intro x hx
    rw [posO_cons] at hx
    by_cases h : LessS s y.2.1
    · rw [if_pos h, List.take_zero] at hx; exact absurd hx List.not_mem_nil
    · rw [if_neg h, List.take_succ_cons] at hx
      rcases List.mem_cons.1 hx with rfl | hx
      · exact h
      · exact ih x hx

theorem cut_of (t : TreeT) (s : Int × Int) (hs : MayS s) : CutT s t (compactP t s).1 := by
  unfold compactP
  rw [if_pos hs]
  refine ⟨⟨t.2.1.take (posO s t.2.1), t.2.1.drop (posO s t.2.1), (List.take_append_drop _ _).symm, rfl, rfl, take_pos s t.2.1⟩, ?_⟩
  show (if LessS t.2.2 s then s else t.2.2) = s ∨ (if LessS t.2.2 s then s else t.2.2) = t.2.2
  by_cases h : LessS t.2.2 s
  · rw [if_pos h]; exact .inl rfl
  · rw [if_neg h]; exact .inr rfl

theorem cut_len {s : Int × Int} {a b : TreeT} (h : CutT s a b) : b.2.1.length ≤ a.2.1.length ∧ b.1.length + b.2.1.length ≤ a.1.length + a.2.1.length := by
  obtain ⟨p, r, h1, h2, h3, _⟩ := h.ex
  have h4 := nodesP_len a.1 p
  rw [h1, h2, h3, List.length_append]
  omega

/-- Two trees, the one with its first operations done for good. -/
structure Comp (s : Int × Int) (n : Nat) (a b : TreeT) : Prop where
  cut : CutT s a b
  fx : a.1 = []
  base : a.2.2 = (0, 0)
  len : a.2.1.length ≤ n

theorem Comp.next {M : OpT → Bool} {s : Int × Int} {n : Nat} {a b : TreeT} (h : Comp s n a b) (hn : n < 500) (o : OpT) (h0 : LessS (0, 0) o.2.1) (hs : LessS s o.2.1) : (applyP M a o).2 = (applyP M b o).2 ∧ Comp s (n + 1) (applyP M a o).1 (applyP M b o).1 := by
  have hl := cut_len h.cut
  have h1 : a.1.length = 0 := by rw [h.fx]; rfl
  have h2 := h.len
  obtain ⟨k1, k2⟩ := h.cut.apply (M := M) o hs (by rw [h.base]; exact h0) (by omega) (by omega)
  obtain ⟨e1, e2, e3⟩ := apply_len M a o
  exact ⟨k1, k2, e1.trans h.fx, e2.trans h.base, by omega⟩

theorem Comp.few {s : Int × Int} {n : Nat} {a b : TreeT} (h : Comp s n a b) : a.1.length + a.2.1.length ≤ n ∧ b.1.length + b.2.1.length ≤ n := by
  have hl := cut_len h.cut
  have h1 : a.1.length = 0 := by rw [h.fx]; rfl
  have h2 := h.len
  omega

theorem comp_of (M : OpT → Bool) (l : List OpT) (h : l.length ≤ 512) (s : Int × Int) (hs : MayS s) : Comp s l.length (playP M T0 l) (compactP (playP M T0 l) s).1 := by
  have st := stands_play M [] (0, 0) l (by simpa using h)
  exact ⟨cut_of _ s hs, st.fx, st.base, st.len⟩

end Go.Proofs.YtmfckdhincffkaaGreatDoor
