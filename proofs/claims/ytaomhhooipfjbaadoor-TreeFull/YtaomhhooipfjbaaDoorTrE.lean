/- Layer 11 on plain data: what is for good; no ring. -/
import Derived.Test.YtaomhhooipfjbaaDoorTrB
namespace Go.Proofs.YtaomhhooipfjbaaDoor
open Go.RowKit
set_option linter.unusedSimpArgs false

theorem nodesP_app (l : List NodeT) (a b : List OpT) : nodesP l (a ++ b) = nodesP (nodesP l a) b := by
  unfold nodesP; rw [List.foldl_append]

theorem nodesP_cut (l : List NodeT) (ops : List OpT) (k : Nat) : nodesP (nodesP l (ops.take k)) (ops.drop k) = nodesP l ops := by
  rw [← nodesP_app, List.take_append_drop]

/-- One tree is another one with its first operations done for good, up to a stamp. -/
structure CutT (s : Int × Int) (a b : TreeT) : Prop where
  ex : ∃ p r : List OpT, a.2.1 = p ++ r ∧ b.1 = nodesP a.1 p ∧ b.2.1 = r ∧ (∀ x ∈ p, ¬ LessS s x.2.1)
  base : b.2.2 = s ∨ b.2.2 = a.2.2

theorem CutT.nodes {s : Int × Int} {a b : TreeT} (h : CutT s a b) : nodesP b.1 b.2.1 = nodesP a.1 a.2.1 := by
  obtain ⟨p, r, h1, h2, h3, _⟩ := h.ex
  rw [h1, h2, h3, nodesP_app]

theorem posO_past (s : Int × Int) (p r : List OpT) (h : ∀ x ∈ p, ¬ LessS s x.2.1) : posO s (p ++ r) = p.length + posO s r := by
  induction p with
  | nil => simp
  | cons x p ih =>
    rw [List.cons_append, posO_cons, if_neg (h x (List.mem_cons_self ..)), ih (fun y hy => h y (List.mem_cons_of_mem _ hy)), List.length_cons]
    omega

theorem putO_past (o : OpT) (p r : List OpT) (h : ∀ x ∈ p, ¬ LessS o.2.1 x.2.1) : putO o (p ++ r) = p ++ putO o r := by
  induction p with
  | nil => rfl
  | cons x p ih =>
    rw [List.cons_append, putO_cons, if_neg (h x (List.mem_cons_self ..)), ih (fun y hy => h y (List.mem_cons_of_mem _ hy))]; rfl

theorem dupO_app (s : Int × Int) (p r : List OpT) : dupO s (p ++ r) = (dupO s p || dupO s r) := by
  unfold dupO; rw [List.any_append]

/-- WHEN WHAT IS FOR GOOD is so does not matter: an operation behind the stamp is taken alike. -/
theorem CutT.apply {M : OpT → Bool} {s : Int × Int} {a b : TreeT} (h : CutT s a b) (o : OpT) (hs : LessS s o.2.1) (ha : LessS a.2.2 o.2.1) (hna : a.1.length + a.2.1.length < 512) (hnb : b.1.length + b.2.1.length < 512) :
    (applyP M a o).2 = (applyP M b o).2 ∧ CutT s (applyP M a o).1 (applyP M b o).1 := by
  obtain ⟨p, r, h1, h2, h3, h4⟩ := h.ex
  have hb : LessS b.2.2 o.2.1 := by
    rcases h.base with e | e
    · rw [e]; exact hs
    · rw [e]; exact ha
  have hno : ∀ x ∈ p, ¬ LessS o.2.1 x.2.1 := fun x hx hl => h4 x hx (lessS_trans _ _ _ hs hl)
  have hdp : dupO o.2.1 p = false := by
    cases e : dupO o.2.1 p with
    | false => rfl
    | true =>
      obtain ⟨x, hx, e2⟩ := (dupO_iff _ _).1 e
      exact absurd (by rw [e2]; exact hs) (h4 x hx)
  rw [applyP_few M a o hna, applyP_few M b o hnb]
  by_cases hM : M o = false
  · rw [if_pos (.inl hM), if_pos (.inl hM)]; exact ⟨rfl, h⟩
  · have na : ¬ (M o = false ∨ ¬ LessS a.2.2 o.2.1) := fun hh => hh.elim hM (fun h => h ha)
    have nb : ¬ (M o = false ∨ ¬ LessS b.2.2 o.2.1) := fun hh => hh.elim hM (fun h => h hb)
    rw [if_neg na, if_neg nb]
    have hd : dupO o.2.1 a.2.1 = dupO o.2.1 b.2.1 := by rw [h1, h3, dupO_app, hdp, Bool.false_or]
    rw [hd]
    by_cases hdd : dupO o.2.1 b.2.1 = true
    · rw [if_pos hdd, if_pos hdd]; exact ⟨rfl, h⟩
    · rw [if_neg hdd, if_neg hdd]
      refine ⟨rfl, ⟨p, putO o r, ?_, h2, ?_, h4⟩, h.base⟩
      · show putO o a.2.1 = _
        rw [h1]; exact putO_past o p r hno
      · show putO o b.2.1 = _
        rw [h3]

/-- No ring: each node's parent is the root, the trash, or a node, and stands nearer to them. -/
structure Rooted (l : List NodeT) : Prop where
  sort : SortN l
  may : ∀ x ∈ l, MayS x.1
  par : ∀ x ∈ l, ParS x.2.1 ∧ (x.2.1.1 = 0 ∨ ∃ y ∈ l, y.1 = x.2.1)
  rank : ∃ rk : Int × Int → Nat, ∀ x ∈ l, ∀ y ∈ l, y.1 = x.2.1 → rk y.1 < rk x.1

theorem rooted_nil : Rooted [] := ⟨List.Pairwise.nil, fun _ h => absurd h List.not_mem_nil, fun _ h => absurd h List.not_mem_nil, ⟨fun _ => 0, fun _ h => absurd h List.not_mem_nil⟩⟩

theorem nL_mem (l : List NodeT) (j : Nat) (h : j < l.length) : nL l j ∈ l := by
  unfold nL; rw [List.getD_eq_getElem?_getD, List.getElem?_eq_getElem h]; exact List.getElem_mem h

theorem findI_no {l : List NodeT} {id : Int × Int} (h : findI l id < 0) : ∀ x ∈ l, x.1 ≠ id := by
  intro x hx
  rcases findI_E l id with ⟨_, h2⟩ | ⟨i, h2, _⟩
  · obtain ⟨i, hi, rfl⟩ := List.getElem_of_mem hx
    have := h2 i hi
    unfold nL at this
    rw [List.getD_eq_getElem?_getD, List.getElem?_eq_getElem hi] at this
    exact this
  · omega

theorem findI_is {l : List NodeT} {id : Int × Int} (h : ¬ findI l id < 0) : nL l (findI l id).toNat ∈ l ∧ (nL l (findI l id).toNat).1 = id := by
  rcases findI_lt l id with h2 | ⟨k, h2, h3, h4⟩
  · omega
  · rw [h2, Int.toNat_natCast]; exact ⟨nL_mem l k h3, h4⟩

/-- From a stamp parents lead away without a node's number. -/
def OffN (l : List NodeT) (id : Int × Int) : Nat → Int × Int → Prop
  | 0, p => p ≠ id ∧ ∀ x ∈ l, x.1 ≠ p
  | f + 1, p => p ≠ id ∧ ∃ x ∈ l, x.1 = p ∧ OffN l id f x.2.1

def Off (l : List NodeT) (id p : Int × Int) : Prop := ∃ f, OffN l id f p

theorem off_of {l : List NodeT} {id : Int × Int} : ∀ (f : Nat) (p : Int × Int), underF l id f p = false → Off l id p := by
  intro f
  induction f with
  | zero => intro p h; cases h
  | succ f ih =>
    intro p h
    unfold underF at h
    by_cases e : p = id
    · rw [if_pos e] at h; cases h
    · rw [if_neg e] at h
      by_cases hf : findI l p < 0
      · exact ⟨0, e, findI_no hf⟩
      · rw [if_neg hf] at h
        obtain ⟨h1, h2⟩ := findI_is hf
        obtain ⟨k, hk⟩ := ih _ h
        exact ⟨k + 1, e, _, h1, h2, hk⟩

theorem off_par {l : List NodeT} (hs : SortN l) {id p : Int × Int} (h : Off l id p) {x : NodeT} (hx : x ∈ l) (e : x.1 = p) : Off l id x.2.1 := by
  obtain ⟨f, h⟩ := h
  cases f with
  | zero => exact absurd e (h.2 x hx)
  | succ f =>
    obtain ⟨_, y, hy, ey, h3⟩ := h
    rw [sortN_uniq hs hx hy (e.trans ey.symm)]; exact ⟨f, h3⟩

theorem off_ne {l : List NodeT} {id p : Int × Int} (h : Off l id p) : p ≠ id := by
  obtain ⟨f, h⟩ := h
  cases f with
  | zero => exact h.1
  | succ f => exact h.1

/-- One node with another parent, that is not below it; or another name, another value. -/
theorem rooted_with {l : List NodeT} (h : Rooted l) {x n : NodeT} (hx : x ∈ l) (hn : n.1 = x.1) (hp : ParS n.2.1 ∧ (n.2.1.1 = 0 ∨ ∃ y ∈ l, y.1 = n.2.1)) (ho : n.2.1 = x.2.1 ∨ Off l n.1 n.2.1) : Rooted (withR n l) := by
  obtain ⟨rk, hrk⟩ := h.rank
  refine ⟨withR_sort n l h.sort, fun y hy => ?_, fun y hy => ?_, ?_⟩
  · rcases (withR_mem n l y).1 hy with rfl | ⟨h1, _⟩
    · rw [hn]; exact h.may x hx
    · exact h.may y h1
  · have key : ∀ q : Int × Int, (∃ z ∈ l, z.1 = q) → ∃ z ∈ withR n l, z.1 = q := fun q ⟨z, hz, e⟩ => by
      by_cases e2 : z.1 = n.1
      · exact ⟨n, (withR_mem n l n).2 (.inl rfl), by rw [← e2]; exact e⟩
      · exact ⟨z, (withR_mem n l z).2 (.inr ⟨hz, e2⟩), e⟩
    rcases (withR_mem n l y).1 hy with rfl | ⟨h1, _⟩
    · exact ⟨hp.1, hp.2.imp id (key _)⟩
    · exact ⟨(h.par y h1).1, (h.par y h1).2.imp id (key _)⟩
  · rcases ho with ho | ho
    · refine ⟨rk, fun y hy z hz e => ?_⟩
      have old : ∀ u ∈ withR n l, ∃ v ∈ l, v.1 = u.1 ∧ v.2.1 = u.2.1 := fun u hu => by
        rcases (withR_mem n l u).1 hu with rfl | ⟨h1, _⟩
        · exact ⟨x, hx, hn.symm, ho.symm⟩
        · exact ⟨u, h1, rfl, rfl⟩
      obtain ⟨y', hy', e1, e2⟩ := old y hy
      obtain ⟨z', hz', e3, _⟩ := old z hz
      have := hrk y' hy' z' hz' (by rw [e3, e2]; exact e)
      rw [e3, e1] at this; exact this
    · obtain ⟨g, hg⟩ : ∃ g : Int × Int → Nat, ∀ q, (Off l n.1 q → g q = rk q) ∧ (¬ Off l n.1 q → g q = rk q + (rk n.2.1 + 1)) :=
        ⟨fun q => @ite _ (Off l n.1 q) (Classical.propDecidable _) (rk q) (rk q + (rk n.2.1 + 1)), fun q => ⟨fun h => if_pos h, fun h => if_neg h⟩⟩
      refine ⟨g, fun y hy z hz e => ?_⟩
      have zl : ∃ z' ∈ l, z'.1 = z.1 := by
        rcases (withR_mem n l z).1 hz with rfl | ⟨h1, _⟩
        · exact ⟨x, hx, hn.symm⟩
        · exact ⟨z, h1, rfl⟩
      rcases (withR_mem n l y).1 hy with rfl | ⟨h1, hne⟩
      · rw [e, (hg _).1 ho, (hg y.1).2 (fun h => off_ne h rfl)]
        omega
      · obtain ⟨z', hz', ez⟩ := zl
        have hlt := hrk y h1 z' hz' (by rw [ez]; exact e)
        rw [ez] at hlt
        by_cases hof : Off l n.1 y.1
        · have := off_par h.sort hof h1 rfl
          rw [(hg y.1).1 hof, (hg z.1).1 (by rw [e]; exact this)]
          exact hlt
        · rw [(hg y.1).2 hof]
          by_cases hoz : Off l n.1 z.1
          · rw [(hg z.1).1 hoz]; omega
          · rw [(hg z.1).2 hoz]; omega

/-- A node that was not there. -/
theorem rooted_new {l : List NodeT} (h : Rooted l) {n : NodeT} (hm : MayS n.1) (hno : ∀ x ∈ l, x.1 ≠ n.1) (hp : ParS n.2.1 ∧ (n.2.1.1 = 0 ∨ ∃ y ∈ l, y.1 = n.2.1)) : Rooted (withR n l) := by
  obtain ⟨rk, hrk⟩ := h.rank
  have hmem : ∀ y, y ∈ withR n l ↔ y = n ∨ y ∈ l := fun y => by
    rw [withR_mem]
    exact ⟨fun h => h.imp id (·.1), fun h => h.imp id (fun h => ⟨h, hno y h⟩)⟩
  have hm1 : 1 ≤ n.1.1 := hm.1
  refine ⟨withR_sort n l h.sort, fun y hy => ?_, fun y hy => ?_, ?_⟩
  · rcases (hmem y).1 hy with rfl | h1
    · exact hm
    · exact h.may y h1
  · rcases (hmem y).1 hy with rfl | h1
    · exact ⟨hp.1, hp.2.imp id (fun ⟨z, hz, e⟩ => ⟨z, (hmem z).2 (.inr hz), e⟩)⟩
    · exact ⟨(h.par y h1).1, (h.par y h1).2.imp id (fun ⟨z, hz, e⟩ => ⟨z, (hmem z).2 (.inr hz), e⟩)⟩
  · obtain ⟨g, hg1, hg2⟩ : ∃ g : Int × Int → Nat, g n.1 = rk n.2.1 + 1 ∧ ∀ q, q ≠ n.1 → g q = rk q :=
      ⟨fun q => if q = n.1 then rk n.2.1 + 1 else rk q, if_pos rfl, fun q hq => if_neg hq⟩
    refine ⟨g, fun y hy z hz e => ?_⟩
    have zn : ∀ u ∈ l, u.2.1 ≠ n.1 := fun u hu e2 => by
      rcases (h.par u hu).2 with h0 | ⟨v, hv, ev⟩
      · rw [e2] at h0; omega
      · exact hno v hv (by rw [ev, e2])
    rcases (hmem y).1 hy with rfl | h1
    · have hzne : z.1 ≠ y.1 := fun e2 => by
        rcases hp.2 with h0 | ⟨v, hv, ev⟩
        · rw [← e, e2] at h0; omega
        · exact hno v hv (by rw [ev, ← e, e2])
      rw [hg1, hg2 z.1 hzne, e]; omega
    · have hzne : z.1 ≠ n.1 := fun e2 => zn y h1 (by rw [← e, e2])
      rcases (hmem z).1 hz with rfl | h2
      · exact absurd rfl hzne
      · rw [hg2 z.1 hzne, hg2 y.1 (hno y h1)]
        exact hrk y h1 z h2 e

end Go.Proofs.YtaomhhooipfjbaaDoor
