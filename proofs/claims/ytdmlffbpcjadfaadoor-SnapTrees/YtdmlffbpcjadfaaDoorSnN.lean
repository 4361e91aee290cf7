import Derived.Test.YtdmlffbpcjadfaaDoorSnL
import Derived.Test.YtdmlffbpcjadfaaDoorP11
/- The tree of any operations, up to a stamp for good, is one that is put (layer 13, plain). -/
namespace Go.Proofs.YtdmlffbpcjadfaaDoor
open Go.RowKit
set_option linter.unusedSimpArgs false

theorem lead_rank {l : List NodeT} {rk : Int × Int → Nat} (hr : ∀ x ∈ l, ∀ y ∈ l, y.1 = x.2.1 → rk y.1 < rk x.1) {x : NodeT} (hx : x ∈ l) : ∀ (i : Nat) (p : Int × Int), Lead l i p x.1 → ∀ z ∈ l, z.2.1 = p → rk x.1 < rk z.1 := by
  intro i
  induction i with
  | zero =>
    intro p h z hz e
    have h : p = x.1 := h
    exact hr z hz x hx (by rw [e, h])
  | succ i ih =>
    intro p h z hz e
    obtain ⟨y, hy, e2, h2⟩ := h
    have h3 := ih y.2.1 h2 y hy rfl
    have h4 := hr z hz y hy (by rw [e, e2])
    omega

theorem within_lead {l : List NodeT} {id : Int × Int} : ∀ (f : Nat) (p : Int × Int), withinF l id f p = true → ∃ i, Lead l i p id := by
  intro f
  induction f with
  | zero => intro p h; cases h
  | succ f ih =>
    intro p h
    by_cases he : p = id
    · exact ⟨0, he⟩
    · cases hl : look l p with
      | none => rw [withinF_no he hl] at h; cases h
      | some n =>
        rw [withinF_on he hl] at h
        obtain ⟨i, hi⟩ := ih n.2.1 h
        obtain ⟨h1, h2⟩ := look_mem hl
        exact ⟨i + 1, n, h1, h2, hi⟩

/-- Where parents lead to the root, or to the trash, the code's test is kept. -/
theorem rooted_fix {l : List NodeT} (h : Rooted l) : FixC l := fun x hx => by
  obtain ⟨rk, hr⟩ := h.rank
  obtain ⟨h1, h2⟩ := h.par x hx
  refine ⟨?_, ?_⟩
  · unfold holdB
    rcases h2 with h2 | ⟨y, hy, e⟩
    · have h3 : x.2.1 = (0, 0) ∨ x.2.1 = (0, 1) := by
        rcases h1 with h1 | ⟨_, h1⟩
        · have := h1.1; omega
        · rcases h1 with h1 | h1
          · exact .inl (Prod.ext h2 h1)
          · exact .inr (Prod.ext h2 h1)
      rcases h3 with h3 | h3 <;> simp [h3]
    · have := look_is h.sort hy
      rw [e] at this
      rw [this]
      rfl
  · cases hw : withinF l x.1 l.length x.2.1 with
    | false => rfl
    | true =>
      obtain ⟨i, hi⟩ := within_lead _ _ hw
      have := lead_rank hr hx i x.2.1 hi x hx rfl
      omega

/-- What a node for good has besides. -/
def NdOk (s : Int × Int) (x : NodeT) : Prop := ¬ LessS s x.1 ∧ NameP x.2.2.1 ∧ x.2.2.2.size ≤ 64 ∧ x.2.2.1.size ≤ 200

theorem do_ok {l : List NodeT} {o : OpT} {s : Int × Int} (hl : ∀ x ∈ l, NdOk s x) (hm : MayO o) (hL : LightO o) (hs : ¬ LessS s o.2.1) : ∀ x ∈ doP l o, NdOk s x := by
  obtain ⟨hAt, hNo, hk⟩ := hm
  obtain ⟨l1, l2⟩ := hL
  unfold doP
  simp only [withP_R]
  have put : ∀ n : NodeT, NdOk s n → ∀ x ∈ withR n l, NdOk s x := fun n hn x hx => by
    rcases (withR_mem n l x).1 hx with rfl | ⟨hx, _⟩
    · exact hn
    · exact hl x hx
  by_cases k1 : o.1 = 1
  · rw [if_pos k1]
    by_cases hf : 0 ≤ findI l o.2.2.1
    · rw [if_pos hf]; exact hl
    · rw [if_neg hf]
      by_cases ht : thereP l (parO o) = true
      · rw [if_pos ht]
        refine put _ ?_
        rcases hk with ⟨_, h2, _, h4, _⟩ | ⟨h1, _⟩ | ⟨h1, _⟩ | ⟨h1, _⟩ | ⟨h1, _⟩
        · exact ⟨by show ¬ LessS s o.2.2.1; rw [h2]; exact hs, h4, Nat.zero_le _, l1⟩
        all_goals omega
      · rw [if_neg ht]; exact hl
  · rw [if_neg k1]
    by_cases hf : findI l o.2.2.1 < 0
    · rw [if_pos hf]; exact hl
    · rw [if_neg hf]
      obtain ⟨hx, hid⟩ := findI_is hf
      obtain ⟨x1, x2, x3, x4⟩ := hl _ hx
      by_cases k3 : o.1 = 3
      · rw [if_pos k3]
        refine put _ ?_
        rcases hk with ⟨h1, _⟩ | ⟨h1, _⟩ | ⟨_, _, h3, _⟩ | ⟨h1, _⟩ | ⟨h1, _⟩
        · omega
        · omega
        · exact ⟨x1, h3, x3, l1⟩
        all_goals omega
      · rw [if_neg k3]
        by_cases k4 : o.1 = 4
        · rw [if_pos k4]
          refine put _ ?_
          rcases hk with ⟨h1, _⟩ | ⟨h1, _⟩ | ⟨h1, _⟩ | ⟨_, _, _, h4⟩ | ⟨h1, _⟩
          · omega
          · omega
          · omega
          · exact ⟨x1, x2, h4, x4⟩
          · omega
        · rw [if_neg k4]
          by_cases ht : thereP l (parO o) = true
          · rw [if_pos ht]
            by_cases hu : underF l o.2.2.1 (l.length + 1) (parO o) = true
            · rw [if_pos hu]; exact hl
            · rw [if_neg hu]
              exact put _ ⟨x1, x2, x3, x4⟩
          · rw [if_neg ht]; exact hl

theorem nodes_ok {s : Int × Int} (ops : List OpT) : ∀ (l : List NodeT), (∀ x ∈ l, NdOk s x) → (∀ o ∈ ops, MayO o ∧ LightO o ∧ ¬ LessS s o.2.1) → ∀ x ∈ nodesP l ops, NdOk s x := by
  induction ops with
  | nil => intro l hl _; exact hl
  | cons o ops ih =>
    intro l hl h
    obtain ⟨h1, h2, h3⟩ := h o (List.mem_cons_self ..)
    show ∀ x ∈ nodesP (doP l o) ops, NdOk s x
    exact ih _ (do_ok hl h1 h2 h3) (fun x hx => h x (List.mem_cons_of_mem _ hx))

theorem drop_pos (s : Int × Int) (l : List OpT) (h : SortO l) : ∀ x ∈ l.drop (posO s l), LessS s x.2.1 := by
  induction l with
  | nil => intro x hx; rw [List.drop_nil] at hx; exact absurd hx List.not_mem_nil
  | cons y l ih =>
    intro x hx
    rw [posO_cons] at hx
    have hp := List.pairwise_cons.1 h
    by_cases hy : LessS s y.2.1
    · rw [if_pos hy, List.drop_zero] at hx
      rcases List.mem_cons.1 hx with rfl | hx
      · exact hy
      · have := hp.1 x hx
        unfold LessS at this hy ⊢
        omega
    · rw [if_neg hy, List.drop_succ_cons] at hx
      exact ih hp.2 x hx

theorem rise_of_sortN (l : List NodeT) (h : SortN l) : RiseN l := by
  intro k h0 hk
  have := List.pairwise_iff_getElem.1 h (k - 1) k (by omega) hk (by omega)
  rw [nL_at l (k - 1) (by omega), nL_at l k hk]
  exact this

theorem nds_ok (x : NodeT) (h1 : MayS x.1) (h2 : ParS x.2.1) (h3 : x.2.2.1.size ≤ 200) (h4 : x.2.2.2.size ≤ 64) : ∀ p ∈ ndPs x, okP p = true := by
  intro p hp
  unfold ndPs at hp
  simp only [List.mem_cons, List.not_mem_nil, or_false] at hp
  rcases hp with rfl | rfl | rfl | rfl
  · exact stamp_okP _ _ _ (stamp_may h1)
  · exact stamp_okP _ _ _ (stamp_par h2)
  · exact text_okP _ _ _ (by omega)
  · exact text_okP _ _ _ (by omega)

theorem enc_nds_size (l : List NodeT) (h : ∀ x ∈ l, x.2.2.1.size ≤ 200 ∧ x.2.2.2.size ≤ 64) : (encA (l.flatMap ndPs)).size ≤ 282 * l.length := by
  induction l with
  | nil => exact Nat.le_refl _
  | cons x l ih =>
    have hz : (encA (ndPs x)).size = 18 + x.2.2.1.size + x.2.2.2.size := by
      unfold ndPs
      simp only [encA, enc1, enc3, enc4, ByteArray.size_append, bigB_size, ByteArray.size_empty]
      omega
    rw [List.flatMap_cons, encA_snoc, ByteArray.size_append, hz, List.length_cons]
    have h1 := h x (List.mem_cons_self ..)
    have h2 := ih (fun y hy => h y (List.mem_cons_of_mem _ hy))
    omega

/-- What is asked of a tree that is to be put. -/
structure MayPut (M : OpT → Bool) (T : TreeT) : Prop where
  fix : T.1.length ≤ 512 ∧ RiseN T.1 ∧ (∀ k, k < T.1.length → FixH T.2.2 (nL T.1 k)) ∧ FixC T.1
  rise : RiseO T.2.1
  ok : ∀ p ∈ snPs T, okP p = true
  put : putSP M true true T = (encA (snPs T), 0)
  size : (encA (snPs T)).size ≤ 65536
  few : T.1.length ≤ 30 ∧ T.2.1.length ≤ 30
  szN : ∀ k, k < T.1.length → (nL T.1 k).2.2.1.size ≤ 1048576 ∧ (nL T.1 k).2.2.2.size ≤ 9223372036854775807
  szO : ∀ k, k < T.2.1.length → (oL T.2.1 k).2.2.2.2.1.size ≤ 1048576 ∧ (oL T.2.1 k).2.2.2.2.2.size ≤ 9223372036854775807

theorem tree_put (M : OpT → Bool) (hM : ∀ o, M o = true ↔ MayO o) (l : List NodeT) (ops : List OpT) (b : Int × Int) (hR : Rooted l) (hN : ∀ x ∈ l, NdOk b x) (hs : SortO ops) (hm : ∀ o ∈ ops, M o = true ∧ LightO o ∧ LessS b o.2.1) (hb : b = (0, 0) ∨ MayS b) (hn : l.length + ops.length ≤ 30) : MayPut M (l, ops, b) := by
  have hfix : l.length ≤ 512 ∧ RiseN l ∧ (∀ k, k < l.length → FixH b (nL l k)) ∧ FixC l := ⟨by omega, rise_of_sortN l hR.sort, fun k hk => by
    have h1 := nL_mem l k hk
    obtain ⟨h2, h3, h4, _⟩ := hN _ h1
    exact ⟨hR.may _ h1, h2, h3, h4⟩, rooted_fix hR⟩
  have hok : ∀ p ∈ snPs (l, ops, b), okP p = true := by
    intro p hp
    unfold snPs at hp
    simp only [List.mem_cons, List.mem_append] at hp
    have num : ∀ n : Nat, n ≤ 30 → okP (2, (n : Int), 0, ⟨#[]⟩) = true := fun n h => by
      unfold okP kd pn
      rw [if_neg (by simp), if_pos rfl]
      unfold oneOk
      simp only [Bool.and_eq_true, decide_eq_true_eq]
      omega
    rcases hp with rfl | (rfl | hp) | (rfl | hp)
    · rcases hb with rfl | hb
      · exact stamp_okP _ _ _ (by decide)
      · exact stamp_okP _ _ _ (stamp_may hb)
    · exact num _ (by omega)
    · obtain ⟨x, hx, hp⟩ := List.mem_flatMap.1 hp
      obtain ⟨_, _, h4, h5⟩ := hN x hx
      exact nds_ok x (hR.may x hx) (hR.par x hx).1 h5 h4 p hp
    · exact num _ (by omega)
    · obtain ⟨o, ho, hp⟩ := List.mem_flatMap.1 hp
      exact ops_ok o ((hM o).1 (hm o ho).1) (hm o ho).2.1 p hp
  have hz : (encA (snPs (l, ops, b))).size = 19 + (encA (l.flatMap ndPs)).size + (encA (ops.flatMap opPs)).size := by
    unfold snPs
    simp only [encA, encA_snoc, List.cons_append, enc3, ByteArray.size_append, bigB_size]
    have e2 : ∀ n : Int, (encP (2, n, 0, ⟨#[]⟩)).size = 6 := fun n => by
      unfold encP kd pn
      rw [if_neg (by simp), if_pos rfl, bigB_size]
    rw [e2, e2]
    omega
  have h1 := enc_nds_size l (fun x hx => ⟨(hN x hx).2.2.2, (hN x hx).2.2.1⟩)
  have h2 := enc_ops_size ops (fun o ho => (hm o ho).2.1)
  have hc : codeP M true (l, ops, b) = ((l, ops, b), 0) := by
    unfold codeP
    rw [if_neg (fun h => by
      rcases hb with e | e
      · exact h.1 e
      · exact h.2 e), if_neg (by decide)]
    have h := of_again M l b ops [] (by simpa using hs) (fun o ho => ⟨(hm o ho).1, (hm o ho).2.2⟩) (by simp; omega)
    simpa using h
  exact ⟨hfix, rise_of_sort ops hs, hok, putS_fit M true true _ (by rw [hc]) rfl hok (by omega), by omega, ⟨by show l.length ≤ 30; omega, by show ops.length ≤ 30; omega⟩, fun k hk => by
    obtain ⟨_, _, h4, h5⟩ := hN _ (nL_mem l k hk)
    exact ⟨by show (nL l k).2.2.1.size ≤ _; omega, by show (nL l k).2.2.2.size ≤ _; omega⟩, fun k hk => by
    have h := (hm _ (oL_mem ops k hk)).2.1
    obtain ⟨h3, h4⟩ := h
    exact ⟨by show (oL ops k).2.2.2.2.1.size ≤ _; omega, by show (oL ops k).2.2.2.2.2.size ≤ _; omega⟩⟩

/-- Operations, up to a stamp for good. -/
theorem compact_put (M : OpT → Bool) (hM : ∀ o, M o = true ↔ MayO o) (O : List OpT) (s : Int × Int) (hs : SortO O) (hm : ∀ o ∈ O, M o = true ∧ LightO o ∧ LessS (0, 0) o.2.1) (hn : O.length ≤ 30) : MayPut M (compactP ([], O, (0, 0)) s).1 := by
  unfold compactP
  by_cases hS : MayS s
  · rw [if_pos hS]
    have h0 : LessS (0, 0) s := by
      have := hS.1
      unfold LessS
      simp only
      omega
    simp only
    rw [if_pos h0]
    have hmem : ∀ o ∈ O.take (posO s O), o ∈ O := fun o ho => List.mem_of_mem_take ho
    have hlen := nodesP_len [] (O.take (posO s O))
    have hl2 : (O.take (posO s O)).length + (O.drop (posO s O)).length = O.length := by rw [← List.length_append, List.take_append_drop]
    simp only [List.length_nil] at hlen
    refine tree_put M hM _ _ s (rooted_nodes rooted_nil _ (fun o ho => (hM o).1 (hm o (hmem o ho)).1)) (nodes_ok _ [] (fun _ h => absurd h List.not_mem_nil) (fun o ho => ⟨(hM o).1 (hm o (hmem o ho)).1, (hm o (hmem o ho)).2.1, take_pos s O o ho⟩)) (List.Pairwise.sublist (List.drop_sublist _ _) hs) (fun o ho => ?_) (.inr hS) (by omega)
    have ho' : o ∈ O := List.mem_of_mem_drop ho
    exact ⟨(hm o ho').1, (hm o ho').2.1, drop_pos s O hs o ho⟩
  · rw [if_neg hS]
    exact tree_put M hM [] O (0, 0) rooted_nil (fun _ h => absurd h List.not_mem_nil) hs hm (.inl rfl) (by simpa using hn)
end Go.Proofs.YtdmlffbpcjadfaaDoor
