/- Layer 21 on plain data: what a relay has stays within its bounds. Nothing of the program. -/
import Derived.Test.YtkmdajenbidaaaaReP
import Derived.Test.YtkmdajenbidaaaaWiU
namespace Go.Proofs.Ytkmdajenbidaaaa
open Go.RowKit
set_option maxRecDepth 100000
set_option linter.unusedSimpArgs false
set_option linter.unusedVariables false

/-- What is so of each frame that was taken. -/
structure FrOk (F : FrmT) : Prop where
  s0 : 0 ≤ F.2.2.1
  s1 : F.2.2.1 ≤ 1099511627775
  e0 : 0 ≤ F.2.2.2.1
  e1 : F.2.2.2.1 ≤ 1099511627775
  m0 : 0 ≤ F.2.2.2.2.1
  m1 : F.2.2.2.2.1 ≤ 1099511627775
  bl : F.2.2.2.2.2.1.size ≤ 20000
  it : F.2.2.2.2.2.2.1.length ≤ 32

theorem frOk_of (F : FrmT) (s : ByteArray) (h : putFC F = (s, 0)) : FrOk F := by
  obtain ⟨h1, h2, _⟩ := putB_inv _ _ _ h
  obtain ⟨_, k2, k3, _⟩ := mayC_parts h1
  have hp : ∀ p ∈ frHd F, okP p = true := fun p hp => h2 p (List.mem_append_left _ hp)
  have a := hp (2, F.2.2.1, 0, ⟨#[]⟩) (by simp [frHd])
  have b := hp (2, F.2.2.2.1, 0, ⟨#[]⟩) (by simp [frHd])
  have c := hp (2, F.2.2.2.2.1, 0, ⟨#[]⟩) (by simp [frHd])
  rw [num_okP, oneOk_iff] at a b c
  exact ⟨a.1, a.2, b.1, b.2, c.1, c.2, k2, k3.1⟩

theorem takeFC_ok (s : ByteArray) : FrOk (takeFC s).1 := by
  by_cases h : (takeFC s).2 = 0
  · exact frOk_of _ s (takeFC_inv s h)
  · unfold takeFC at h ⊢
    split at h
    · next k => rw [if_pos k]; exact ⟨by decide, by decide, by decide, by decide, by decide, by decide, by decide, by decide⟩
    · exact absurd rfl h

theorem itL_drop (l : List ItT) (k i : Nat) : itL (l.drop k) i = itL l (k + i) := by
  show (l.drop k).getD i _ = l.getD (k + i) _
  simp [List.getD, List.getElem?_drop]

theorem itL_take (l : List ItT) (k i : Nat) (h : i < k) : itL (l.take k) i = itL l i := by
  show (l.take k).getD i _ = l.getD i _
  simp [List.getD, List.getElem?_take_of_lt h]

theorem itL_snoc (l : List ItT) (x : ItT) (i : Nat) : itL (l ++ [x]) i = if i < l.length then itL l i else if i = l.length then x else itL l i := by
  show (l ++ [x]).getD i _ = _
  by_cases h : i < l.length
  · rw [if_pos h]
    show _ = l.getD i _
    simp [List.getD, List.getElem?_append_left h]
  · rw [if_neg h]
    by_cases e : i = l.length
    · rw [if_pos e, e]
      simp [List.getD]
    · rw [if_neg e]
      show _ = l.getD i _
      simp [List.getD, List.getElem?_append_right (show l.length ≤ i by omega), List.getElem?_eq_none (show l.length ≤ i by omega)]
      rw [List.getElem?_eq_none (by simp; omega)]
      rfl

theorem addR_ok {N : Nat} {X : RlT} (h : RlOk N X) {F : FrmT} (hF : FrOk F) : RlOk (N + 1) (addR X F).1 := by
  have up : RlOk (N + 1) X := ⟨h.g0, h.g1, h.q0, h.q1, h.b0, by have := h.last; omega, h.many, h.bytes, h.seq, h.sm, h.sk⟩
  unfold addR
  split
  · exact up
  · split
    · exact up
    · next hm =>
      split
      · exact up
      · next hq =>
        refine ⟨h.g0, h.g1, h.q0, h.q1, h.b0, ?_, ?_, ?_, ?_, ?_, h.sk⟩
        · have := h.last
          unfold lastL at this ⊢
          simp only [List.length_append, List.length_cons, List.length_nil]
          omega
        · simp only [List.length_append, List.length_cons, List.length_nil]
          omega
        · unfold bytesL at hq ⊢
          simp only [sizeL_append, sizeL]
          omega
        · intro i hi
          simp only [List.length_append, List.length_cons, List.length_nil] at hi
          show (itL (X.2.2.2 ++ [_]) i).1 = _
          rw [itL_snoc]
          by_cases e : i < X.2.2.2.length
          · rw [if_pos e]; exact h.seq i e
          · rw [if_neg e, if_pos (by omega)]
            show lastL X + 1 = X.2.2.1.1 + (i : Int) + 1
            unfold lastL
            omega
        · intro i
          show (itL (X.2.2.2 ++ [_]) i).2.2.size ≤ _
          rw [itL_snoc]
          split
          · exact h.sm i
          · split
            · exact hF.bl
            · exact h.sm i

theorem keepR_ok {N : Nat} {X : RlT} (h : RlOk N X) {F : FrmT} (hF : FrOk F) : RlOk (N + 1) (keepR X F).1 := by
  have up : RlOk (N + 1) X := ⟨h.g0, h.g1, h.q0, h.q1, h.b0, by have := h.last; omega, h.many, h.bytes, h.seq, h.sm, h.sk⟩
  unfold keepR
  split
  · exact up
  · next hk =>
    have k1 : ¬ (F.2.2.1 ≤ X.2.2.1.1) := fun e => hk (.inl e)
    have k2 : ¬ (lastL X < F.2.2.1) := fun e => hk (.inr e)
    unfold lastL at k2
    split
    · exact up
    · next hq =>
      obtain ⟨k, hkk⟩ : ∃ k : Nat, (F.2.2.1 - X.2.2.1.1).toNat = k := ⟨_, rfl⟩
      rw [hkk] at hq ⊢
      refine ⟨h.g0, h.g1, h.q0, h.q1, hF.s0, ?_, ?_, ?_, ?_, ?_, hF.bl⟩
      · have := h.last
        unfold lastL at this ⊢
        simp only [List.length_drop]
        omega
      · simp only [List.length_drop]
        have := h.many
        omega
      · unfold bytesL
        simp only
        omega
      · intro i hi
        simp only [List.length_drop] at hi
        show (itL (X.2.2.2.drop k) i).1 = F.2.2.1 + (i : Int) + 1
        rw [itL_drop, h.seq _ (by omega)]
        omega
      · intro i
        show (itL (X.2.2.2.drop k) i).2.2.size ≤ _
        rw [itL_drop]
        exact h.sm _

theorem doR_ok {N : Nat} {X : RlT} (h : RlOk N X) {F : FrmT} (hF : FrOk F) : RlOk (N + 1) (doR X F).1 := by
  have up : RlOk (N + 1) X := ⟨h.g0, h.g1, h.q0, h.q1, h.b0, by have := h.last; omega, h.many, h.bytes, h.seq, h.sm, h.sk⟩
  unfold doR
  split
  · exact up
  · split
    · exact addR_ok h hF
    · split
      · exact up
      · split
        · exact keepR_ok h hF
        · split
          · exact up
          · exact up

theorem hearR_ok {N : Nat} {X : RlT} (h : RlOk N X) (s : ByteArray) : RlOk (N + 1) (hearR X s).1 := by
  unfold hearR hearF
  simp only
  split
  · exact ⟨h.g0, h.g1, h.q0, h.q1, h.b0, by have := h.last; show lastL X ≤ _; omega, h.many, h.bytes, h.seq, h.sm, h.sk⟩
  · exact doR_ok h (takeFC_ok s)

theorem bytes_it {N : Nat} {X : RlT} (h : RlOk N X) (i : Nat) : (itL X.2.2.2 i).2.2.size ≤ 1048576 := by
  have h1 := h.bytes
  have h2 := h.q1
  have h3 := size_itL X.2.2.2 i
  unfold bytesL at h1
  omega

/-- An answer's measures. -/
structure AnsOk (A : FrmT) : Prop where
  it : A.2.2.2.2.2.2.1.length ≤ 1024
  sm : ∀ i, (itL A.2.2.2.2.2.2.1 i).2.2.size ≤ 20000
  bl : A.2.2.2.2.2.1.size ≤ 20000

theorem ansOk_nil {A : FrmT} (h : A.2.2.2.2.2.2.1 = []) (h2 : A.2.2.2.2.2.1.size ≤ 20000) : AnsOk A := ⟨by rw [h]; decide, fun i => by rw [h]; show (ByteArray.empty).size ≤ _; decide, h2⟩

theorem fitL_take (l : List ItT) : ∃ m, fitL l = l.take m := by
  unfold fitL
  split
  · exact ⟨_, rfl⟩
  · exact ⟨l.length, (List.take_length ..).symm⟩

theorem itL_take_any (l : List ItT) (k i : Nat) (P : ItT → Prop) (h : ∀ i, P (itL l i)) (h0 : P (0, 0, ByteArray.empty)) : P (itL (l.take k) i) := by
  by_cases e : i < k
  · rw [itL_take _ _ _ e]; exact h i
  · have : itL (l.take k) i = (0, 0, ByteArray.empty) := by
      show (l.take k).getD i _ = _
      rw [List.getD_eq_getElem?_getD, List.getElem?_eq_none (by rw [List.length_take]; omega)]
      rfl
    rw [this]; exact h0

theorem giveR_ok {N : Nat} {X : RlT} (h : RlOk N X) (F : FrmT) : AnsOk (giveR X F) := by
  unfold giveR
  split
  · exact ansOk_nil rfl (by show (ByteArray.empty).size ≤ _; decide)
  · refine ⟨?_, fun i => ?_, (by show (ByteArray.empty).size ≤ _; decide)⟩
    · obtain ⟨m, hm⟩ := fitL_take ((X.2.2.2.drop (min F.2.2.1 (lastL X + 1) - 1 - X.2.2.1.1).toNat).take (min F.2.2.2.2.1 32).toNat)
      show (firstL _ _).length ≤ _
      unfold firstL
      rw [hm, List.length_take, List.length_take]
      omega
    · obtain ⟨m, hm⟩ := fitL_take ((X.2.2.2.drop (min F.2.2.1 (lastL X + 1) - 1 - X.2.2.1.1).toNat).take (min F.2.2.2.2.1 32).toNat)
      show (itL (firstL _ _) i).2.2.size ≤ _
      unfold firstL
      rw [hm]
      refine itL_take_any _ m i (fun x => x.2.2.size ≤ 20000) (fun j => ?_) (by show (ByteArray.empty).size ≤ _; decide)
      refine itL_take_any _ _ j (fun x => x.2.2.size ≤ 20000) (fun j => ?_) (by show (ByteArray.empty).size ≤ _; decide)
      simp only [itL_drop]
      exact h.sm _

theorem doR_ans {N : Nat} {X : RlT} (h : RlOk N X) (F : FrmT) : AnsOk (doR X F).2 := by
  have e0 : ∀ e : Int, AnsOk (errF e) := fun e => ansOk_nil rfl (by show (ByteArray.empty).size ≤ _; decide)
  have t0 : ∀ e : Int, AnsOk (takF e) := fun e => ansOk_nil rfl (by show (ByteArray.empty).size ≤ _; decide)
  unfold doR
  split
  · exact e0 1
  · split
    · unfold addR
      split
      · exact t0 _
      · split
        · exact e0 _
        · split
          · exact e0 _
          · exact t0 _
    · split
      · exact giveR_ok h F
      · split
        · unfold keepR
          split
          · exact e0 _
          · split
            · exact e0 _
            · exact ansOk_nil rfl (by show (ByteArray.empty).size ≤ _; decide)
        · split
          · show AnsOk (showR X)
            unfold showR
            split
            · exact e0 _
            · exact ansOk_nil rfl h.sk
          · exact e0 _

theorem hearF_ans {N : Nat} {X : RlT} (h : RlOk N X) (s : ByteArray) : AnsOk (hearF X s).2 := by
  unfold hearF
  split
  · exact ansOk_nil rfl (by show (ByteArray.empty).size ≤ _; decide)
  · exact doR_ans h _

/-- The group and the quota stay. -/
theorem doR_same (X : RlT) (F : FrmT) : (doR X F).1.1 = X.1 ∧ (doR X F).1.2.1 = X.2.1 := by
  unfold doR addR keepR
  repeat' split
  all_goals exact ⟨rfl, rfl⟩

theorem hearF_same (X : RlT) (s : ByteArray) : (hearF X s).1.1 = X.1 ∧ (hearF X s).1.2.1 = X.2.1 := by
  unfold hearF
  split
  · exact ⟨rfl, rfl⟩
  · exact doR_same X _

def newR (g q : Int) : RlT := (g, q, (0, 0, ⟨#[]⟩), [])

theorem newR_ok {g q : Int} (h0 : 0 ≤ g) (h1 : g ≤ 1099511627775) (h2 : 0 ≤ q) (h3 : q ≤ 1048576) : RlOk 0 (newR g q) :=
  ⟨h0, h1, h2, h3, Int.le_refl _, (by show (0 : Int) + ((0 : Nat) : Int) ≤ _; decide), (by show (0 : Nat) ≤ 1024; decide), (by show ((0 + 0 : Nat) : Int) ≤ q; simpa using h2), (fun i hi => by cases hi), (fun i => by show (ByteArray.empty).size ≤ _; decide), (by show (ByteArray.empty).size ≤ _; decide)⟩

end Go.Proofs.Ytkmdajenbidaaaa
