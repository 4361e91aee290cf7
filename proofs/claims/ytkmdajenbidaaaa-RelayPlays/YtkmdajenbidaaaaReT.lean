/- Layer 21 on plain data: which frames are put; a relay's answers are. Nothing of the program. -/
import Derived.Test.YtkmdajenbidaaaaReQ
namespace Go.Proofs.Ytkmdajenbidaaaa
open Go.RowKit
set_option maxRecDepth 100000
set_option linter.unusedSimpArgs false
set_option linter.unusedVariables false

def InN (n : Int) : Prop := 0 ≤ n ∧ n ≤ 1099511627775

/-- A frame that is put. -/
structure FitF (F : FrmT) : Prop where
  own : ownB F = true
  k : 1 ≤ F.1 ∧ F.1 ≤ 9
  g : InN F.2.1
  s : InN F.2.2.1
  e : InN F.2.2.2.1
  m : InN F.2.2.2.2.1
  r : 0 ≤ F.2.2.2.2.2.2.2 ∧ F.2.2.2.2.2.2.2 ≤ 999
  bl : F.2.2.2.2.2.1.size ≤ 20000
  n : F.2.2.2.2.2.2.1.length ≤ 32
  it : ∀ i, InN (itL F.2.2.2.2.2.2.1 i).1 ∧ InN (itL F.2.2.2.2.2.2.1 i).2.1 ∧ (itL F.2.2.2.2.2.2.1 i).2.2.size ≤ 20000
  z : sizeL F.2.2.2.2.2.2.1 ≤ 40000

theorem encA_cons (p : Int × Int × Int × ByteArray) (l : List (Int × Int × Int × ByteArray)) : (encA (p :: l)).size = (encP p).size + (encA l).size := by
  show (encP p ++ encA l).size = _
  rw [ByteArray.size_append]

theorem encA_none : (encA []).size = 0 := rfl

theorem itPs_size (l : List ItT) : (encA (l.flatMap itPs)).size = 14 * l.length + sizeL l := by
  induction l with
  | nil => rfl
  | cons x l ih =>
    show (encA (itPs x ++ l.flatMap itPs)).size = _
    rw [encA_snoc, ByteArray.size_append, ih]
    simp only [itPs, encA_cons, encA_none, encP_size19, kd, ps, sizeL, List.length_cons]
    simp
    omega

theorem frHd_size (F : FrmT) : (encA (frHd F)).size = 34 + F.2.2.2.2.2.1.size := by
  simp only [frHd, encA_cons, encA_none, encP_size19, kd, ps]
  simp
  omega

theorem fit_put {F : FrmT} (h : FitF F) : (putFC F).2 = 0 ∧ (putFC F).1.size ≤ 65536 := by
  have hsz : (encA (frPs F)).size ≤ 65536 := by
    unfold frPs
    rw [encA_snoc, ByteArray.size_append, itPs_size, frHd_size]
    have := h.bl
    have := h.n
    have := h.z
    omega
  have hmi : MayI F.2.2.2.2.2.2.1 := ⟨h.n, fun i _ => (h.it i).2.2⟩
  have hm : mayCb F = true := by
    unfold mayCb
    simp only [Bool.and_eq_true, decide_eq_true_iff]
    exact ⟨⟨⟨h.r.2, h.bl⟩, (mayIb_iff _).2 hmi⟩, h.own⟩
  have hok : ∀ p ∈ frPs F, okP p = true := by
    intro p hp
    rcases List.mem_append.1 hp with e | e
    · have hr := h.r
      have hg := h.g
      have hs := h.s
      have he := h.e
      have hmm := h.m
      have hk := h.k
      have hb := h.bl
      have hn := h.n
      unfold InN at hg hs he hmm
      simp only [frHd, List.mem_cons, List.not_mem_nil, or_false] at e
      rcases e with rfl | rfl | rfl | rfl | rfl | rfl | rfl | rfl
      · rw [byte_okQ, oneOk_iff]; omega
      · rw [num_okP, oneOk_iff]; exact hg
      · rw [num_okP, oneOk_iff]; exact hs
      · rw [num_okP, oneOk_iff]; exact he
      · rw [num_okP, oneOk_iff]; exact hmm
      · rw [num_okP, oneOk_iff]; omega
      · rw [text_okQ]; exact decide_eq_true (by omega)
      · rw [byte_okQ, oneOk_iff]; omega
    · obtain ⟨x, hx, hp2⟩ := List.mem_flatMap.1 e
      obtain ⟨i, hi, rfl⟩ := List.getElem_of_mem hx
      have hq := h.it i
      rw [itL_get _ i hi] at hq
      obtain ⟨q1, q2, q3⟩ := hq
      unfold InN at q1 q2
      simp only [itPs, List.mem_cons, List.not_mem_nil, or_false] at hp2
      rcases hp2 with rfl | rfl | rfl
      · rw [num_okP, oneOk_iff]; exact q1
      · rw [num_okP, oneOk_iff]; exact q2
      · rw [text_okQ]; exact decide_eq_true (by omega)
  have := putB_fit (mayCb F) (frPs F) hm hok hsz
  unfold putFC
  rw [this]
  exact ⟨rfl, hsz⟩

theorem fit_take {F : FrmT} (h : FitF F) : takeFC (putFC F).1 = (F, 0) := takeFC_put F _ (Prod.ext rfl (fit_put h).1)

/-- Of a relay's records: their epochs. -/
structure EpOk (X : RlT) : Prop where
  it : ∀ i, InN (itL X.2.2.2 i).2.1
  kp : InN X.2.2.1.2.1

theorem inN_zero : InN 0 := ⟨by decide, by decide⟩

theorem newR_ep (g q : Int) : EpOk (newR g q) := ⟨fun i => inN_zero, inN_zero⟩

theorem FrOk.ep {F : FrmT} (h : FrOk F) : InN F.2.2.2.1 := ⟨h.e0, h.e1⟩

theorem doR_ep {X : RlT} (h : EpOk X) {F : FrmT} (hF : FrOk F) : EpOk (doR X F).1 := by
  unfold doR
  split
  · exact h
  · split
    · unfold addR
      split
      · exact h
      · split
        · exact h
        · split
          · exact h
          · refine ⟨fun i => ?_, h.kp⟩
            show InN (itL (X.2.2.2 ++ [_]) i).2.1
            rw [itL_snoc]
            split
            · exact h.it i
            · split
              · exact hF.ep
              · exact h.it i
    · split
      · exact h
      · split
        · unfold keepR
          split
          · exact h
          · split
            · exact h
            · refine ⟨fun i => ?_, hF.ep⟩
              show InN (itL (X.2.2.2.drop _) i).2.1
              rw [itL_drop]
              exact h.it _
        · split <;> exact h

theorem fitL_size (l : List ItT) : sizeL (fitL l) ≤ 40000 := by
  unfold fitL
  cases hf : fstN (fun i => decide (40000 < sizeL (l.take (i + 1)))) l.length 0 with
  | some i =>
    obtain ⟨_, _, _, h4⟩ := fstN_some _ _ 0 i hf
    show sizeL (l.take i) ≤ _
    by_cases e : i = 0
    · rw [e]; simp [sizeL]
    · have := h4 (i - 1) (Nat.zero_le _) (by omega)
      rw [decide_eq_false_iff_not, show i - 1 + 1 = i by omega] at this
      omega
  | none =>
    show sizeL l ≤ _
    by_cases e : l.length = 0
    · rw [List.length_eq_zero_iff.1 e]; simp [sizeL]
    · have := fstN_none _ _ 0 hf (l.length - 1) (Nat.zero_le _) (by omega)
      rw [decide_eq_false_iff_not, show l.length - 1 + 1 = l.length by omega, List.take_length] at this
      omega

theorem fitE {g e : Int} (hg : InN g) (he : 0 ≤ e ∧ e ≤ 999) : FitF (withG (errF e) g) := by
  refine ⟨?_, ⟨by show (1 : Int) ≤ 9; decide, by show (9 : Int) ≤ 9; decide⟩, hg, inN_zero, inN_zero, inN_zero, he, by show (ByteArray.empty).size ≤ _; decide, by show (0 : Nat) ≤ 32; decide, fun i => ⟨inN_zero, inN_zero, by show (ByteArray.empty).size ≤ _; decide⟩, by show (0 : Nat) ≤ 40000; decide⟩
  rfl

theorem fitT {g s : Int} (hg : InN g) (hs : InN s) : FitF (withG (takF s) g) := by
  refine ⟨?_, ⟨by show (1 : Int) ≤ 2; decide, by show (2 : Int) ≤ 9; decide⟩, hg, hs, inN_zero, inN_zero, ⟨by show (0 : Int) ≤ 0; decide, by show (0 : Int) ≤ 999; decide⟩, by show (ByteArray.empty).size ≤ _; decide, by show (0 : Nat) ≤ 32; decide, fun i => ⟨inN_zero, inN_zero, by show (ByteArray.empty).size ≤ _; decide⟩, by show (0 : Nat) ≤ 40000; decide⟩
  simp [withG, takF, ownB, nmB, nmL]
  try rfl

theorem RlOk.seqIn {N : Nat} {X : RlT} (h : RlOk N X) (hN : (N : Int) ≤ 1099511627775) (i : Nat) : InN (itL X.2.2.2 i).1 := by
  by_cases e : i < X.2.2.2.length
  · rw [h.seq i e]
    have h1 := h.last
    have h2 := h.b0
    unfold lastL at h1
    exact ⟨by omega, by omega⟩
  · have : itL X.2.2.2 i = (0, 0, ByteArray.empty) := by
      show X.2.2.2.getD i _ = _
      rw [List.getD_eq_getElem?_getD, List.getElem?_eq_none (by omega)]
      rfl
    rw [this]; exact inN_zero

theorem ans_fit {N : Nat} {X : RlT} (h : RlOk N X) (hp : EpOk X) (hN : (N : Int) < 1099511627775) {F : FrmT} (hF : FrOk F) : FitF (withG (doR X F).2 X.1) := by
  have hg : InN X.1 := ⟨h.g0, h.g1⟩
  have h1 := h.last
  have h2 := h.b0
  have h3 := h.seqIn (by omega)
  unfold lastL at h1
  unfold doR
  split
  · exact fitE hg ⟨by decide, by decide⟩
  · split
    · unfold addR
      split
      · exact fitT hg (h3 _)
      · split
        · exact fitE hg ⟨by decide, by decide⟩
        · split
          · exact fitE hg ⟨by decide, by decide⟩
          · exact fitT hg ⟨by unfold lastL; omega, by unfold lastL; omega⟩
    · split
      · show FitF (withG (giveR X F) X.1)
        have ho := giveR_ok h F
        unfold giveR at ho ⊢
        split
        · exact fitE hg ⟨by decide, by decide⟩
        · next hb =>
          rw [if_neg hb] at ho
          obtain ⟨L, hL⟩ : ∃ L, firstL (X.2.2.2.drop (min F.2.2.1 (lastL X + 1) - 1 - X.2.2.1.1).toNat) (min F.2.2.2.2.1 32).toNat = L := ⟨_, rfl⟩
          have hz : sizeL L ≤ 40000 := by rw [← hL]; exact fitL_size _
          have hn : L.length ≤ 32 := by
            rw [← hL]
            unfold firstL
            obtain ⟨m, hm⟩ := fitL_take ((X.2.2.2.drop (min F.2.2.1 (lastL X + 1) - 1 - X.2.2.1.1).toNat).take (min F.2.2.2.2.1 32).toNat)
            rw [hm, List.length_take, List.length_take]
            omega
          have hi : ∀ i, InN (itL L i).1 ∧ InN (itL L i).2.1 ∧ (itL L i).2.2.size ≤ 20000 := by
            intro i
            rw [← hL]
            unfold firstL
            obtain ⟨m, hm⟩ := fitL_take ((X.2.2.2.drop (min F.2.2.1 (lastL X + 1) - 1 - X.2.2.1.1).toNat).take (min F.2.2.2.2.1 32).toNat)
            rw [hm]
            refine itL_take_any _ m i (fun x => InN x.1 ∧ InN x.2.1 ∧ x.2.2.size ≤ 20000) (fun j => ?_) ⟨inN_zero, inN_zero, by show (ByteArray.empty).size ≤ _; decide⟩
            refine itL_take_any _ _ j (fun x => InN x.1 ∧ InN x.2.1 ∧ x.2.2.size ≤ 20000) (fun j => ?_) ⟨inN_zero, inN_zero, by show (ByteArray.empty).size ≤ _; decide⟩
            simp only [itL_drop]
            exact ⟨h3 _, hp.it _, h.sm _⟩
          rw [hL]
          refine ⟨?_, ⟨by show (1 : Int) ≤ 4; decide, by show (4 : Int) ≤ 9; decide⟩, hg, inN_zero, inN_zero, inN_zero, ⟨by show (0 : Int) ≤ 0; decide, by show (0 : Int) ≤ 999; decide⟩, by show (ByteArray.empty).size ≤ _; decide, hn, hi, hz⟩
          (simp [withG, ownB, nmB, nmL]; try rfl)
      · split
        · unfold keepR
          split
          · exact fitE hg ⟨by decide, by decide⟩
          · split
            · exact fitE hg ⟨by decide, by decide⟩
            · refine ⟨?_, ⟨by show (1 : Int) ≤ 6; decide, by show (6 : Int) ≤ 9; decide⟩, hg, ⟨hF.s0, hF.s1⟩, inN_zero, inN_zero, ⟨by show (0 : Int) ≤ 0; decide, by show (0 : Int) ≤ 999; decide⟩, by show (ByteArray.empty).size ≤ _; decide, by show (0 : Nat) ≤ 32; decide, fun i => ⟨inN_zero, inN_zero, by show (ByteArray.empty).size ≤ _; decide⟩, by show (0 : Nat) ≤ 40000; decide⟩
              (simp [withG, ownB, nmB, nmL]; try rfl)
        · split
          · show FitF (withG (showR X) X.1)
            unfold showR
            split
            · exact fitE hg ⟨by decide, by decide⟩
            · refine ⟨?_, ⟨by show (1 : Int) ≤ 8; decide, by show (8 : Int) ≤ 9; decide⟩, hg, ⟨h.b0, by show X.2.2.1.1 ≤ _; omega⟩, hp.kp, inN_zero, ⟨by show (0 : Int) ≤ 0; decide, by show (0 : Int) ≤ 999; decide⟩, h.sk, by show (0 : Nat) ≤ 32; decide, fun i => ⟨inN_zero, inN_zero, by show (ByteArray.empty).size ≤ _; decide⟩, by show (0 : Nat) ≤ 40000; decide⟩
              (simp [withG, ownB, nmB, nmL]; try rfl)
          · exact fitE hg ⟨by decide, by decide⟩

/-- A frame that is put is heard as it is. -/
theorem hearF_put {X : RlT} {F : FrmT} (h : FitF F) : hearF X (putFC F).1 = doR X F := by
  unfold hearF
  rw [fit_take h]
  simp

theorem FitF.ok {F : FrmT} (h : FitF F) : FrOk F := frOk_of F _ (Prod.ext rfl (fit_put h).1)

end Go.Proofs.Ytkmdajenbidaaaa
