/- RelayQuota's walk. -/
import Derived.Test.YtmlpbbancoedgaaReW
namespace Go.Proofs.Ytmlpbbancoedgaa
open Go.RowKit
set_option maxRecDepth 100000
set_option linter.unusedSimpArgs false
set_option linter.unusedVariables false

/-- What holds of the relay ahead of the k-th round. -/
structure QuP (q k : Nat) (X : RlT) : Prop where
  g : X.1 = 1
  q : X.2.1 = (q : Int)
  ok : RlOk k X
  ep : EpOk X
  n : X.2.2.2.length ≤ k
  e : ∀ j, j < X.2.2.2.length → (itL X.2.2.2 j).2.1 ≤ (k : Int)

theorem QuP.same {q k : Nat} {X : RlT} (h : QuP q k X) : QuP q (k + 1) X :=
  ⟨h.g, h.q, ⟨h.ok.g0, h.ok.g1, h.ok.q0, h.ok.q1, h.ok.b0, by have := h.ok.last; omega, h.ok.many, h.ok.bytes, h.ok.seq, h.ok.sm, h.ok.sk⟩, h.ep, by have := h.n; omega, fun j hj => by have := h.e j hj; omega⟩

/-- A record of a new epoch. -/
theorem qu_add {q k : Nat} {X : RlT} (h : QuP q k X) (hk : k < 60) (n : Nat) (hn : n < 256) :
    (q < bytesL X + n ∧ doR X (appF 1 (1 + (k : Int)) (zeroB n)) = (X, errF 211)) ∨ (bytesL X + n ≤ q ∧ ∃ X', doR X (appF 1 (1 + (k : Int)) (zeroB n)) = (X', takF (lastL X + 1)) ∧ QuP q (k + 1) X' ∧ lastL X' = lastL X + 1) := by
  have hF : FrOk (appF 1 (1 + (k : Int)) (zeroB n)) := (appF_fit ⟨by decide, by decide⟩ ⟨by omega, by omega⟩ (by rw [zeroB_sz]; omega)).ok
  have hdo := doR_app X h.g (1 + (k : Int)) (zeroB n)
  have hsa : sameA X.2.2.2 (1 + (k : Int)) (zeroB n) = none := fstN_no _ _ (fun m hm => by
    have := h.e m hm
    rw [Bool.and_eq_false_iff]
    exact .inl (decide_eq_false (by omega)))
  have hadd : addR X (appF 1 (1 + (k : Int)) (zeroB n)) = if (q : Int) < (bytesL X : Int) + (n : Int) then (X, errF 211) else ((X.1, X.2.1, X.2.2.1, X.2.2.2 ++ [(lastL X + 1, 1 + (k : Int), zeroB n)]), takF (lastL X + 1)) := by
    rw [addR_new X 1 _ _ hsa, if_neg (by have := h.n; omega), zeroB_sz, h.q]
  rw [hdo, hadd]
  by_cases hq : (q : Int) < (bytesL X : Int) + (n : Int)
  · rw [if_pos hq]
    exact .inl ⟨by omega, rfl⟩
  · rw [if_neg hq]
    have hok := doR_ok h.ok hF
    have hep := doR_ep h.ep hF
    rw [hdo, hadd, if_neg hq] at hok hep
    refine .inr ⟨by omega, _, rfl, ⟨h.g, h.q, hok, hep, ?_, ?_⟩, ?_⟩
    · show (X.2.2.2 ++ [_]).length ≤ _
      rw [List.length_append]
      have := h.n
      simp
      omega
    · intro j hj
      show (itL (X.2.2.2 ++ [_]) j).2.1 ≤ _
      rw [itL_snoc]
      by_cases e : j < X.2.2.2.length
      · rw [if_pos e]; have := h.e j e; omega
      · have hj2 : j < (X.2.2.2 ++ [(lastL X + 1, 1 + (k : Int), zeroB n)]).length := hj
        rw [List.length_append] at hj2
        simp at hj2
        rw [if_neg e, if_pos (by omega)]
        show 1 + (k : Int) ≤ _
        omega
    · unfold lastL
      show X.2.2.1.1 + ((X.2.2.2 ++ [_]).length : Int) = _
      rw [List.length_append]
      simp
      omega

/-- A snapshot. -/
theorem qu_kep {q k : Nat} {X : RlT} (h : QuP q k X) (hk : k < 60) : ∃ X', (doR X (kepF 1 (lastL X) 1 ⟨#[115, 110, 97, 112]⟩)).1 = X' ∧ QuP q (k + 1) X' := by
  have h1 := h.ok.last
  have h2 := h.ok.b0
  have h3 : 0 ≤ lastL X := by unfold lastL; omega
  have hF : FrOk (kepF 1 (lastL X) 1 ⟨#[115, 110, 97, 112]⟩) := (kepF_fit ⟨by decide, by decide⟩ ⟨h3, by omega⟩ ⟨by decide, by decide⟩ (by decide)).ok
  have hok := doR_ok h.ok hF
  have hep := doR_ep h.ep hF
  have hs := doR_same X (kepF 1 (lastL X) 1 ⟨#[115, 110, 97, 112]⟩)
  have hdo := doR_kep X h.g (lastL X) 1 ⟨#[115, 110, 97, 112]⟩
  refine ⟨_, rfl, hs.1.trans h.g, hs.2.trans h.q, hok, hep, ?_, ?_⟩
  · rw [hdo]
    unfold keepR
    split
    · have := h.n; exact Nat.le_succ_of_le this
    · split
      · have := h.n; exact Nat.le_succ_of_le this
      · show (X.2.2.2.drop _).length ≤ _
        rw [List.length_drop]
        have := h.n
        omega
  · rw [hdo]
    unfold keepR
    split
    · intro j hj; have := h.e j hj; show (itL X.2.2.2 j).2.1 ≤ _; omega
    · split
      · intro j hj; have := h.e j hj; show (itL X.2.2.2 j).2.1 ≤ _; omega
      · intro j hj
        have hj2 : j < (X.2.2.2.drop ((kepF 1 (lastL X) 1 ⟨#[115, 110, 97, 112]⟩).2.2.1 - X.2.2.1.1).toNat).length := hj
        rw [List.length_drop] at hj2
        show (itL (X.2.2.2.drop _) j).2.1 ≤ _
        rw [itL_drop]
        have := h.e (((kepF 1 (lastL X) 1 ⟨#[115, 110, 97, 112]⟩).2.2.1 - X.2.2.1.1).toNat + j) (by omega)
        omega

end Go.Proofs.Ytmlpbbancoedgaa
