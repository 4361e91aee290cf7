/- Layer 18, the code's: whole. -/
import Derived.Test.YtaakmcihpdbilaaDoorSmC
namespace Go.Proofs.YtaakmcihpdbilaaDoor
open Go.RowKit
set_option maxRecDepth 100000
set_option linter.unusedSimpArgs false
set_option linter.unusedVariables false
set_option maxRecDepth 100000

theorem allB_cut (L : List ByteArray) (p n : Nat) (h : AllB L) : ∀ k d, n ≤ 64 * k → p + (k + d) < L.length → (allB L p (k + d)).extract 0 n = (allB L p k).extract 0 n
  | k, 0, _, _ => rfl
  | k, d + 1, hn, hp => by
    show (allB L p (k + d) ++ strL L (p + (k + d + 1))).extract 0 n = _
    rw [ext_head _ _ _ (by rw [allB_size L p (k + d) h (by omega)]; omega)]
    exact allB_cut L p n h k d hn (by omega)

theorem inNum_err (i : ByteArray × Int) (h : (inNumP i).1.2 ≠ 0) : (inNumP i).2 = 0 := by
  unfold inNumP at h ⊢
  split
  · rfl
  · rename_i hc
    rw [if_neg hc] at h
    exact number_wrong i 6 h
/-- What the code takes of a half. -/
def wholeC (L : List ByteArray) (wh : Nat) : Int × ByteArray :=
  let p := wh * (L.length / 2)
  if (hf1 L p).2 < 1 ∨ (hf1 L p).2 % 2 ≠ wh ∨ 64 * (L.length / 2 - 1) < (hf2 L p).2 then (0, ⟨#[]⟩)
  else
    let laid := (catB L (p + 1) (((hf2 L p).2 + 63) / 64)).extract 0 (hf2 L p).2
    if strL L p ≠ hdB ((hf1 L p).2 : Int) laid ∨ txsP laid = none ∨ txsP laid = some [] then (0, ⟨#[]⟩) else ((hf1 L p).2, laid)
/-- The half of the document. -/
def wholeP (L : List ByteArray) (wh : Nat) : Int × ByteArray := match halfP L wh with
  | some X => (X.2.2.1, X.2.2.2)
  | none => (0, ⟨#[]⟩)
theorem whole_none {L : List ByteArray} {wh : Nat} (h : halfP L wh = none) : wholeP L wh = (0, ⟨#[]⟩) := by unfold wholeP; rw [h]
theorem whole_some {L : List ByteArray} {wh : Nat} {X : StoT} (h : halfP L wh = some X) : wholeP L wh = (X.2.2.1, X.2.2.2) := by unfold wholeP; rw [h]
theorem whole_is (L : List ByteArray) (wh : Nat) (h2 : 2 ≤ L.length) (h64 : AllB L) (hw : wh < 2) : wholeC L wh = wholeP L wh := by
  obtain ⟨p, hp⟩ : ∃ p, wh * (L.length / 2) = p := ⟨_, rfl⟩
  have hp2 : p + (L.length / 2 - 1) < L.length := by
    rw [← hp]
    have : wh * (L.length / 2) ≤ 1 * (L.length / 2) := Nat.mul_le_mul_right _ (by omega)
    omega
  by_cases hA : (hf1 L p).2 < 1 ∨ (hf1 L p).2 % 2 ≠ wh ∨ 64 * (L.length / 2 - 1) < (hf2 L p).2
  · have e1 : wholeC L wh = (0, ⟨#[]⟩) := by
      unfold wholeC
      simp only
      rw [hp]
      exact if_pos hA
    have e2 : halfP L wh = none := by
      unfold halfP
      simp only
      rw [hp]
      exact if_pos (.inr hA)
    rw [e1, whole_none e2]
  · have hm : (hf2 L p).2 ≤ 64 * (L.length / 2 - 1) := by
      rcases Nat.lt_or_ge (64 * (L.length / 2 - 1)) (hf2 L p).2 with h | h
      · exact absurd (.inr (.inr h)) hA
      · exact h
    have eL : (catB L (p + 1) (((hf2 L p).2 + 63) / 64)).extract 0 (hf2 L p).2 = hfB L p := by
      unfold hfB
      rw [catB_all]
      obtain ⟨d, hd⟩ : ∃ d, L.length / 2 - 1 = ((hf2 L p).2 + 63) / 64 + d := ⟨L.length / 2 - 1 - ((hf2 L p).2 + 63) / 64, by omega⟩
      rw [hd]
      exact (allB_cut L p _ h64 _ d (by omega) (by omega)).symm
    have e1 : wholeC L wh = if strL L p ≠ hdB ((hf1 L p).2 : Int) (hfB L p) ∨ txsP (hfB L p) = none ∨ txsP (hfB L p) = some [] then (0, ⟨#[]⟩) else (((hf1 L p).2 : Int), hfB L p) := by
      unfold wholeC
      simp only
      rw [hp, eL]
      exact if_neg hA
    rw [e1]
    by_cases he : (hf2 L p).1.2 ≠ 0
    · have e2 : halfP L wh = none := by
        unfold halfP
        simp only
        rw [hp]
        exact if_pos (.inl he)
      have h0 : (hf2 L p).2 = 0 := inNum_err _ he
      have hs : (hfB L p).size = 0 := by unfold hfB; rw [h0, ByteArray.size_extract]; omega
      rw [whole_none e2]
      exact if_pos (.inr (.inr (txsP_none _ hs)))
    · have e2 : halfP L wh = match txsP (hfB L p) with
          | some (x :: l) => if hdB ((hf1 L p).2 : Int) (hfB L p) = strL L p then some (x, l, ((hf1 L p).2 : Int), hfB L p) else none
          | _ => none := by
        unfold halfP
        simp only
        rw [hp]
        exact if_neg (fun h => h.elim he hA)
      cases hx : txsP (hfB L p) with
      | none =>
        rw [hx] at e2
        rw [whole_none e2]
        exact if_pos (.inr (.inl rfl))
      | some l =>
        cases l with
        | nil =>
          rw [hx] at e2
          rw [whole_none e2]
          exact if_pos (.inr (.inr rfl))
        | cons x l =>
          rw [hx] at e2
          simp only at e2
          by_cases hh : strL L p = hdB ((hf1 L p).2 : Int) (hfB L p)
          · rw [if_pos hh.symm] at e2
            rw [whole_some e2]
            exact if_neg (fun h => by
              rcases h with h | h | h
              · exact h hh
              · cases h
              · cases h)
          · rw [if_neg (fun e => hh e.symm)] at e2
            rw [whole_none e2]
            exact if_pos (.inl hh)

end Go.Proofs.YtaakmcihpdbilaaDoor
