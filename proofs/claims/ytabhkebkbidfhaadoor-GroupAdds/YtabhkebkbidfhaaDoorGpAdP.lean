/- GroupAdds on plain data: the groups that the admin makes. -/
import Derived.Test.YtabhkebkbidfhaaDoorGpL
namespace Go.Proofs.YtabhkebkbidfhaaDoor
open Go.RowKit
set_option maxRecDepth 100000
set_option linter.unusedSimpArgs false
set_option linter.unusedVariables false
set_option maxRecDepth 100000

/-- Six members, the first of which has sent n records; who is in. -/
def lst (n : Nat) (fl : Nat → Bool) : List MemT := [(1, (n : Int), fl 0), (2, 0, fl 1), (3, 0, fl 2), (4, 0, fl 3), (5, 0, fl 4), (6, 0, fl 5)]
def updF (fl : Nat → Bool) (k : Nat) (z : Bool) : Nat → Bool := fun j => if j = k then z else fl j
def inA (fl : Nat → Bool) : Array Value := #[.bool false, .bool (fl 0), .bool (fl 1), .bool (fl 2), .bool (fl 3), .bool (fl 4), .bool (fl 5)]
theorem six {P : Nat → Prop} (h0 : P 0) (h1 : P 1) (h2 : P 2) (h3 : P 3) (h4 : P 4) (h5 : P 5) (k : Nat) (hk : k < 6) : P k := by
  rcases (by omega : k = 0 ∨ k = 1 ∨ k = 2 ∨ k = 3 ∨ k = 4 ∨ k = 5) with rfl | rfl | rfl | rfl | rfl | rfl <;> assumption
theorem lst_at (n : Nat) (fl : Nat → Bool) (k : Nat) (hk : k < 6) : mmL (lst n fl) k = ((k : Int) + 1, (if k = 0 then (n : Int) else 0), fl k) := by
  refine six (P := fun k => mmL (lst n fl) k = ((k : Int) + 1, (if k = 0 then (n : Int) else 0), fl k)) rfl rfl rfl rfl rfl rfl k hk
theorem inB_lst (n : Nat) (fl : Nat → Bool) (k : Nat) (hk : k < 6) : inB (lst n fl) ((k : Int) + 1) = fl k := by
  refine six (P := fun k => inB (lst n fl) ((k : Int) + 1) = fl k) ?_ ?_ ?_ ?_ ?_ ?_ k hk <;> simp [inB, lst]
theorem inB_0 (n : Nat) (fl : Nat → Bool) : inB (lst n fl) 0 = false := by simp [inB, lst]
theorem inB_7 (n : Nat) (fl : Nat → Bool) : inB (lst n fl) 7 = false := by simp [inB, lst]
theorem inA_at (fl : Nat → Bool) (k : Nat) (hk : k < 6) : (inA fl)[k + 1]? = some (.bool (fl k)) := by
  refine six (P := fun k => (inA fl)[k + 1]? = some (.bool (fl k))) rfl rfl rfl rfl rfl rfl k hk
theorem inA_set (fl : Nat → Bool) (k : Nat) (hk : k < 6) (z : Bool) : (inA fl).setIfInBounds (k + 1) (.bool z) = inA (updF fl k z) := by
  refine six (P := fun k => (inA fl).setIfInBounds (k + 1) (.bool z) = inA (updF fl k z)) rfl rfl rfl rfl rfl rfl k hk
theorem next_lst (n : Nat) (fl : Nat → Bool) : nextM (lst n fl) 0 = lst (n + 1) fl := rfl
theorem set_lst (n : Nat) (fl : Nat → Bool) (k : Nat) (hk : k < 6) (z : Bool) : (lst n fl).set k ((mmL (lst n fl) k).1, (mmL (lst n fl) k).2.1, z) = lst n (updF fl k z) := by
  refine six (P := fun k => (lst n fl).set k ((mmL (lst n fl) k).1, (mmL (lst n fl) k).2.1, z) = lst n (updF fl k z)) rfl rfl rfl rfl rfl rfl k hk
theorem may_lst (ep : Int) (n : Nat) (fl : Nat → Bool) (h0 : fl 0 = true) (he : 1 ≤ ep ∧ ep ≤ 1099511627775) (hn : n ≤ 1000) : mayGb (ep, lst n fl, 0) = true := by
  rw [mayGb_iff]
  refine ⟨he, ⟨by show (0 : Int) ≤ 0; decide, by show (0 : Int) ≤ 500; decide⟩, rfl, fun i hi => ?_⟩
  show (mmL (lst n fl) i).1 = _ ∧ 0 ≤ (mmL (lst n fl) i).2.1 ∧ (mmL (lst n fl) i).2.1 ≤ _ ∧ (i = 0 → (mmL (lst n fl) i).2.2 = true)
  rw [lst_at n fl i hi]
  refine ⟨rfl, ?_, ?_, fun e => by rw [e]; exact h0⟩
  · show 0 ≤ (if i = 0 then (n : Int) else 0); by_cases e : i = 0 <;> simp [e]
  · show (if i = 0 then (n : Int) else 0) ≤ _; by_cases e : i = 0 <;> simp [e]; omega

/-- Does an act of the admin's count? -/
def doesB (K : Int) (fl : Nat → Bool) (k : Nat) : Bool := if K = 2 then !(fl k) else if K = 3 then (fl k && ((k : Int) + 1 != 1)) else true
def whoK (K : Int) (k : Nat) : Int := if K = 4 then 0 else (k : Int) + 1
def flK (K : Int) (fl : Nat → Bool) (k : Nat) : Nat → Bool := if doesB K fl k = true ∧ K ≠ 4 then updF fl k (decide (K = 2)) else fl
def epK (K : Int) (fl : Nat → Bool) (k : Nat) (ep : Nat) : Nat := if doesB K fl k = true then ep + 1 else ep

theorem judge_lst (ep n : Nat) (fl : Nat → Bool) (K : Int) (k : Nat) (h0 : fl 0 = true) (hk : k < 6) (hK : 2 ≤ K ∧ K ≤ 4) (he : ep ≤ 1000) :
    judgeG ((ep : Int), lst n fl, 0) (ep : Int) (recK K ((n : Int) + 1) (whoK K k)) = ((((epK K fl k ep : Nat) : Int), lst (n + 1) (flK K fl k), 0), doesB K fl k) := by
  have hd : (doesP ((ep : Int), lst n fl, 0) (ep : Int) K 1 (whoK K k)).2 = doesB K fl k := by
    rw [doesP_adm (by have := inB_lst n fl 0 (by decide); rw [h0] at this; exact this) ⟨rfl, rfl, by omega, by omega⟩]
    unfold doesB whoK
    by_cases h2 : K = 2
    · rw [if_pos h2, if_pos h2, if_neg (by omega), inB_lst n fl k hk]
    · rw [if_neg h2, if_neg h2]
      by_cases h3 : K = 3
      · rw [if_pos h3, if_pos h3, if_neg (by omega), inB_lst n fl k hk]
      · rw [if_neg h3, if_neg h3]
  unfold judgeG
  show (if (doesP ((ep : Int), lst n fl, 0) (ep : Int) K 1 (whoK K k)).2 = true then (gdoP ((ep : Int), nextM (lst n fl) 0, 0) K (whoK K k), true) else (((ep : Int), nextM (lst n fl) 0, 0), false)) = _
  rw [hd, next_lst]
  unfold epK flK
  cases hD : doesB K fl k with
  | false => rw [if_neg (by decide), if_neg (by decide), if_neg (by simp)]
  | true =>
    rw [if_pos rfl, if_pos rfl]
    unfold gdoP
    rw [if_neg (by omega)]
    by_cases h4 : K = 4
    · rw [if_pos h4, if_neg (by simp [h4])]; rfl
    · rw [if_neg h4, if_pos ⟨rfl, h4⟩]
      have hq : (whoK K k - 1).toNat = k := by unfold whoK; rw [if_neg h4]; omega
      rw [hq]
      show (((ep : Int) + 1, (lst (n + 1) fl).set k ((mmL (lst (n + 1) fl) k).1, (mmL (lst (n + 1) fl) k).2.1, decide (K = 2)), (0 : Int)), true) = _
      rw [set_lst (n + 1) fl k hk]; rfl
theorem judgeE_lst (M : OpT → Bool) (ep n : Nat) (fl : Nat → Bool) (K : Int) (k : Nat) (h0 : fl 0 = true) (hk : k < 6) (hK : 2 ≤ K ∧ K ≤ 4) (he : 1 ≤ ep ∧ ep ≤ 1000) (hn : n ≤ 1000) :
    judgeE M ((ep : Int), lst n fl, 0) (ep : Int) (recK K ((n : Int) + 1) (whoK K k)) = 0 := by
  refine judgeE_yes M _ _ _ (may_lst _ n fl h0 (by omega) hn) (mayR_K M K _ _ ?_ (by omega)) rfl ?_
  · unfold whoK
    rcases (by omega : K = 2 ∨ K = 3 ∨ K = 4) with rfl | rfl | rfl
    · exact .inl ⟨rfl, by rw [if_neg (by decide)]; omega, by rw [if_neg (by decide)]; omega⟩
    · exact .inr (.inl ⟨rfl, by rw [if_neg (by decide)]; omega, by rw [if_neg (by decide)]; omega⟩)
    · exact .inr (.inr ⟨rfl, by rw [if_pos rfl]⟩)
  · show 1 ≤ (ep : Int) ∧ (ep : Int) - 1 ≤ (ep : Int) ∧ (ep : Int) ≤ (ep : Int)
    omega
theorem flK_0 (K : Int) (fl : Nat → Bool) (k : Nat) (h0 : fl 0 = true) (hk : k < 6) (hK : 2 ≤ K ∧ K ≤ 4) : flK K fl k 0 = true := by
  unfold flK
  by_cases h : doesB K fl k = true ∧ K ≠ 4
  · rw [if_pos h]
    unfold updF
    by_cases e : 0 = k
    · rw [if_pos e]
      subst e
      have hd := h.1
      unfold doesB at hd
      by_cases h2 : K = 2
      · rw [if_pos h2, h0] at hd; cases hd
      · rw [if_neg h2] at hd
        rw [if_pos (by omega)] at hd
        simp at hd
    · rw [if_neg e]; exact h0
  · rw [if_neg h]; exact h0

end Go.Proofs.YtabhkebkbidfhaaDoor
