/- GroupRises on plain data: what a judged record does to a group. -/
import Derived.Test.YtkmdajenbidaaaaDoorGpL
namespace Go.Proofs.YtkmdajenbidaaaaDoor
open Go.RowKit
set_option maxRecDepth 100000
set_option linter.unusedSimpArgs false
set_option linter.unusedVariables false
set_option maxRecDepth 100000

theorem inB_at (l : List MemT) (h6 : l.length = 6) (hw : ∀ i, i < 6 → (mmL l i).1 = (i : Int) + 1) (k : Nat) (hk : k < 6) : inB l ((k : Int) + 1) = (mmL l k).2.2 := by
  cases h : (mmL l k).2.2 with
  | true => exact inB_yes l _ k (by omega) (hw k hk) h
  | false =>
    refine inB_no l _ (fun i hi => ?_)
    rintro ⟨h1, h2⟩
    rw [hw i (by omega)] at h1
    obtain rfl : i = k := by omega
    rw [h] at h2
    cases h2

/-- Six members, by their numbers. -/
def SixM (l : List MemT) : Prop := l.length = 6 ∧ ∀ i, i < 6 → (mmL l i).1 = (i : Int) + 1
theorem SixM.set {l : List MemT} (h : SixM l) (k : Nat) (hk : k < 6) (c : Int) (z : Bool) : SixM (l.set k ((mmL l k).1, c, z)) := by
  refine ⟨by rw [List.length_set]; exact h.1, fun i hi => ?_⟩
  rw [mmL_set l k i _ (by rw [h.1]; exact hk)]
  split
  · next e => rw [e]; exact h.2 k hk
  · exact h.2 i hi
theorem SixM.inB {l : List MemT} (h : SixM l) {q : Int} (hq : 1 ≤ q ∧ q ≤ 6) : inB l q = (mmL l (q - 1).toNat).2.2 := by
  have := inB_at l h.1 h.2 (q - 1).toNat (by omega)
  rwa [show (((q - 1).toNat : Nat) : Int) + 1 = q by omega] at this

structure RiS (G : GrpT) (R : RecT) (G' : GrpT) (cn : Bool) : Prop where
  six : SixM G'.2.1
  e0 : 1 ≤ G.1 ∧ G.1 ≤ 1099511627775
  e1 : G.1 ≤ G'.1
  e2 : G'.1 ≤ G.1 + 1
  e3 : cn = false → G'.1 = G.1
  o0 : 0 ≤ G.2.2 ∧ G.2.2 ≤ 500
  o1 : G.2.2 ≤ G'.2.2 ∧ G'.2.2 ≤ 501
  fr : cn = true → inB G.2.1 R.2.1 = true
  f : 1 ≤ R.2.1 ∧ R.2.1 ≤ 6
  c0 : ∀ k, k < 6 → 0 ≤ (mmL G.2.1 k).2.1 ∧ (mmL G.2.1 k).2.1 ≤ 1099511627775
  more : ∀ k, k < 6 → (mmL G'.2.1 k).2.1 = (mmL G.2.1 k).2.1 + (if (k : Int) + 1 = R.2.1 then 1 else 0)
  add : cn = true → R.1 = 2 → inB G'.2.1 R.2.2.2.2.2.2.1 = true
  rem : cn = true → R.1 = 3 → inB G'.2.1 R.2.2.2.2.2.2.1 = false
  one : inB G'.2.1 1 = true
  again : ∀ M, judgeE M G' G'.1 R = 1

theorem ri_ok (M : OpT → Bool) (G : GrpT) (epoch : Int) (R : RecT) (h : judgeE M G epoch R = 0) : RiS G R (judgeG G epoch R).1 (judgeG G epoch R).2 := by
  obtain ⟨E, l, O⟩ := G
  obtain ⟨K, F, C, S, H, o, q, wl⟩ := R
  unfold judgeE at h
  split at h
  · cases h
  next h1 =>
  split at h
  · cases h
  next h2 =>
  have h3 : mayGb (E, l, O) = true ∧ mayRb M (K, F, C, S, H, o, q, wl) = true ∧ C = (mmL l (F - 1).toNat).2.1 + 1 := by
    have h4 : (mayGb (E, l, O) && (mayRb M (K, F, C, S, H, o, q, wl) && decide (C = (mmL l (F - 1).toNat).2.1 + 1))) = true := by
      cases hh : (mayGb (E, l, O) && (mayRb M (K, F, C, S, H, o, q, wl) && decide (C = (mmL l (F - 1).toNat).2.1 + 1))) with
      | true => rfl
      | false => exact absurd hh h1
    simp only [Bool.and_eq_true, decide_eq_true_eq] at h4
    exact h4
  obtain ⟨hG, hR, hC⟩ := h3
  obtain ⟨hE, hO, h6, hm⟩ := (mayGb_iff _).1 hG
  simp only at hE hO h6 hm
  obtain ⟨⟨hF, hC1, _, _⟩, hk⟩ := mayR_parts hR
  have hq : K = 2 ∨ K = 3 → 1 ≤ q ∧ q ≤ 6 := fun e => by
    unfold mayRb ownRb at hR
    simp only [Bool.and_eq_true] at hR
    have h9 := hR.2
    rw [if_neg (by omega), if_pos e] at h9
    simp only [Bool.and_eq_true, decide_eq_true_eq] at h9
    exact h9.1.2
  have hK : K = 1 ∨ 2 ≤ K ∧ K ≤ 4 := by rcases hk with ⟨a, _⟩ | ⟨_, a, b, _⟩ <;> omega
  have hs : SixM l := ⟨h6, fun i hi => (hm i hi).1⟩
  obtain ⟨k0, hk0⟩ : ∃ k0, (F - 1).toNat = k0 := ⟨_, rfl⟩
  have hk6 : k0 < 6 := by omega
  have hFk : F = (k0 : Int) + 1 := by omega
  rw [hk0] at hC
  have hs1 : SixM (nextM l k0) := hs.set k0 hk6 _ _
  have hc1 : ∀ k, k < 6 → (mmL (nextM l k0) k).2.1 = (mmL l k).2.1 + (if (k : Int) + 1 = F then 1 else 0) := fun k hk => by
    unfold nextM
    rw [mmL_set l k0 k _ (by rw [h6]; exact hk6)]
    by_cases e : k = k0
    · rw [if_pos e, if_pos (by omega), e]
    · rw [if_neg e, if_neg (by omega)]; omega
  have hi1 : ∀ k, k < 6 → (mmL (nextM l k0) k).2.2 = (mmL l k).2.2 := fun k hk => by
    unfold nextM
    rw [mmL_set l k0 k _ (by rw [h6]; exact hk6)]
    split
    · next e => rw [e]
    · rfl
  have h01 : (mmL l 0).2.2 = true := (hm 0 (by omega)).2.2.2 rfl
  have hone : ∀ l' : List MemT, SixM l' → (mmL l' 0).2.2 = true → inB l' 1 = true := fun l' h8 h9 => by
    have := h8.inB (q := 1) (by omega)
    rw [this]; exact h9
  have hag : ∀ (E' O' : Int) (l' : List MemT), (∀ k, k < 6 → (mmL l' k).2.1 = (mmL l k).2.1 + (if (k : Int) + 1 = F then 1 else 0)) → ∀ M, judgeE M (E', l', O') E' (K, F, C, S, H, o, q, wl) = 1 := fun E' O' l' hh M' => by
    unfold judgeE
    have h9 : decide (C = (mmL l' (F - 1).toNat).2.1 + 1) = false := by
      refine decide_eq_false ?_
      rw [hk0, hh k0 hk6, if_pos (by omega)]
      omega
    simp only [h9, Bool.and_false, if_true]
  have hset : ∀ z : Bool, (K = 2 ∨ K = 3) → (∀ k, k < 6 → (mmL ((nextM l k0).set (q - 1).toNat ((mmL (nextM l k0) (q - 1).toNat).1, (mmL (nextM l k0) (q - 1).toNat).2.1, z)) k).2.1 = (mmL l k).2.1 + (if (k : Int) + 1 = F then 1 else 0)) := fun z hz k hk => by
    have hq' := hq hz
    rw [mmL_set _ _ k _ (by rw [hs1.1]; omega)]
    split
    · next e => rw [e]; exact hc1 _ (by omega)
    · exact hc1 k hk
  have hsin : ∀ z : Bool, (K = 2 ∨ K = 3) → inB ((nextM l k0).set (q - 1).toNat ((mmL (nextM l k0) (q - 1).toNat).1, (mmL (nextM l k0) (q - 1).toNat).2.1, z)) q = z := fun z hz => by
    have hq' := hq hz
    rw [(hs1.set (q - 1).toNat (by omega) _ z).inB hq', mmL_set _ _ _ _ (by rw [hs1.1]; omega), if_pos rfl]
  by_cases hd : (doesP (E, l, O) epoch K F q).2 = true
  · have hj : judgeG (E, l, O) epoch (K, F, C, S, H, o, q, wl) = (gdoP (E, nextM l k0, O) K q, true) := by
      unfold judgeG
      simp only [hk0]
      rw [if_pos hd]
    rw [hj]
    have hin : inB l F = true := by
      cases hx : inB l F with
      | true => rfl
      | false =>
        unfold doesP at hd
        simp only [hx, if_true] at hd
        cases hd
    by_cases k1 : K = 1
    · have hg : gdoP (E, nextM l k0, O) K q = (E, nextM l k0, O + 1) := by unfold gdoP; rw [if_pos k1]
      rw [hg]
      exact ⟨hs1, hE, Int.le_refl _, (by show E ≤ E + 1; omega), fun _ => rfl, hO, (by show O ≤ O + 1 ∧ O + 1 ≤ 501; omega), fun _ => hin, hF, fun k hk => ⟨(hm k hk).2.1, (hm k hk).2.2.1⟩, hc1, fun _ e => absurd (show K = 2 from e) (by omega), fun _ e => absurd (show K = 3 from e) (by omega), hone _ hs1 (by rw [hi1 0 (by omega)]; exact h01), hag _ _ _ hc1⟩
    · by_cases k4 : K = 4
      · have hg : gdoP (E, nextM l k0, O) K q = (E + 1, nextM l k0, O) := by unfold gdoP; rw [if_neg k1, if_pos k4]
        rw [hg]
        exact ⟨hs1, hE, (by show E ≤ E + 1; omega), Int.le_refl _, fun e => (by cases e), hO, (by show O ≤ O ∧ O ≤ 501; omega), fun _ => hin, hF, fun k hk => ⟨(hm k hk).2.1, (hm k hk).2.2.1⟩, hc1, fun _ e => absurd (show K = 2 from e) (by omega), fun _ e => absurd (show K = 3 from e) (by omega), hone _ hs1 (by rw [hi1 0 (by omega)]; exact h01), hag _ _ _ hc1⟩
      · have k23 : K = 2 ∨ K = 3 := by omega
        have hq' := hq k23
        have hg : gdoP (E, nextM l k0, O) K q = (E + 1, (nextM l k0).set (q - 1).toNat ((mmL (nextM l k0) (q - 1).toNat).1, (mmL (nextM l k0) (q - 1).toNat).2.1, decide (K = 2)), O) := by unfold gdoP; rw [if_neg k1, if_neg k4]
        rw [hg]
        have hs2 := hs1.set (q - 1).toNat (by omega) (mmL (nextM l k0) (q - 1).toNat).2.1 (decide (K = 2))
        have hq1 : K = 3 → q ≠ 1 := fun e e1 => by
          by_cases hadm : F = 1 ∧ epoch = E ∧ E < 1099511627775
          · rw [doesP_adm hin ⟨hadm.1, hadm.2.1, hadm.2.2, k1⟩, if_neg (show ¬ K = 2 by omega), if_pos e, e1] at hd
            simp at hd
          · unfold doesP at hd
            simp only at hd
            rw [if_neg (show ¬ inB l F = false by rw [hin]; decide), if_neg k1, if_pos (show F ≠ 1 ∨ epoch ≠ E ∨ 1099511627775 ≤ E by omega)] at hd
            cases hd
        refine ⟨hs2, hE, (by show E ≤ E + 1; omega), Int.le_refl _, fun e => (by cases e), hO, (by show O ≤ O ∧ O ≤ 501; omega), fun _ => hin, hF, fun k hk => ⟨(hm k hk).2.1, (hm k hk).2.2.1⟩, hset _ k23, fun _ e => ?_, fun _ e => ?_, hone _ hs2 ?_, hag _ _ _ (hset _ k23)⟩
        · have := hsin (decide (K = 2)) k23
          rw [decide_eq_true (show K = 2 from e)] at this ⊢
          exact this
        · have := hsin (decide (K = 2)) k23
          rw [decide_eq_false (show ¬ K = 2 by have e' : K = 3 := e; omega)] at this ⊢
          exact this
        · rw [mmL_set _ _ 0 _ (by rw [hs1.1]; omega)]
          by_cases e0 : 0 = (q - 1).toNat
          · rw [if_pos e0]
            show decide (K = 2) = true
            rcases k23 with e | e
            · exact decide_eq_true e
            · exact absurd (by omega) (hq1 e)
          · rw [if_neg e0, hi1 0 (by omega)]; exact h01
  · have hj : judgeG (E, l, O) epoch (K, F, C, S, H, o, q, wl) = ((E, nextM l k0, O), false) := by
      unfold judgeG
      simp only [hk0]
      rw [if_neg hd]
    rw [hj]
    exact ⟨hs1, hE, Int.le_refl _, (by show E ≤ E + 1; omega), fun _ => rfl, hO, (by show O ≤ O ∧ O ≤ 501; omega), fun e => (by cases e), hF, fun k hk => ⟨(hm k hk).2.1, (hm k hk).2.2.1⟩, hc1, fun e => (by cases e), fun e => (by cases e), hone _ hs1 (by rw [hi1 0 (by omega)]; exact h01), hag _ _ _ hc1⟩

end Go.Proofs.YtkmdajenbidaaaaDoor
