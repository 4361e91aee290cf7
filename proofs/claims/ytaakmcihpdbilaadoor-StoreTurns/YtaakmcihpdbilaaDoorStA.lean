/- Layer 18, plain: texts and bytes, heads, halves, what is opened. -/
import Derived.Test.YtaakmcihpdbilaaDoorRStI
namespace Go.Proofs.YtaakmcihpdbilaaDoor
open Go.RowKit
set_option maxRecDepth 100000
set_option linter.unusedSimpArgs false
set_option maxRecDepth 100000

/-! ### Bytes. -/
theorem ext_tail (A E : ByteArray) (k : Nat) (h : k ≤ A.size) : (A ++ E).extract k (A ++ E).size = A.extract k A.size ++ E := by
  have s1 : ((A ++ E).extract k (A ++ E).size).size = A.size - k + E.size := by rw [ByteArray.size_extract, ByteArray.size_append]; omega
  have s2 : (A.extract k A.size).size = A.size - k := by rw [ByteArray.size_extract]; omega
  refine bt_ext _ _ (by rw [s1, ByteArray.size_append, s2]) (fun i hi => ?_)
  rw [s1] at hi
  rw [bt_extract _ _ _ _ (by rw [ByteArray.size_append]; omega) (Nat.le_refl _)]
  by_cases h1 : i < A.size - k
  · rw [bt_append_left _ _ _ (by omega), bt_append_left _ _ _ (by rw [s2]; exact h1), bt_extract _ _ _ _ (by omega) (Nat.le_refl _)]
  · obtain ⟨j, rfl⟩ : ∃ j, i = A.size - k + j := ⟨i - (A.size - k), by omega⟩
    rw [show k + (A.size - k + j) = A.size + j by omega, bt_append_right]
    have e : A.size - k + j = (A.extract k A.size).size + j := by rw [s2]
    rw [e, bt_append_right]
theorem ext_head (A E : ByteArray) (k : Nat) (h : k ≤ A.size) : (A ++ E).extract 0 k = A.extract 0 k := by
  have s1 : ((A ++ E).extract 0 k).size = k := by rw [ByteArray.size_extract, ByteArray.size_append]; omega
  have s2 : (A.extract 0 k).size = k := by rw [ByteArray.size_extract]; omega
  refine bt_ext _ _ (by rw [s1, s2]) (fun i hi => ?_)
  rw [s1] at hi
  rw [bt_extract _ _ _ _ (by omega) (by rw [ByteArray.size_append]; omega), bt_extract _ _ _ _ (by omega) h, bt_append_left _ _ _ (by omega)]
theorem ext_all (A : ByteArray) : A.extract A.size A.size = ⟨#[]⟩ := bt_ext _ _ (by rw [ByteArray.size_extract]; show _ = 0; omega) (fun i hi => by rw [ByteArray.size_extract] at hi; omega)
theorem app_rest (A E : ByteArray) : (A ++ E).extract A.size (A ++ E).size = E := by
  rw [ext_tail A E A.size (Nat.le_refl _), ext_all]
  exact empty_app E
theorem size_zero (A : ByteArray) (h : A.size = 0) : A = ⟨#[]⟩ := bt_ext _ _ (by rw [h]; rfl) (fun i hi => by omega)

/-! ### Texts. -/
theorem txs_one (t S : ByteArray) (ht : t.size ≤ 32768) : txsP (txB t ++ S) = (txsP S).map (t :: ·) := by
  have hs : (txB t ++ S).size = t.size + 2 + S.size := by rw [ByteArray.size_append, txB_size]
  rcases inText_pre (txB t ++ S) S t 32768 (by omega) (by omega) (PreB.refl _) with ⟨h, _⟩ | ⟨_, h2, _⟩
  · omega
  · refine txsP_next _ _ _ (by omega) ?_
    rw [h2, show 2 + t.size = (txB t).size by rw [txB_size]; omega, app_rest]
theorem inText_more (A E S1 T0 : ByteArray) (m : Int) (h : inTextP (A, 0) m = ((S1, 0), T0)) : inTextP (A ++ E, 0) m = ((S1 ++ E, 0), T0) := by
  by_cases h2 : A.size < 2
  · unfold inTextP numberP at h
    rw [if_pos (Or.inr h2)] at h
    have e : (wrongP (A, (0 : Int)) 90).2 = 90 := rfl
    simp only [e] at h
    rw [if_pos (by decide)] at h
    have := congrArg (fun z => z.1.2) h
    simp only [e] at this
    cases this
  · have nA : numberP (A, 0) 2 = ((A.extract 2 A.size, 0), accB A 2) := by
      unfold numberP
      rw [if_neg (by rintro (e | e); · exact e rfl
                     · exact h2 e)]
    have nE : numberP (A ++ E, 0) 2 = ((A.extract 2 A.size ++ E, 0), accB A 2) := by
      unfold numberP
      rw [if_neg (by rintro (e | e); · exact e rfl
                     · have e' : (A ++ E).size < 2 := e
                       rw [ByteArray.size_append] at e'; omega)]
      show (((A ++ E).extract 2 (A ++ E).size, (0 : Int)), accB (A ++ E) 2) = _
      rw [ext_tail A E 2 (by omega), accB_congr (A ++ E) A 2 (fun j hj => bt_append_left _ _ _ (by omega))]
    unfold inTextP at h ⊢
    rw [nA] at h
    rw [nE]
    simp only at h ⊢
    rw [if_neg (by decide)] at h ⊢
    by_cases c1 : m < (accB A 2 : Int)
    · rw [if_pos c1] at h
      have := congrArg (fun z => z.1.2) h
      have e : (wrongP (A.extract 2 A.size, (0 : Int)) 91).2 = 91 := rfl
      simp only [e] at this
      cases this
    · rw [if_neg c1] at h ⊢
      by_cases c2 : (A.extract 2 A.size).size < accB A 2
      · rw [if_pos c2] at h
        have := congrArg (fun z => z.1.2) h
        have e : (wrongP (A.extract 2 A.size, (0 : Int)) 90).2 = 90 := rfl
        simp only [e] at this
        cases this
      · rw [if_neg c2] at h
        rw [if_neg (by rw [ByteArray.size_append]; omega), ext_tail _ E _ (by omega), ext_head _ E _ (by omega)]
        have e1 := congrArg (fun z => z.1.1) h
        have e2 := congrArg (fun z => z.2) h
        simp only at e1 e2
        rw [e1, e2]
theorem txs_app (t : ByteArray) (ht : t.size ≤ 32768) : ∀ n (A : ByteArray) (l : List ByteArray), A.size ≤ n → txsP A = some l → txsP (A ++ txB t) = some (l ++ [t])
  | n, A, l, hn, h => by
    by_cases h0 : A.size = 0
    · rw [size_zero A h0] at h ⊢
      rw [txsP_none _ rfl] at h
      cases h
      have e : (⟨#[]⟩ : ByteArray) ++ txB t = txB t ++ ⟨#[]⟩ := (empty_app _).trans ByteArray.append_empty.symm
      rw [e, txs_one t _ ht, txsP_none _ rfl]
      rfl
    · by_cases he : (inTextP (A, 0) 32768).1.2 = 0
      · have hless := inTextP_less A 32768 he
        obtain ⟨⟨⟨S1, e1⟩, T0⟩, hq⟩ : ∃ z, inTextP (A, 0) 32768 = z := ⟨_, rfl⟩
        rw [hq] at he hless
        simp only at he hless
        subst he
        rw [txsP_next A S1 T0 h0 hq] at h
        cases hS : txsP S1 with
        | none => rw [hS] at h; cases h
        | some l1 =>
          rw [hS] at h
          cases h
          match n, hn with
          | 0, hn => omega
          | n + 1, hn =>
            have ih := txs_app t ht n S1 l1 (by omega) hS
            rw [txsP_next (A ++ txB t) (S1 ++ txB t) T0 (by rw [ByteArray.size_append]; omega) (inText_more A _ S1 T0 32768 hq), ih]
            rfl
      · rw [txsP_bad A h0 he] at h; cases h

/-! ### Heads. -/
theorem hd_nums (turn : Nat) (S : ByteArray) (ht : turn ≤ 1099511627775) (hS : S.size ≤ 1099511627775) :
    ∃ R1 R2, inNumP (hdB (turn : Int) S, 0) = ((R1, 0), turn) ∧ inNumP (R1, 0) = ((R2, 0), S.size) := by
  obtain ⟨Z, hZ⟩ : ∃ Z, hdB (turn : Int) S = bigB (turn : Int) 6 ++ (bigB (S.size : Int) 6 ++ Z) := by
    unfold hdB filB
    rw [ByteArray.append_assoc, ByteArray.append_assoc, ByteArray.append_assoc]
    exact ⟨_, rfl⟩
  have hsz : (hdB (turn : Int) S).size = 64 := hdB_size _ _
  rcases inNum_pre (hdB (turn : Int) S) (bigB (S.size : Int) 6 ++ Z) turn ht (by rw [← hZ]; exact PreB.refl _) with ⟨h, _⟩ | ⟨_, h2, h3⟩
  · omega
  · have hs1 : ((hdB (turn : Int) S).extract 6 (hdB (turn : Int) S).size).size = 58 := by rw [ByteArray.size_extract, hsz]; rfl
    rcases inNum_pre _ Z S.size hS h3 with ⟨h, _⟩ | ⟨_, h5, _⟩
    · omega
    · exact ⟨_, _, h2, h5⟩

/-! ### The blocks of a half. -/
def All64 (L : List ByteArray) : Prop := ∀ i, i < L.length → (strL L i).size = 64
theorem allB_bt (L : List ByteArray) (p : Nat) (h : All64 L) : ∀ k j, p + k < L.length → j < 64 * k → bt (allB L p k) j = bt (strL L (p + 1 + j / 64)) (j % 64)
  | 0, j, _, hj => by omega
  | k + 1, j, hk, hj => by
    show bt (allB L p k ++ strL L (p + (k + 1))) j = _
    have hsz := allB_size L p k h (by omega)
    by_cases h1 : j < 64 * k
    · rw [bt_append_left _ _ _ (by rw [hsz]; exact h1)]
      exact allB_bt L p h k j (by omega) h1
    · obtain ⟨r, rfl⟩ : ∃ r, j = 64 * k + r := ⟨j - 64 * k, by omega⟩
      have e : 64 * k + r = (allB L p k).size + r := by rw [hsz]
      rw [e, bt_append_right, ← e, show p + 1 + (64 * k + r) / 64 = p + (k + 1) by omega, show (64 * k + r) % 64 = r by omega]
theorem allB_ext (L L' : List ByteArray) (p k n : Nat) (h : All64 L) (h' : All64 L') (hl : L'.length = L.length) (hk : p + k < L.length) (hn : n ≤ 64 * k) (hb : ∀ j, j < n → bt (strL L' (p + 1 + j / 64)) (j % 64) = bt (strL L (p + 1 + j / 64)) (j % 64)) : (allB L' p k).extract 0 n = (allB L p k).extract 0 n := by
  have s1 := allB_size L p k h hk
  have s2 := allB_size L' p k h' (by omega)
  refine bt_ext _ _ (by rw [ByteArray.size_extract, ByteArray.size_extract, s1, s2]) (fun i hi => ?_)
  rw [ByteArray.size_extract, s2] at hi
  rw [bt_extract _ _ _ _ (by omega) (by omega), bt_extract _ _ _ _ (by omega) (by omega), Nat.zero_add, allB_bt L' p h' k i (by omega) (by omega), allB_bt L p h k i hk (by omega), hb i (by omega)]

/-- What a half that is whole has. -/
theorem half_some {L : List ByteArray} {wh : Nat} {X : StoT} (h : halfP L wh = some X) :
    X.2.2.1 = ((hf1 L (wh * (L.length / 2))).2 : Int) ∧ 1 ≤ (hf1 L (wh * (L.length / 2))).2 ∧ (hf1 L (wh * (L.length / 2))).2 % 2 = wh ∧ (hf2 L (wh * (L.length / 2))).2 ≤ 64 * (L.length / 2 - 1) ∧ X.2.2.2 = hfB L (wh * (L.length / 2)) ∧ txsP X.2.2.2 = some (X.1 :: X.2.1) ∧ hdB X.2.2.1 X.2.2.2 = strL L (wh * (L.length / 2)) ∧ (hf2 L (wh * (L.length / 2))).1.2 = 0 := by
  unfold halfP at h
  simp only at h
  split at h
  · cases h
  · next hc =>
    split at h
    · next x l hx =>
      split at h
      · next hd =>
        cases h
        exact ⟨rfl, by omega, by omega, by omega, rfl, hx, hd, by omega⟩
      · cases h
    · cases h
/-- A half is what its head and its first bytes are. -/
theorem half_same (L L' : List ByteArray) (wh : Nat) (h2 : 2 ≤ L.length) (hw : wh < 2) (h : All64 L) (h' : All64 L') (hl : L'.length = L.length) (hp : strL L' (wh * (L.length / 2)) = strL L (wh * (L.length / 2)))
    (hb : (hf2 L (wh * (L.length / 2))).2 ≤ 64 * (L.length / 2 - 1) → ∀ j, j < (hf2 L (wh * (L.length / 2))).2 → bt (strL L' (wh * (L.length / 2) + 1 + j / 64)) (j % 64) = bt (strL L (wh * (L.length / 2) + 1 + j / 64)) (j % 64)) : halfP L' wh = halfP L wh := by
  have e1 : hf1 L' (wh * (L.length / 2)) = hf1 L (wh * (L.length / 2)) := by unfold hf1; rw [hp]
  have e2 : hf2 L' (wh * (L.length / 2)) = hf2 L (wh * (L.length / 2)) := by unfold hf2; rw [e1]
  have hpl : wh * (L.length / 2) + (L.length / 2 - 1) < L.length := by
    rcases (show wh = 0 ∨ wh = 1 by omega) with rfl | rfl <;> omega
  unfold halfP
  simp only [hl, e1, e2, hp]
  by_cases hn : (hf2 L (wh * (L.length / 2))).2 ≤ 64 * (L.length / 2 - 1)
  · have e3 : hfB L' (wh * (L.length / 2)) = hfB L (wh * (L.length / 2)) := by
      unfold hfB
      rw [hl, e2]
      exact allB_ext L L' _ _ _ h h' hl hpl hn (hb hn)
    rw [e3]
  · rw [if_pos (by omega), if_pos (by omega)]

/-- What is opened, where something is there. -/
theorem open_some {L : List ByteArray} {X : StoT} (h : openP L = X) (ht : 1 ≤ X.2.2.1) :
    ∃ wh, wh < 2 ∧ halfP L wh = some X ∧ ∀ Y, halfP L (1 - wh) = some Y → Y.2.2.1 < X.2.2.1 := by
  unfold openP at h
  cases h0 : halfP L 0 with
  | none =>
    cases h1 : halfP L 1 with
    | none =>
      rw [h0, h1] at h
      simp at h
      rw [← h] at ht
      have : (zeroT).2.2.1 = 0 := rfl
      omega
    | some B =>
      rw [h0, h1] at h
      simp at h
      subst h
      exact ⟨1, by decide, h1, fun Y hY => by rw [h0] at hY; cases hY⟩
  | some A =>
    cases h1 : halfP L 1 with
    | none =>
      rw [h0, h1] at h
      simp at h
      subst h
      exact ⟨0, by decide, h0, fun Y hY => by rw [h1] at hY; cases hY⟩
    | some B =>
      rw [h0, h1] at h
      simp at h
      by_cases hab : A.2.2.1 < B.2.2.1
      · rw [if_pos hab] at h
        subst h
        exact ⟨1, by decide, h1, fun Y hY => by rw [h0] at hY; cases hY; exact hab⟩
      · rw [if_neg hab] at h
        subst h
        refine ⟨0, by decide, h0, fun Y hY => ?_⟩
        rw [h1] at hY
        cases hY
        have a1 := half_some h0
        have b1 := half_some h1
        have := a1.2.2.1
        have := b1.2.2.1
        omega
theorem open_of {L : List ByteArray} {X : StoT} (wh : Nat) (hw : wh < 2) (h : halfP L wh = some X) (ho : ∀ Y, halfP L (1 - wh) = some Y → Y.2.2.1 < X.2.2.1) : openP L = X := by
  unfold openP
  rcases (show wh = 0 ∨ wh = 1 by omega) with rfl | rfl
  · rw [h]
    cases h1 : halfP L 1 with
    | none => simp
    | some B =>
      have := ho B h1
      simp
      intro hc; omega
  · rw [h]
    cases h0 : halfP L 0 with
    | none => simp
    | some A =>
      have := ho A h0
      simp
      intro hc; omega

end Go.Proofs.YtaakmcihpdbilaaDoor
