import Derived.Test.YtaakmcihpdbilaaGreatDoorRT
/- Layer 18, plain: texts and bytes, heads, halves, what is opened. -/
namespace Go.Proofs.YtaakmcihpdbilaaGreatDoor
open Go.RowKit
set_option maxRecDepth 100000
set_option linter.unusedSimpArgs false
set_option maxRecDepth 100000

/-! ### Bytes. -/
theorem ext_tail (A E : ByteArray) (k : Nat) (h : k ≤ A.size) : (A ++ E).extract k (A ++ E).size = A.extract k A.size ++ E := by
  have s1 : ((A ++ E).extract k (A ++ E).size).size = A.size - k + E.size := by rw [ByteArray.size_extract, ByteArray.size_append]; omega
  have s2 : (A.extract k A.size).size = A.size - k := by rw [ByteArray.size_extract]; omega
  refine bt_ext _ _ (by rw [s1, ByteArray.size_append, s2]) (fun i hi => ?_)
  rw [s1] at hi
  rw [bt_extract _ _ _ _ (by rw [ByteArray.size_append]; omega) (Nat.le_refl _)]
  by_cases h1 : i < A.size - k
  · rw [bt_append_left _ _ _ (by omega), bt_append_left _ _ _ (by rw [s2]; exact h1), bt_extract _ _ _ _ (by omega) (Nat.le_refl _)]
  · obtain ⟨j, rfl⟩ : ∃ j, i = A.size - k + j := ⟨i - (A.size - k), by omega⟩
    rw [show k + (A.size - k + j) = A.size + j by omega, bt_append_right]
    have e : A.size - k + j = (A.extract k A.size).size + j := by rw [s2]
    rw [e, bt_append_right]
theorem ext_head (A E : ByteArray) (k : Nat) (h : k ≤ A.size) : (A ++ E).extract 0 k = A.extract 0 k := by
  have s1 : ((A ++ E).extract 0 k).size = k := by rw [ByteArray.size_extract, ByteArray.size_append]; omega
  have s2 : (A.extract 0 k).size = k := by rw [ByteArray.size_extract]; omega
  refine bt_ext _ _ (by rw [s1, s2]) (fun i hi => ?_)
  rw [s1] at hi
  rw [bt_extract _ _ _ _ (by omega) (by rw [ByteArray.size_append]; omega), bt_extract _ _ _ _ (by omega) h, bt_append_left _ _ _ (by omega)]
theorem ext_all (A : ByteArray) : A.extract A.size A.size = ⟨#[]⟩ := bt_ext _ _ (by rw [ByteArray.size_extract]; show _ = 0; omega) (fun i hi => by rw [ByteArray.size_extract] at hi; omega)
theorem app_rest (A E : ByteArray) : (A ++ E).extract A.size (A ++ E).size = E := by
  rw [ext_tail A E A.size (Nat.le_refl _), ext_all]
  exact empty_app E
theorem size_zero (A : ByteArray) (h : A.size = 0) : A = ⟨#[]⟩ := bt_ext _ _ (by rw [h]; rfl) (fun i hi => by omega)

/-! ### Texts. -/
theorem txs_one (t S : ByteArray) (ht : t.size ≤ 32768) : txsP (txB t ++ S) = (txsP S).map (t :: ·) := by
  have hs : (txB t ++ S).size = t.size + 2 + S.size := by rw [ByteArray.size_append, txB_size]
  rcases inText_pre (txB t ++ S) S t 32768 (by omega) (by omega) (PreB.refl _) with ⟨h, _⟩ | ⟨_, h2, _⟩
  · omega
  · refine txsP_next _ _ _ (by omega) ?_
    rw [h2, show 2 + t.size = (txB t).size by rw [txB_size]; omega, app_rest]
theorem inText_more (A E S1 T0 : ByteArray) (m : Int) (h : inTextP (A, 0) m = ((S1, 0), T0)) : inTextP (A ++ E, 0) m = ((S1 ++ E, 0), T0) := by
  by_cases h2 : A.size < 2
  · unfold inTextP numberP at h
    rw [if_pos (Or.inr h2)] at h
    have e : (wrongP (A, (0 : Int)) 90).2 = 90 := rfl
    simp only [e] at h
    rw [if_pos (by decide)] at h
    have := congrArg (fun z => z.1.2) h
    simp only [e] at this
    cases this
  · have nA : numberP (A, 0) 2 = ((A.extract 2 A.size, 0), accB A 2) := by
      unfold numberP
      rw [if_neg (by rintro (e | e); · exact e rfl
                     · exact h2 e)]
    have nE : numberP (A ++ E, 0) 2 = ((A.extract 2 A.size ++ E, 0), accB A 2) := by
      unfold numberP
      rw [if_neg (by rintro (e | e); · exact e rfl
                     · have e' : (A ++ E).size < 2 := e
                       rw [ByteArray.size_append] at e'; omega)]
      show (((A ++ E).extract 2 (A ++ E).size, (0 : Int)), accB (A ++ E) 2) = _
      rw [ext_tail A E 2 (by omega), accB_congr (A ++ E) A 2 (fun j hj => bt_append_left _ _ _ (by omega))]
    unfold inTextP at h ⊢
    rw [nA] at h
    rw [nE]
    simp only at h ⊢
    rw [if_neg (by decide)] at h ⊢
    by_cases c1 : m < (accB A 2 : Int)
    · rw [if_pos c1] at h
      have := congrArg (fun z => z.1.2) h
      have e : (wrongP (A.extract 2 A.size, (0 : Int)) 91).2 = 91 := rfl
      simp only [e] at this
      cases this
    · rw [if_neg c1] at h ⊢
      by_cases c2 : (A.extract 2 A.size).size < accB A 2
      · rw [if_pos c2] at h
        have := congrArg (fun z => z.1.2) h
        have e : (wrongP (A.extract 2 A.size, (0 : Int)) 90).2 = 90 := rfl
        simp only [e] at this
        cases this
      · rw [if_neg c2] at h
        rw [if_neg (by rw [ByteArray.size_append]; omega), ext_tail _ E _ (by omega), ext_head _ E _ (by omega)]
        have e1 := congrArg (fun z => z.1.1) h
        have e2 := congrArg (fun z => z.2) h
        simp only at e1 e2
        rw [e1, e2]
theorem txs_app (t : ByteArray) (ht : t.size ≤ 32768) : ∀ n (A : ByteArray) (l : List ByteArray), A.size ≤ n → txsP A = some l → txsP (A ++ txB t) = some (l ++ [t])
  | n, A, l, hn, h => by
    by_cases h0 : A.size = 0
    · rw [size_zero A h0] at h ⊢
      rw [txsP_none _ rfl] at h
      cases h
      have e : (⟨#[]⟩ : ByteArray) ++ txB t = txB t ++ ⟨#[]⟩ := (empty_app _).trans ByteArray.append_empty.symm
      rw [e, txs_one t _ ht, txsP_none _ rfl]
      rfl
    · by_cases he : (inTextP (A, 0) 32768).1.2 = 0
      · have hless := inTextP_less A 32768 he
        obtain ⟨⟨⟨S1, e1⟩, T0⟩, hq⟩ : ∃ z, inTextP (A, 0) 32768 = z := ⟨_, rfl⟩
        rw [hq] at he hless
        simp only at he hless
        subst he
        rw [txsP_next A S1 T0 h0 hq] at h
        cases hS : txsP S1 with
        | none => rw [hS] at h; cases h
        | some l1 =>
          rw [hS] at h
          cases h
          match n, hn with
          | 0, hn => omega
          | n + 1, hn =>
            have ih := txs_app t ht n S1 l1 (by omega) hS
            rw [txsP_next (A ++ txB t) (S1 ++ txB t) T0 (by rw [ByteArray.size_append]; omega) (inText_more A _ S1 T0 32768 hq), ih]
            rfl
      · rw [txsP_bad A h0 he] at h; cases h

/-! ### Heads. -/
theorem hd_nums (turn : Nat) (S : ByteArray) (ht : turn ≤ 1099511627775) (hS : S.size ≤ 1099511627775) :
    ∃ R1 R2, inNumP (hdB (turn : Int) S, 0) = ((R1, 0), turn) ∧ inNumP (R1, 0) = ((R2, 0), S.size) := by
  obtain ⟨Z, hZ⟩ : ∃ Z, hdB (turn : Int) S = bigB (turn : Int) 6 ++ (bigB (S.size : Int) 6 ++ Z) := by
    unfold hdB filB
    rw [ByteArray.append_assoc, ByteArray.append_assoc, ByteArray.append_assoc]
    exact ⟨_, rfl⟩
  have hsz : (hdB (turn : Int) S).size = 64 := hdB_size _ _
  rcases inNum_pre (hdB (turn : Int) S) (bigB (S.size : Int) 6 ++ Z) turn ht (by rw [← hZ]; exact PreB.refl _) with ⟨h, _⟩ | ⟨_, h2, h3⟩
  · omega
  · have hs1 : ((hdB (turn : Int) S).extract 6 (hdB (turn : Int) S).size).size = 58 := by rw [ByteArray.size_extract, hsz]; rfl
    rcases inNum_pre _ Z S.size hS h3 with ⟨h, _⟩ | ⟨_, h5, _⟩
    · omega
    · exact ⟨_, _, h2, h5⟩

/-! ### The blocks of a half. -/
def All64 (L : List ByteArray) : Prop := ∀ i, i < L.length → (strL L i).size = 64
theorem allB_bt (L : List ByteArray) (p : Nat) (h : All64 L) : ∀ k j, p + k < L.length → j < 64 * k → bt (allB L p k) j = bt (strL L (p + 1 + j / 64)) (j % 64)
  | 0, j, _, hj => by omega
  | k + 1, j, hk, hj => by
    show bt (allB L p k ++ strL L (p + (k + 1))) j = _
    have hsz := allB_size L p k h (by omega)
    by_cases h1 : j < 64 * k
    · rw [bt_append_left _ _ _ (by rw [hsz]; exact h1)]
      exact allB_bt L p h k j (by omega) h1
    · obtain ⟨r, rfl⟩ : ∃ r, j = 64 * k + r := ⟨j - 64 * k, by omega⟩
      have e : 64 * k + r = (allB L p k).size + r := by rw [hsz]
      rw [e, bt_append_right, ← e, show p + 1 + (64 * k + r) / 64 = p + (k + 1) by omega, show (64 * k + r) % 64 = r by omega]
theorem allB_ext (L L' : List ByteArray) (p k n : Nat) (h : All64 L) (h' : All64 L') (hl : L'.length = L.length) (hk : p + k < L.length) (hn : n ≤ 64 * k) (hb : ∀ j, j < n → bt (strL L' (p + 1 + j / 64)) (j % 64) = bt (strL L (p + 1 + j / 64)) (j % 64)) : (allB L' p k).extract 0 n = (allB L p k).extract 0 n := by
  have s1 := allB_size L p k h hk
  have s2 := allB_size L' p k h' (by omega)
  refine bt_ext _ _ (by rw [ByteArray.size_extract, ByteArray.size_extract, s1, s2]) (fun i hi => ?_)
  rw [ByteArray.size_extract, s2] at hi
  rw [bt_extract _ _ _ _ (by omega) (by omega), bt_extract _ _ _ _ (by omega) (by omega), Nat.zero_add, allB_bt L' p h' k i (by omega) (by omega), allB_bt L p h k i hk (by omega), hb i (by omega)]

/-- What a half that is whole has. -/
theorem half_some {L : List ByteArray} {wh : Nat} {X : StoT} (h : halfP L wh = some X) :
    X.2.2.1 = ((hf1 L (wh * (L.length / 2))).2 : Int) ∧ 1 ≤ (hf1 L (wh * (L.length / 2))).2 ∧ (hf1 L (wh * (L.length / 2))).2 % 2 = wh ∧ (hf2 L (wh * (L.length / 2))).2 ≤ 64 * (L.length / 2 - 1) ∧ X.2.2.2 = hfB L (wh * (L.length / 2)) ∧ txsP X.2.2.2 = some (X.1 :: X.2.1) ∧ hdB X.2.2.1 X.2.2.2 = strL L (wh * (L.length / 2)) ∧ (hf2 L (wh * (L.length / 2))).1.2 = 0 := by
  unfold halfP at h
  simp only at h
  split at h
  · cases h
  · next hc =>
    split at h
    · next x l hx =>
      split at h
      · next hd =>
        cases h
        exact ⟨rfl, by omega, by omega, by omega, rfl, hx, hd, by omega⟩
      · cases h
    · cases h
/-- A half is what its head and its first bytes are. -/
theorem half_same (L L' : List ByteArray) (wh : Nat) (h2 : 2 ≤ L.length) (hw : wh < 2) (h : All64 L) (h' : All64 L') (hl : L'.length = L.length) (hp : strL L' (wh * (L.length / 2)) = strL L (wh * (L.length / 2)))
    (hb : (hf2 L (wh * (L.length / 2))).2 ≤ 64 * (L.length / 2 - 1) → ∀ j, j < (hf2 L (wh * (L.length / 2))).2 → bt (strL L' (wh * (L.length / 2) + 1 + j / 64)) (j % 64) = bt (strL L (wh * (L.length / 2) + 1 + j / 64)) (j % 64)) : halfP L' wh = halfP L wh := by
  have e1 : hf1 L' (wh * (L.length / 2)) = hf1 L (wh * (L.length / 2)) := by unfold hf1; rw [hp]
  have e2 : hf2 L' (wh * (L.length / 2)) = hf2 L (wh * (L.length / 2)) := by unfold hf2; rw [e1]
  have hpl : wh * (L.length / 2) + (L.length / 2 - 1) < L.length := by
    rcases (show wh = 0 ∨ wh = 1 by omega) with rfl | rfl <;> omega
  unfold halfP
  simp only [hl, e1, e2, hp]
  by_cases hn : (hf2 L (wh * (L.length / 2))).2 ≤ 64 * (L.length / 2 - 1)
  · have e3 : hfB L' (wh * (L.length / 2)) = hfB L (wh * (L.length / 2)) := by
      unfold hfB
      rw [hl, e2]
      exact allB_ext L L' _ _ _ h h' hl hpl hn (hb hn)
    rw [e3]
  · rw [if_pos (by omega), if_pos (by omega)]

/-- What is opened, where something is there. -/
theorem open_some {L : List ByteArray} {X : StoT} (h : openP L = X) (ht : 1 ≤ X.2.2.1) :
    ∃ wh, wh < 2 ∧ halfP L wh = some X ∧ ∀ Y, halfP L (1 - wh) = some Y → Y.2.2.1 < X.2.2.1 := by
  unfold openP at h
  cases h0 : halfP L 0 with
  | none =>
    cases h1 : halfP L 1 with
    | none =>
      rw [h0, h1] at h
      simp at h
      rw [← h] at ht
      have : (zeroT).2.2.1 = 0 := rfl
      omega
    | some B =>
      rw [h0, h1] at h
      simp at h
      subst h
      exact ⟨1, by decide, h1, fun Y hY => by rw [h0] at hY; cases hY⟩
  | some A =>
    cases h1 : halfP L 1 with
    | none =>
      rw [h0, h1] at h
      simp at h
      subst h
      exact ⟨0, by decide, h0, fun Y hY => by rw [h1] at hY; cases hY⟩
    | some B =>
      rw [h0, h1] at h
      simp at h
      by_cases hab : A.2.2.1 < B.2.2.1
      · rw [if_pos hab] at h
        subst h
        exact ⟨1, by decide, h1, fun Y hY => by rw [h0] at hY; cases hY; exact hab⟩
      · rw [if_neg hab] at h
        subst h
        refine ⟨0, by decide, h0, fun Y hY => ?_⟩
        rw [h1] at hY
        cases hY
        have a1 := half_some h0
        have b1 := half_some h1
        have := a1.2.2.1
        have := b1.2.2.1
        omega
theorem open_of {L : List ByteArray} {X : StoT} (wh : Nat) (hw : wh < 2) (h : halfP L wh = some X) (ho : ∀ Y, halfP L (1 - wh) = some Y → Y.2.2.1 < X.2.2.1) : openP L = X := by
  unfold openP
  rcases (show wh = 0 ∨ wh = 1 by omega) with rfl | rfl
  · rw [h]
    cases h1 : halfP L 1 with
    | none => simp
    | some B =>
      have := ho B h1
      simp
      intro hc; omega
  · rw [h]
    cases h0 : halfP L 0 with
    | none => simp
    | some A =>
      have := ho A h0
      simp
      intro hc; omega

end Go.Proofs.YtaakmcihpdbilaaGreatDoor

/- Layer 18, plain: what is written, and what is opened behind it. -/
namespace Go.Proofs.YtaakmcihpdbilaaGreatDoor
open Go.RowKit
set_option maxRecDepth 100000
set_option linter.unusedSimpArgs false
set_option maxRecDepth 100000

theorem strL_set18 (L : List ByteArray) (k i : Nat) (s : ByteArray) (hk : k < L.length) : strL (L.set k s) i = if i = k then s else strL L i := by
  unfold strL
  rw [List.getD_eq_getElem?_getD, List.getD_eq_getElem?_getD, List.getElem?_set]
  by_cases e : i = k
  · subst e
    rw [if_pos rfl, if_pos rfl, if_pos hk]; rfl
  · rw [if_neg (fun h => e h.symm), if_neg e]

/-- A write's list. -/
theorem writeB_yes (D : DevT) (k : Nat) (s : ByteArray) (h : (writeB D k s).2 = 0) : (writeB D k s).1.1 = D.1.set k s := by
  unfold writeB at h ⊢
  split at h
  · cases h
  · next hc => rw [if_neg hc]
theorem writeB_not (D : DevT) (k : Nat) (s : ByteArray) (h : ¬ (writeB D k s).2 = 0) : (writeB D k s).1.1 = D.1 := by
  unfold writeB at h ⊢
  split
  · rfl
  · next hc => rw [if_neg hc] at h; exact absurd rfl h

theorem wrsF_list (S : ByteArray) (p : Nat) : ∀ f i D, p + 1 + i + f ≤ D.1.length → ∃ j, j ≤ f ∧ (∀ x, strL (wrsF S p f i D).1.1 x = if p + 1 + i ≤ x ∧ x < p + 1 + i + j then blkB S (x - (p + 1)) else strL D.1 x) ∧ ((wrsF S p f i D).2 = 0 → j = f)
  | 0, i, D, _ => ⟨0, Nat.le_refl _, fun x => by rw [if_neg (by omega)]; rfl, fun _ => rfl⟩
  | f + 1, i, D, h => by
    by_cases h0 : (writeB D (p + 1 + i) (blkB S i)).2 = 0
    · have e : wrsF S p (f + 1) i D = wrsF S p f (i + 1) (writeB D (p + 1 + i) (blkB S i)).1 := if_pos h0
      have hl := writeB_len D (p + 1 + i) (blkB S i)
      obtain ⟨j, h1, h2, h3⟩ := wrsF_list S p f (i + 1) (writeB D (p + 1 + i) (blkB S i)).1 (by rw [hl]; omega)
      refine ⟨j + 1, by omega, fun x => ?_, fun hz => by rw [e] at hz; rw [h3 hz]⟩
      rw [e, h2 x, writeB_yes D _ _ h0, strL_set18 _ _ _ _ (by omega)]
      by_cases c1 : p + 1 + (i + 1) ≤ x ∧ x < p + 1 + (i + 1) + j
      · rw [if_pos c1, if_pos (by omega)]
      · rw [if_neg c1]
        by_cases c2 : x = p + 1 + i
        · rw [if_pos c2, if_pos (by omega), c2, show p + 1 + i - (p + 1) = i by omega]
        · rw [if_neg c2, if_neg (by omega)]
    · have e : wrsF S p (f + 1) i D = writeB D (p + 1 + i) (blkB S i) := if_neg h0
      refine ⟨0, Nat.zero_le _, fun x => ?_, fun hz => by rw [e] at hz; exact absurd hz h0⟩
      rw [e, writeB_not D _ _ h0, if_neg (by omega)]

/-- What writes leaves: all, or the blocks alone, up to one. -/
theorem writesP_list (D : DevT) (turn m : Nat) (s : ByteArray) (hm : m ≤ (s.size + 63) / 64) (hr : (s.size + 63) / 64 + 1 ≤ D.1.length / 2) :
    ((writesP D turn m s).2 = 0 → ∀ x, strL (writesP D turn m s).1.1 x = if x = turn % 2 * (D.1.length / 2) then hdB (turn : Int) s else if turn % 2 * (D.1.length / 2) + 1 + m ≤ x ∧ x < turn % 2 * (D.1.length / 2) + 1 + (s.size + 63) / 64 then blkB (filB s) (x - (turn % 2 * (D.1.length / 2) + 1)) else strL D.1 x) ∧
    (¬ (writesP D turn m s).2 = 0 → ∃ j, m + j ≤ (s.size + 63) / 64 ∧ ∀ x, strL (writesP D turn m s).1.1 x = if turn % 2 * (D.1.length / 2) + 1 + m ≤ x ∧ x < turn % 2 * (D.1.length / 2) + 1 + m + j then blkB (filB s) (x - (turn % 2 * (D.1.length / 2) + 1)) else strL D.1 x) := by
  obtain ⟨p, hp⟩ : ∃ p, turn % 2 * (D.1.length / 2) = p := ⟨_, rfl⟩
  have hpl : p = 0 ∨ p = D.1.length / 2 := by
    rcases (show turn % 2 = 0 ∨ turn % 2 = 1 by omega) with e | e
    · left; rw [← hp, e]; omega
    · right; rw [← hp, e]; omega
  obtain ⟨q, hq⟩ : ∃ q, (s.size + 63) / 64 = q := ⟨_, rfl⟩
  rw [hq] at hm hr
  obtain ⟨j, h1, h2, h3⟩ := wrsF_list (filB s) p (q - m) m D (by omega)
  have hl := wrsF_len (filB s) p (q - m) m D
  unfold writesP
  simp only [hp, hq]
  by_cases h0 : (wrsF (filB s) p (q - m) m D).2 = 0
  · rw [if_pos h0]
    refine ⟨fun hz x => ?_, fun hz => ⟨j, by omega, fun x => ?_⟩⟩
    · rw [writeB_yes _ _ _ hz, strL_set18 _ _ _ _ (by omega), h2 x, h3 h0, show p + 1 + m + (q - m) = p + 1 + q by omega]
    · rw [writeB_not _ _ _ hz, h2 x]
  · rw [if_neg h0]
    exact ⟨fun hz => absurd hz h0, fun _ => ⟨j, by omega, h2⟩⟩

theorem filB_bt (s : ByteArray) (j : Nat) (h : j < s.size) : bt (filB s) j = bt s j := by unfold filB; exact bt_append_left _ _ _ h
theorem blkB_bt (s : ByteArray) (i r : Nat) (hr : r < 64) (h : 64 * i + 64 ≤ (filB s).size) : bt (blkB (filB s) i) r = bt (filB s) (64 * i + r) := by unfold blkB; exact bt_extract _ _ _ _ (by omega) h
theorem blkB_size (s : ByteArray) (i : Nat) (h : i < (s.size + 63) / 64) : (blkB (filB s) i).size = 64 := by
  unfold blkB
  rw [ByteArray.size_extract, filB_size]; omega

/-- The bytes of a half that is whole are the half's. -/
theorem half_bt {L : List ByteArray} {wh : Nat} {X : StoT} (hw : wh < 2) (h2 : 2 ≤ L.length) (h64 : All64 L) (h : halfP L wh = some X) :
    X.2.2.2.size = (hf2 L (wh * (L.length / 2))).2 ∧ ∀ j, j < X.2.2.2.size → bt X.2.2.2 j = bt (strL L (wh * (L.length / 2) + 1 + j / 64)) (j % 64) := by
  obtain ⟨_, _, _, hn, hB, _, _, _⟩ := half_some h
  have hpl : wh * (L.length / 2) + (L.length / 2 - 1) < L.length := by
    rcases (show wh = 0 ∨ wh = 1 by omega) with rfl | rfl <;> omega
  have hs := allB_size L (wh * (L.length / 2)) (L.length / 2 - 1) h64 hpl
  have hsz : X.2.2.2.size = (hf2 L (wh * (L.length / 2))).2 := by
    rw [hB]; unfold hfB; rw [ByteArray.size_extract, hs]; omega
  refine ⟨hsz, fun j hj => ?_⟩
  have e : bt X.2.2.2 j = bt (hfB L (wh * (L.length / 2))) j := by rw [hB]
  rw [e]
  unfold hfB
  rw [bt_extract _ _ _ _ (by omega) (by omega), Nat.zero_add]
  exact allB_bt L _ h64 _ j hpl (by omega)

/-- A half with a head of these bytes, that has these bytes, is whole. -/
theorem half_made {L : List ByteArray} {wh turn : Nat} {S x : ByteArray} {l : List ByteArray} (hw : wh < 2) (h2 : 2 ≤ L.length) (h64 : All64 L) (ht1 : 1 ≤ turn) (htp : turn % 2 = wh) (ht : turn ≤ 1099511627775) (hr : (S.size + 63) / 64 + 1 ≤ L.length / 2) (hlen : L.length ≤ 2048)
    (hd : strL L (wh * (L.length / 2)) = hdB (turn : Int) S) (hb : ∀ j, j < S.size → bt (strL L (wh * (L.length / 2) + 1 + j / 64)) (j % 64) = bt S j) (hx : txsP S = some (x :: l)) : halfP L wh = some (x, l, (turn : Int), S) := by
  obtain ⟨R1, R2, n1, n2⟩ := hd_nums turn S ht (by omega)
  have e1 : hf1 L (wh * (L.length / 2)) = ((R1, 0), turn) := by unfold hf1; rw [hd, n1]
  have e2 : hf2 L (wh * (L.length / 2)) = ((R2, 0), S.size) := by unfold hf2; rw [e1, n2]
  have hpl : wh * (L.length / 2) + (L.length / 2 - 1) < L.length := by
    rcases (show wh = 0 ∨ wh = 1 by omega) with rfl | rfl <;> omega
  have hs := allB_size L (wh * (L.length / 2)) (L.length / 2 - 1) h64 hpl
  have e3 : hfB L (wh * (L.length / 2)) = S := by
    unfold hfB
    rw [e2]
    refine bt_ext _ _ (by rw [ByteArray.size_extract, hs]; show min S.size _ - 0 = _; omega) (fun i hi => ?_)
    rw [ByteArray.size_extract, hs] at hi
    have hi' : i < S.size := by have : i < min S.size (64 * (L.length / 2 - 1)) - 0 := hi; omega
    rw [bt_extract _ _ _ _ (by show 0 + i < S.size; omega) (by rw [hs]; show S.size ≤ _; omega), Nat.zero_add, allB_bt L _ h64 _ i hpl (by omega), hb i hi']
  unfold halfP
  simp only [e1, e2, e3, hx, hd]
  rw [if_neg (by simp; omega), if_pos trivial]

/-- A store that is what is opened; the other half's head is an elder one's. -/
structure Fresh (L : List ByteArray) (X : StoT) (wh : Nat) : Prop where
  w : wh < 2
  l2 : 2 ≤ L.length
  l3 : L.length ≤ 2048
  a : All64 L
  h : halfP L wh = some X
  o : ((hf1 L ((1 - wh) * (L.length / 2))).2 : Int) < X.2.2.1
  t : X.2.2.1 ≤ 1099511627775
theorem Fresh.open {L : List ByteArray} {X : StoT} {wh : Nat} (h : Fresh L X wh) : openP L = X := open_of wh h.w h.h (fun Y hY => by have := (half_some hY).1; have := h.o; omega)
theorem Fresh.turn {L : List ByteArray} {X : StoT} {wh : Nat} (h : Fresh L X wh) : ∃ turn : Nat, X.2.2.1 = (turn : Int) ∧ 1 ≤ turn ∧ turn % 2 = wh ∧ turn ≤ 1099511627775 := by
  obtain ⟨e1, e2, e3, _⟩ := half_some h.h
  exact ⟨_, e1, e2, e3, by have := h.t; omega⟩

/-- A list that is another up to blocks k to k' (behind the head of half wh). -/
theorem all64_put {L L' : List ByteArray} {S : ByteArray} {p m j : Nat} (h : All64 L) (hl : L'.length = L.length) (hq : m + j ≤ (S.size + 63) / 64) (hx : ∀ x, strL L' x = if p + 1 + m ≤ x ∧ x < p + 1 + m + j then blkB (filB S) (x - (p + 1)) else strL L x) : All64 L' := by
  intro i hi
  rw [hx i]
  by_cases c : p + 1 + m ≤ i ∧ i < p + 1 + m + j
  · rw [if_pos c]; exact blkB_size S _ (by omega)
  · rw [if_neg c]; exact h i (by omega)
theorem all64_done {L L' : List ByteArray} {S H : ByteArray} {p m : Nat} (h : All64 L) (hl : L'.length = L.length) (hH : H.size = 64) (hx : ∀ x, strL L' x = if x = p then H else if p + 1 + m ≤ x ∧ x < p + 1 + (S.size + 63) / 64 then blkB (filB S) (x - (p + 1)) else strL L x) : All64 L' := by
  intro i hi
  rw [hx i]
  by_cases c0 : i = p
  · rw [if_pos c0]; exact hH
  · rw [if_neg c0]
    by_cases c : p + 1 + m ≤ i ∧ i < p + 1 + (S.size + 63) / 64
    · rw [if_pos c]; exact blkB_size S _ (by omega)
    · rw [if_neg c]; exact h i (by omega)

/-- Add, and the power goes off: as ahead. -/
theorem add_part {L L' : List ByteArray} {X : StoT} {wh j : Nat} {T : ByteArray} (F : Fresh L X wh) (hl : L'.length = L.length) (hr : ((X.2.2.2 ++ T).size + 63) / 64 + 1 ≤ L.length / 2) (hj : X.2.2.2.size / 64 + j ≤ ((X.2.2.2 ++ T).size + 63) / 64)
    (hx : ∀ x, strL L' x = if wh * (L.length / 2) + 1 + X.2.2.2.size / 64 ≤ x ∧ x < wh * (L.length / 2) + 1 + X.2.2.2.size / 64 + j then blkB (filB (X.2.2.2 ++ T)) (x - (wh * (L.length / 2) + 1)) else strL L x) : Fresh L' X wh := by
  obtain ⟨hw, h2, h3, h64, hh, ho, ht⟩ := F
  have h64' : All64 L' := all64_put h64 hl hj hx
  obtain ⟨hn, hbt⟩ := half_bt hw h2 h64 hh
  obtain ⟨p, hp⟩ : ∃ p, wh * (L.length / 2) = p := ⟨_, rfl⟩
  obtain ⟨p', hp'⟩ : ∃ p', (1 - wh) * (L.length / 2) = p' := ⟨_, rfl⟩
  have hpp : (p = 0 ∧ p' = L.length / 2) ∨ (p = L.length / 2 ∧ p' = 0) := by
    rcases (show wh = 0 ∨ wh = 1 by omega) with rfl | rfl
    · left; omega
    · right; omega
  have hs1 : halfP L' wh = halfP L wh := by
    refine half_same L L' wh h2 hw h64 h64' hl (by rw [hx, if_neg (by omega)]) (fun _ i hi => ?_)
    rw [← hn] at hi
    rw [hp] at hx hbt ⊢
    rw [hx]
    by_cases c : p + 1 + X.2.2.2.size / 64 ≤ p + 1 + i / 64 ∧ p + 1 + i / 64 < p + 1 + X.2.2.2.size / 64 + j
    · rw [if_pos c, show p + 1 + i / 64 - (p + 1) = i / 64 by omega, blkB_bt _ _ _ (Nat.mod_lt _ (by decide)) (by rw [filB_size]; omega), show 64 * (i / 64) + i % 64 = i by omega, filB_bt _ _ (by rw [ByteArray.size_append]; omega), bt_append_left _ _ _ hi, hbt i hi]
    · rw [if_neg c]
  have hs0 : strL L' p' = strL L p' := by rw [hx, hp, if_neg (by omega)]
  refine ⟨hw, by omega, by omega, h64', by rw [hs1]; exact hh, ?_, ht⟩
  unfold hf1 at ho ⊢
  rw [hl, hp', hs0]
  rw [hp'] at ho
  exact ho

/-- Add, done. -/
theorem add_all {L L' : List ByteArray} {X : StoT} {wh turn : Nat} {t : ByteArray} (F : Fresh L X wh) (htn : X.2.2.1 = (turn : Int)) (ht : t.size ≤ 32768) (hl : L'.length = L.length) (hr : ((X.2.2.2 ++ txB t).size + 63) / 64 + 1 ≤ L.length / 2)
    (hx : ∀ x, strL L' x = if x = wh * (L.length / 2) then hdB (turn : Int) (X.2.2.2 ++ txB t) else if wh * (L.length / 2) + 1 + X.2.2.2.size / 64 ≤ x ∧ x < wh * (L.length / 2) + 1 + ((X.2.2.2 ++ txB t).size + 63) / 64 then blkB (filB (X.2.2.2 ++ txB t)) (x - (wh * (L.length / 2) + 1)) else strL L x) : Fresh L' (X.1, X.2.1 ++ [t], X.2.2.1, X.2.2.2 ++ txB t) wh := by
  obtain ⟨tn, e1, e2, e3, e4⟩ := F.turn
  obtain rfl : tn = turn := by omega
  obtain ⟨hw, h2, h3, h64, hh, ho, ht9⟩ := F
  have h64' : All64 L' := all64_done h64 hl (hdB_size _ _) hx
  obtain ⟨hn, hbt⟩ := half_bt hw h2 h64 hh
  obtain ⟨_, _, _, _, _, htx, _, _⟩ := half_some hh
  obtain ⟨p, hp⟩ : ∃ p, wh * (L.length / 2) = p := ⟨_, rfl⟩
  obtain ⟨p', hp'⟩ : ∃ p', (1 - wh) * (L.length / 2) = p' := ⟨_, rfl⟩
  have hpp : (p = 0 ∧ p' = L.length / 2) ∨ (p = L.length / 2 ∧ p' = 0) := by
    rcases (show wh = 0 ∨ wh = 1 by omega) with rfl | rfl
    · left; omega
    · right; omega
  rw [hp] at hx hbt
  have hm : halfP L' wh = some (X.1, X.2.1 ++ [t], (tn : Int), X.2.2.2 ++ txB t) := by
    refine half_made hw (by omega) h64' e2 e3 e4 (by rw [hl]; exact hr) (by omega) ?_ (fun i hi => ?_) ?_
    · rw [hl, hp, hx, if_pos rfl]
    · rw [hl, hp, hx, if_neg (by omega)]
      have hsz : (X.2.2.2 ++ txB t).size = X.2.2.2.size + (txB t).size := ByteArray.size_append
      by_cases c : p + 1 + X.2.2.2.size / 64 ≤ p + 1 + i / 64 ∧ p + 1 + i / 64 < p + 1 + ((X.2.2.2 ++ txB t).size + 63) / 64
      · rw [if_pos c, show p + 1 + i / 64 - (p + 1) = i / 64 by omega, blkB_bt _ _ _ (Nat.mod_lt _ (by decide)) (by rw [filB_size]; omega), show 64 * (i / 64) + i % 64 = i by omega, filB_bt _ _ hi]
      · have hi2 : i < X.2.2.2.size := by omega
        rw [if_neg c, ← hbt i hi2, bt_append_left _ _ _ hi2]
    · exact txs_app t ht _ _ _ (Nat.le_refl _) htx
  have hs0 : strL L' p' = strL L p' := by rw [hx, if_neg (by omega), if_neg (by omega)]
  refine ⟨hw, by omega, by omega, h64', by rw [e1]; exact hm, ?_, ht9⟩
  unfold hf1 at ho ⊢
  rw [hl, hp', hs0]
  rw [hp'] at ho
  exact ho

/-- Lay, and the power goes off: as ahead. -/
theorem lay_part {L L' : List ByteArray} {X : StoT} {wh j : Nat} {T : ByteArray} (F : Fresh L X wh) (hl : L'.length = L.length) (hr : (T.size + 63) / 64 + 1 ≤ L.length / 2) (hj : 0 + j ≤ (T.size + 63) / 64)
    (hx : ∀ x, strL L' x = if (1 - wh) * (L.length / 2) + 1 + 0 ≤ x ∧ x < (1 - wh) * (L.length / 2) + 1 + 0 + j then blkB (filB T) (x - ((1 - wh) * (L.length / 2) + 1)) else strL L x) : Fresh L' X wh := by
  obtain ⟨hw, h2, h3, h64, hh, ho, ht⟩ := F
  have h64' : All64 L' := all64_put h64 hl hj hx
  obtain ⟨p, hp⟩ : ∃ p, wh * (L.length / 2) = p := ⟨_, rfl⟩
  obtain ⟨p', hp'⟩ : ∃ p', (1 - wh) * (L.length / 2) = p' := ⟨_, rfl⟩
  have hpp : (p = 0 ∧ p' = L.length / 2) ∨ (p = L.length / 2 ∧ p' = 0) := by
    rcases (show wh = 0 ∨ wh = 1 by omega) with rfl | rfl
    · left; omega
    · right; omega
  rw [hp'] at hx
  have hs1 : halfP L' wh = halfP L wh := by
    refine half_same L L' wh h2 hw h64 h64' hl (by rw [hp, hx, if_neg (by omega)]) (fun hn i hi => ?_)
    rw [hp] at hn hi ⊢
    rw [hx, if_neg (by omega)]
  have hs0 : strL L' p' = strL L p' := by rw [hx, if_neg (by omega)]
  refine ⟨hw, by omega, by omega, h64', by rw [hs1]; exact hh, ?_, ht⟩
  unfold hf1 at ho ⊢
  rw [hl, hp', hs0]
  rw [hp'] at ho
  exact ho

/-- Lay, done, over whatever was there. -/
theorem lay_made {L L' : List ByteArray} {wh turn : Nat} {t : ByteArray} (hw : wh < 2) (h2 : 2 ≤ L.length) (h3 : L.length ≤ 2048) (h64 : All64 L) (ht1 : 1 ≤ turn) (htp : turn % 2 = wh) (ht9 : turn ≤ 1099511627775) (ht : t.size ≤ 32768) (hl : L'.length = L.length) (hr : ((txB t).size + 63) / 64 + 1 ≤ L.length / 2)
    (hx : ∀ x, strL L' x = if x = wh * (L.length / 2) then hdB (turn : Int) (txB t) else if wh * (L.length / 2) + 1 + 0 ≤ x ∧ x < wh * (L.length / 2) + 1 + ((txB t).size + 63) / 64 then blkB (filB (txB t)) (x - (wh * (L.length / 2) + 1)) else strL L x) :
    All64 L' ∧ halfP L' wh = some (t, [], (turn : Int), txB t) ∧ strL L' ((1 - wh) * (L.length / 2)) = strL L ((1 - wh) * (L.length / 2)) := by
  have h64' : All64 L' := all64_done h64 hl (hdB_size _ _) hx
  obtain ⟨p, hp⟩ : ∃ p, wh * (L.length / 2) = p := ⟨_, rfl⟩
  obtain ⟨p', hp'⟩ : ∃ p', (1 - wh) * (L.length / 2) = p' := ⟨_, rfl⟩
  have hpp : (p = 0 ∧ p' = L.length / 2) ∨ (p = L.length / 2 ∧ p' = 0) := by
    rcases (show wh = 0 ∨ wh = 1 by omega) with rfl | rfl
    · left; omega
    · right; omega
  rw [hp] at hx
  refine ⟨h64', ?_, by rw [hp', hx, if_neg (by omega), if_neg (by omega)]⟩
  refine half_made hw (by omega) h64' ht1 htp ht9 (by rw [hl]; exact hr) (by omega) ?_ (fun i hi => ?_) ?_
  · rw [hl, hp, hx, if_pos rfl]
  · rw [hl, hp, hx, if_neg (by omega), if_pos (by omega), show p + 1 + i / 64 - (p + 1) = i / 64 by omega, blkB_bt _ _ _ (Nat.mod_lt _ (by decide)) (by rw [filB_size]; omega), show 64 * (i / 64) + i % 64 = i by omega, filB_bt _ _ hi]
  · have e : txB t = txB t ++ ⟨#[]⟩ := ByteArray.append_empty.symm
    rw [e, txs_one t _ ht, txsP_none _ rfl]
    rfl

end Go.Proofs.YtaakmcihpdbilaaGreatDoor

/- Layer 18, plain: as ahead of the call, or as behind it; the first lay; a head with another bit. -/
namespace Go.Proofs.YtaakmcihpdbilaaGreatDoor
open Go.RowKit
set_option maxRecDepth 100000
set_option linter.unusedSimpArgs false
set_option maxRecDepth 100000

/-- Add: done, or as ahead. -/
theorem before_add (D : DevT) (X : StoT) (t : ByteArray) (wh : Nat) (F : Fresh D.1 X wh) :
    ((addP D X t).2.2 = 0 → (addP D X t).2.1 = (X.1, X.2.1 ++ [t], X.2.2.1, X.2.2.2 ++ txB t) ∧ Fresh (addP D X t).1.1 (addP D X t).2.1 wh) ∧ (¬ (addP D X t).2.2 = 0 → (addP D X t).2.1 = X ∧ Fresh (addP D X t).1.1 X wh) := by
  obtain ⟨turn, e1, e2, e3, e4⟩ := F.turn
  unfold addP
  split
  · exact ⟨fun h => (by cases h), fun _ => ⟨rfl, F⟩⟩
  · next hc =>
    have ht : t.size ≤ 32768 := by omega
    have hsz : (X.2.2.2 ++ txB t).size = X.2.2.2.size + (t.size + 2) := by rw [ByteArray.size_append, txB_size]
    have hr : ((X.2.2.2 ++ txB t).size + 63) / 64 + 1 ≤ D.1.length / 2 := by rw [hsz]; omega
    have en : X.2.2.1.toNat = turn := by omega
    rw [en]
    obtain ⟨w1, w2⟩ := writesP_list D turn (X.2.2.2.size / 64) (X.2.2.2 ++ txB t) (by rw [hsz]; omega) hr
    have hl := writesP_len D turn (X.2.2.2.size / 64) (X.2.2.2 ++ txB t)
    rw [e3] at w1 w2
    simp only
    split
    · next h0 => exact ⟨fun _ => ⟨rfl, add_all F e1 ht hl hr (w1 h0)⟩, fun h => absurd rfl h⟩
    · next h0 =>
      refine ⟨fun h => absurd h h0, fun _ => ⟨rfl, ?_⟩⟩
      obtain ⟨j, hj, hx⟩ := w2 h0
      exact add_part F hl hr hj hx

/-- Lay: done, or as ahead. -/
theorem before_lay (D : DevT) (X : StoT) (t : ByteArray) (wh : Nat) (F : Fresh D.1 X wh) :
    ((layS D X t).2.2 = 0 → (layS D X t).2.1 = (t, [], X.2.2.1 + 1, txB t) ∧ Fresh (layS D X t).1.1 (layS D X t).2.1 (1 - wh)) ∧ (¬ (layS D X t).2.2 = 0 → (layS D X t).2.1 = X ∧ Fresh (layS D X t).1.1 X wh) := by
  obtain ⟨turn, e1, e2, e3, e4⟩ := F.turn
  unfold layS
  split
  · exact ⟨fun h => (by cases h), fun _ => ⟨rfl, F⟩⟩
  · next hc =>
    have ht : t.size ≤ 32768 := by omega
    have hsz : (txB t).size = t.size + 2 := txB_size t
    have hr : ((txB t).size + 63) / 64 + 1 ≤ D.1.length / 2 := by rw [hsz]; omega
    have en : (X.2.2.1 + 1).toNat = turn + 1 := by omega
    rw [en]
    obtain ⟨w1, w2⟩ := writesP_list D (turn + 1) 0 (txB t) (Nat.zero_le _) hr
    have hl := writesP_len D (turn + 1) 0 (txB t)
    have hw := F.w
    have hpar : (turn + 1) % 2 = 1 - wh := by omega
    rw [hpar] at w1 w2
    simp only
    split
    · next h0 =>
      refine ⟨fun _ => ⟨rfl, ?_⟩, fun h => absurd rfl h⟩
      obtain ⟨g1, g2, g3⟩ := lay_made (by omega) F.l2 F.l3 F.a (by omega) hpar (by omega) ht hl hr (w1 h0)
      have ee : X.2.2.1 + 1 = ((turn + 1 : Nat) : Int) := by omega
      have e11 : 1 - (1 - wh) = wh := by omega
      rw [e11] at g3
      refine ⟨by omega, by rw [hl]; exact F.l2, by rw [hl]; exact F.l3, g1, by rw [ee]; exact g2, ?_, by show X.2.2.1 + 1 ≤ _; omega⟩
      show ((hf1 (writesP D (turn + 1) 0 (txB t)).1.1 ((1 - (1 - wh)) * ((writesP D (turn + 1) 0 (txB t)).1.1.length / 2))).2 : Int) < X.2.2.1 + 1
      have e5 : hf1 (writesP D (turn + 1) 0 (txB t)).1.1 (wh * (D.1.length / 2)) = hf1 D.1 (wh * (D.1.length / 2)) := by unfold hf1; rw [g3]
      rw [e11, hl, e5, ← (half_some F.h).1]
      omega
    · next h0 =>
      refine ⟨fun h => absurd h h0, fun _ => ⟨rfl, ?_⟩⟩
      obtain ⟨j, hj, hx⟩ := w2 h0
      exact lay_part F hl hr hj hx

/-! ### A device of noughts. -/
theorem accB_noughts (n : Nat) : ∀ k, accB (zeroB n) k = 0
  | 0 => rfl
  | k + 1 => by show accB (zeroB n) k * 256 + bt (zeroB n) k = 0; rw [accB_noughts n k, bt_zeroB]
theorem hf1_noughts (L : List ByteArray) (p : Nat) (h : strL L p = zeroB 64) : (hf1 L p).2 = 0 := by
  have e : numberP (zeroB 64, 0) 6 = (((zeroB 64).extract 6 (zeroB 64).size, 0), 0) := by
    unfold numberP
    rw [if_neg (by
      rintro (e | e)
      · exact e rfl
      · have e' : (zeroB 64).size < 6 := e
        rw [zeroB_size] at e'; omega)]
    show (((zeroB 64).extract 6 (zeroB 64).size, (0 : Int)), accB (zeroB 64) 6) = _
    rw [accB_noughts]
  unfold hf1 inNumP
  rw [h, e]
  rfl
theorem half_noughts (L : List ByteArray) (wh : Nat) (h : strL L (wh * (L.length / 2)) = zeroB 64) : halfP L wh = none := by
  have h1 := hf1_noughts L _ h
  unfold halfP
  simp only
  rw [if_pos (by omega)]
theorem open_noughts (L : List ByteArray) (h2 : 2 ≤ L.length) (h : ∀ i, i < L.length → strL L i = zeroB 64) : openP L = zeroT := by
  have a := half_noughts L 0 (h _ (by omega))
  have b := half_noughts L 1 (h _ (by omega))
  unfold openP
  rw [a, b]
  rfl
/-- The first lay. -/
theorem lay_first (D : DevT) (t : ByteArray) (h2 : 2 ≤ D.1.length) (h3 : D.1.length ≤ 2048) (h : ∀ i, i < D.1.length → strL D.1 i = zeroB 64) (h0 : (layS D zeroT t).2.2 = 0) :
    (layS D zeroT t).2.1 = (t, [], 1, txB t) ∧ Fresh (layS D zeroT t).1.1 (layS D zeroT t).2.1 1 := by
  have h64 : All64 D.1 := fun i hi => by rw [h i hi]; exact zeroB_size 64
  unfold layS at h0 ⊢
  split at h0
  · cases h0
  · next hc =>
    rw [if_neg hc]
    have hsz : (txB t).size = t.size + 2 := txB_size t
    have hr : ((txB t).size + 63) / 64 + 1 ≤ D.1.length / 2 := by rw [hsz]; omega
    have en : ((zeroT).2.2.1 + 1).toNat = 1 := rfl
    rw [en] at h0 ⊢
    obtain ⟨w1, _⟩ := writesP_list D 1 0 (txB t) (Nat.zero_le _) hr
    have hl := writesP_len D 1 0 (txB t)
    simp only at h0 ⊢
    split at h0
    · next hz =>
      rw [if_pos hz]
      refine ⟨rfl, ?_⟩
      obtain ⟨g1, g2, g3⟩ := lay_made (wh := 1) (turn := 1) (by decide) h2 h3 h64 (by decide) rfl (by decide) (by omega) hl hr (w1 hz)
      refine ⟨by decide, by rw [hl]; exact h2, by rw [hl]; exact h3, g1, g2, ?_, by show (0 : Int) + 1 ≤ _; decide⟩
      show ((hf1 (writesP D 1 0 (txB t)).1.1 ((1 - 1) * ((writesP D 1 0 (txB t)).1.1.length / 2))).2 : Int) < (0 : Int) + 1
      rw [hl, hf1_noughts _ _ (by rw [g3]; exact h _ (by omega))]
      decide
    · next hz => exact absurd h0 hz

/-! ### A head with another byte. -/
theorem hd_parts (turn : Nat) (S : ByteArray) : (∀ j, j < 6 → bt (hdB (turn : Int) S) j = bt (bigB (turn : Int) 6) j) ∧ ∀ j, j < 6 → bt (hdB (turn : Int) S) (6 + j) = bt (bigB (S.size : Int) 6) j := by
  obtain ⟨Z, hZ⟩ : ∃ Z, hdB (turn : Int) S = bigB (turn : Int) 6 ++ (bigB (S.size : Int) 6 ++ Z) := by
    unfold hdB filB
    rw [ByteArray.append_assoc, ByteArray.append_assoc, ByteArray.append_assoc]
    exact ⟨_, rfl⟩
  have hs := bigB_size (turn : Int) 6
  refine ⟨fun j hj => ?_, fun j hj => ?_⟩
  · rw [hZ, bt_append_left _ _ _ (by rw [hs]; exact hj)]
  · have e : 6 + j = (bigB (turn : Int) 6).size + j := by rw [hs]
    rw [hZ, e, bt_append_right, bt_append_left _ _ _ (by rw [bigB_size]; exact hj)]
/-- In a device whose half wh has the bytes T, and as its head that of turn and T but for a byte of the turn, or of the sum, the turn is none. -/
theorem spoilt18 {L : List ByteArray} {wh turn j : Nat} {T H' : ByteArray} (hw : wh < 2) (h2 : 2 ≤ L.length) (h64 : All64 L) (ht1 : 1 ≤ turn) (htp : turn % 2 = wh) (hT : T.size ≤ 1099511627775) (hd : strL L (wh * (L.length / 2)) = H') (hb : ∀ i, i < T.size → bt (strL L (wh * (L.length / 2) + 1 + i / 64)) (i % 64) = bt T i)
    (hj : j < 6 ∨ (12 ≤ j ∧ j < 20)) (hne : bt H' j ≠ bt (hdB (turn : Int) T) j) (hsame : ∀ i, i < 64 → i ≠ j → bt H' i = bt (hdB (turn : Int) T) i) : (openP L).2.2.1 ≠ (turn : Int) := by
  intro e
  obtain ⟨wh0, hw0, hh, _⟩ := open_some (L := L) rfl (by rw [e]; omega)
  obtain ⟨a1, a2, a3, a4, a5, _, a7, _⟩ := half_some hh
  obtain ⟨b1, b2⟩ := half_bt hw0 h2 h64 hh
  rw [e] at a1 a7
  obtain rfl : wh0 = wh := by omega
  rw [hd] at a7
  obtain ⟨c1, c2⟩ := hd_parts turn T
  obtain ⟨d1, d2⟩ := hd_parts turn (openP L).2.2.2
  rcases hj with hj | hj
  · exact hne (by rw [← a7, d1 j hj, c1 j hj])
  · have hsz : (openP L).2.2.2.size = T.size := by
      have hpl : wh0 * (L.length / 2) + (L.length / 2 - 1) < L.length := by
        rcases (show wh0 = 0 ∨ wh0 = 1 by omega) with rfl | rfl <;> omega
      have hsm : (openP L).2.2.2.size ≤ 1099511627775 := by rw [b1]; exact inNumP_small _
      have q1 := accB_big (openP L).2.2.2.size 6 (Nat.lt_of_le_of_lt hsm (by decide))
      have q2 := accB_big T.size 6 (Nat.lt_of_le_of_lt hT (by decide))
      rw [← q1, ← q2]
      exact accB_congr _ _ 6 (fun i hi => by rw [← d2 i hi, ← c2 i hi, a7]; exact hsame (6 + i) (by omega) (by omega))
    have hTT : (openP L).2.2.2 = T := bt_ext _ _ hsz (fun i hi => by rw [b2 i hi]; exact hb i (by omega))
    rw [hTT] at a7
    exact hne (by rw [← a7])

/-! ### Measures. -/
theorem txs_len : ∀ n (A : ByteArray) (l : List ByteArray), A.size ≤ n → txsP A = some l → 2 * l.length ≤ A.size
  | n, A, l, hn, h => by
    by_cases h0 : A.size = 0
    · rw [txsP_none A h0] at h; cases h; exact Nat.zero_le _
    · by_cases he : (inTextP (A, 0) 32768).1.2 = 0
      · have hless := inTextP_less A 32768 he
        obtain ⟨⟨⟨S1, e1⟩, T0⟩, hq⟩ : ∃ z, inTextP (A, 0) 32768 = z := ⟨_, rfl⟩
        rw [hq] at he hless
        simp only at he hless
        subst he
        rw [txsP_next A S1 T0 h0 hq] at h
        cases hS : txsP S1 with
        | none => rw [hS] at h; cases h
        | some l1 =>
          rw [hS] at h
          cases h
          match n, hn with
          | 0, hn => omega
          | n + 1, hn =>
            have ih := txs_len n S1 l1 (by omega) hS
            show 2 * (T0 :: l1).length ≤ _
            rw [List.length_cons]; omega
      · rw [txsP_bad A h0 he] at h; cases h
/-- A store's measures, on a device of n blocks. -/
structure StM (n : Nat) (X : StoT) : Prop where
  t0 : 0 ≤ X.2.2.1
  t1 : X.2.2.1 ≤ 1099511627775
  b : X.2.2.2.size ≤ 64 * (n / 2 - 1)
  l : 2 * X.2.1.length ≤ X.2.2.2.size
theorem StM.ok {n : Nat} {X : StoT} (h : StM n X) (hn : n ≤ 2048) : StO X := ⟨h.t0, h.t1, by have := h.b; omega, by have := h.b; have := h.l; omega⟩
theorem stM_half {L : List ByteArray} {wh : Nat} {X : StoT} (hw : wh < 2) (h2 : 2 ≤ L.length) (h64 : All64 L) (h : halfP L wh = some X) : StM L.length X := by
  obtain ⟨a1, a2, a3, a4, a5, a6, a7, _⟩ := half_some h
  obtain ⟨b1, _⟩ := half_bt hw h2 h64 h
  have hl := txs_len _ _ _ (Nat.le_refl _) a6
  rw [List.length_cons] at hl
  exact ⟨by rw [a1]; omega, by rw [a1]; have : (hf1 L (wh * (L.length / 2))).2 ≤ 1099511627775 := inNumP_small _; omega, by rw [b1]; exact a4, by omega⟩
theorem stM_open (L : List ByteArray) (h2 : 2 ≤ L.length) (h64 : All64 L) : StM L.length (openP L) := by
  have hz : StM L.length zeroT := ⟨Int.le_refl _, by decide, Nat.zero_le _, Nat.le_refl _⟩
  have hh : ∀ wh, wh < 2 → StM L.length ((halfP L wh).getD zeroT) := fun wh hw => by
    cases h : halfP L wh with
    | none => exact hz
    | some X => exact stM_half hw h2 h64 h
  unfold openP
  split
  · exact hh 1 (by decide)
  · exact hh 0 (by decide)
theorem stM_add (D : DevT) (X : StoT) (t : ByteArray) (h : StM D.1.length X) : StM D.1.length (addP D X t).2.1 := by
  unfold addP
  split
  · exact h
  · next hc =>
    simp only
    split
    · have hsz : (X.2.2.2 ++ txB t).size = X.2.2.2.size + (t.size + 2) := by rw [ByteArray.size_append, txB_size]
      exact ⟨h.t0, h.t1, by show (X.2.2.2 ++ txB t).size ≤ _; rw [hsz]; omega, by show 2 * (X.2.1 ++ [t]).length ≤ (X.2.2.2 ++ txB t).size; rw [hsz, List.length_append, List.length_singleton]; have := h.l; omega⟩
    · exact h
theorem stM_lay (D : DevT) (X : StoT) (t : ByteArray) (h : StM D.1.length X) : StM D.1.length (layS D X t).2.1 := by
  unfold layS
  split
  · exact h
  · next hc =>
    simp only
    split
    · have h0 := h.t0
      exact ⟨by show 0 ≤ X.2.2.1 + 1; omega, by show X.2.2.1 + 1 ≤ _; omega, by show (txB t).size ≤ _; rw [txB_size]; omega, Nat.zero_le _⟩
    · exact h

end Go.Proofs.YtaakmcihpdbilaaGreatDoor

/- Layer 18, plain: writes with the power on; measures of a device behind the calls. -/
namespace Go.Proofs.YtaakmcihpdbilaaGreatDoor
open Go.RowKit
set_option maxRecDepth 100000
set_option linter.unusedSimpArgs false
set_option maxRecDepth 100000

/-- The power is on, and there is no fuse. -/
def OnD (D : DevT) : Prop := D.2.2.1 = false ∧ D.2.1 = -1
theorem writeB_on (D : DevT) (k : Nat) (s : ByteArray) (h : OnD D) : (writeB D k s).2 = 0 ∧ OnD (writeB D k s).1 := by
  have e : writeB D k s = ((D.1.set k s, (if 0 < D.2.1 then D.2.1 - 1 else D.2.1), false, D.2.2.2 + 1), 0) := by
    unfold writeB
    rw [if_neg (by rintro (e | e); · rw [h.1] at e; cases e
                   · rw [h.2] at e; cases e)]
  rw [e]
  refine ⟨rfl, rfl, ?_⟩
  show (if 0 < D.2.1 then D.2.1 - 1 else D.2.1) = -1
  rw [h.2]; rfl
theorem wrsF_on (S : ByteArray) (p : Nat) : ∀ f i D, OnD D → (wrsF S p f i D).2 = 0 ∧ OnD (wrsF S p f i D).1
  | 0, _, _, h => ⟨rfl, h⟩
  | f + 1, i, D, h => by
    obtain ⟨h1, h2⟩ := writeB_on D (p + 1 + i) (blkB S i) h
    have e : wrsF S p (f + 1) i D = wrsF S p f (i + 1) (writeB D (p + 1 + i) (blkB S i)).1 := if_pos h1
    rw [e]
    exact wrsF_on S p f (i + 1) _ h2
theorem writesP_on (D : DevT) (turn m : Nat) (s : ByteArray) (h : OnD D) : (writesP D turn m s).2 = 0 ∧ OnD (writesP D turn m s).1 := by
  obtain ⟨h1, h2⟩ := wrsF_on (filB s) (turn % 2 * (D.1.length / 2)) ((s.size + 63) / 64 - m) m D h
  unfold writesP
  simp only
  rw [if_pos h1]
  exact writeB_on _ _ _ h2
theorem DvO.wrs {n : Nat} (S : ByteArray) (p : Nat) : ∀ (f i : Nat) (c : Int) (D : DevT), DvO n c D → DvO n (c + (f : Int)) (wrsF S p f i D).1
  | 0, _, c, _, h => h.mono (by omega)
  | f + 1, i, c, D, h => by
    show DvO n _ (if _ = _ then _ else _ : DevT × Int).1
    split
    · exact (DvO.wrs S p f (i + 1) (c + 1) _ (h.wr _ _)).mono (by omega)
    · exact (h.wr _ _).mono (by omega)
theorem DvO.writes {n : Nat} {c : Int} {D : DevT} (h : DvO n c D) (turn m : Nat) (s : ByteArray) (hr : (s.size + 63) / 64 + 1 ≤ n / 2) (hn : n ≤ 2048) : DvO n (c + 1024) (writesP D turn m s).1 := by
  have h1 := DvO.wrs (filB s) (turn % 2 * (D.1.length / 2)) ((s.size + 63) / 64 - m) m c D h
  unfold writesP
  simp only
  split
  · exact (h1.wr _ _).mono (by omega)
  · exact h1.mono (by omega)
theorem DvO.add {n : Nat} {c : Int} {D : DevT} (h : DvO n c D) (X : StoT) (t : ByteArray) (hn : n ≤ 2048) : DvO n (c + 1024) (addP D X t).1 := by
  unfold addP
  split
  · exact h.mono (by omega)
  · next hc =>
    have hr : ((X.2.2.2 ++ txB t).size + 63) / 64 + 1 ≤ n / 2 := by
      rw [ByteArray.size_append, txB_size, ← h.len]; omega
    simp only
    split
    · exact h.writes _ _ _ hr hn
    · exact h.writes _ _ _ hr hn
theorem DvO.lay {n : Nat} {c : Int} {D : DevT} (h : DvO n c D) (X : StoT) (t : ByteArray) (hn : n ≤ 2048) : DvO n (c + 1024) (layS D X t).1 := by
  unfold layS
  split
  · exact h.mono (by omega)
  · next hc =>
    have hr : ((txB t).size + 63) / 64 + 1 ≤ n / 2 := by rw [txB_size, ← h.len]; omega
    simp only
    split
    · exact h.writes _ _ _ hr hn
    · exact h.writes _ _ _ hr hn
/-- Lay with the power on, where there is room, is done. -/
theorem lay_on (D : DevT) (X : StoT) (t : ByteArray) (h : OnD D) (h1 : t.size ≤ 32768) (h2 : X.2.2.1 < 1099511627775) (h3 : (t.size + 2 + 63) / 64 + 1 ≤ D.1.length / 2) : (layS D X t).2.2 = 0 ∧ OnD (layS D X t).1 := by
  obtain ⟨w1, w2⟩ := writesP_on D (X.2.2.1 + 1).toNat 0 (txB t) h
  unfold layS
  rw [if_neg (by omega)]
  simp only
  rw [if_pos w1]
  exact ⟨rfl, w2⟩
theorem add_on (D : DevT) (X : StoT) (t : ByteArray) (h : OnD D) (h1 : t.size ≤ 32768) (h2 : ¬ X.2.2.1 = 0) (h3 : (X.2.2.2.size + (t.size + 2) + 63) / 64 + 1 ≤ D.1.length / 2) : (addP D X t).2.2 = 0 ∧ OnD (addP D X t).1 := by
  obtain ⟨w1, w2⟩ := writesP_on D X.2.2.1.toNat (X.2.2.2.size / 64) (X.2.2.2 ++ txB t) h
  unfold addP
  rw [if_neg (by omega)]
  simp only
  rw [if_pos w1]
  exact ⟨rfl, w2⟩

end Go.Proofs.YtaakmcihpdbilaaGreatDoor

/- Layer 18, plain: one step of StoreBefore. -/
namespace Go.Proofs.YtaakmcihpdbilaaGreatDoor
open Go.RowKit
set_option maxRecDepth 100000
set_option linter.unusedSimpArgs false
set_option maxRecDepth 100000

theorem wrsF_two (S : ByteArray) (p : Nat) : ∀ f i D, (wrsF S p f i D).2 = 0 ∨ (wrsF S p f i D).2 = 170
  | 0, _, _ => .inl rfl
  | f + 1, i, D => by
    show (if _ = _ then _ else _ : DevT × Int).2 = 0 ∨ (if _ = _ then _ else _ : DevT × Int).2 = 170
    split
    · exact wrsF_two S p f (i + 1) _
    · exact writeB_two _ _ _
theorem writesP_two (D : DevT) (turn m : Nat) (s : ByteArray) : (writesP D turn m s).2 = 0 ∨ (writesP D turn m s).2 = 170 := by
  unfold writesP
  simp only
  split
  · exact writeB_two _ _ _
  · exact wrsF_two _ _ _ _ _
theorem add_three (D : DevT) (X : StoT) (t : ByteArray) : (addP D X t).2.2 = 0 ∨ (addP D X t).2.2 = 2 ∨ (addP D X t).2.2 = 170 := by
  unfold addP
  split
  · exact .inr (.inl rfl)
  · simp only
    split
    · exact .inl rfl
    · next h0 =>
      rcases writesP_two D X.2.2.1.toNat (X.2.2.2.size / 64) (X.2.2.2 ++ txB t) with h | h
      · exact absurd h h0
      · exact .inr (.inr h)
theorem lay_three (D : DevT) (X : StoT) (t : ByteArray) : (layS D X t).2.2 = 0 ∨ (layS D X t).2.2 = 2 ∨ (layS D X t).2.2 = 170 := by
  unfold layS
  split
  · exact .inr (.inl rfl)
  · simp only
    split
    · exact .inl rfl
    · next h0 =>
      rcases writesP_two D (X.2.2.1 + 1).toNat 0 (txB t) with h | h
      · exact absurd h h0
      · exact .inr (.inr h)

/-- A device of 40 blocks at round k of StoreBefore, and its store. -/
structure BeP (c : Int) (k : Nat) (D : DevT) (X : StoT) : Prop where
  d : DvO 40 c D
  m : StM 40 X
  f : ∃ wh, Fresh D.1 X wh
  t : X.2.2.1 ≤ (k : Int) + 1
theorem BeP.fuse {c : Int} {k : Nat} {D : DevT} {X : StoT} (h : BeP c k D X) (q : Int) (h0 : 0 ≤ q) (h1 : q ≤ 7) : BeP c k (fuseB D q) X :=
  ⟨⟨h.d.len, h.d.n0, h.d.n1, by show -1 ≤ max q (-1); omega, by show max q (-1) ≤ _; omega⟩, h.m, h.f, h.t⟩
theorem BeP.on {c : Int} {k : Nat} {D : DevT} {X : StoT} (h : BeP c k D X) : BeP c k (onB D) X :=
  ⟨⟨h.d.len, h.d.n0, h.d.n1, by show (-1 : Int) ≤ -1; omega, by show (-1 : Int) ≤ _; omega⟩, h.m, h.f, h.t⟩
theorem BeP.open {c : Int} {k : Nat} {D : DevT} {X : StoT} (h : BeP c k D X) : openP D.1 = X := by
  obtain ⟨wh, F⟩ := h.f
  exact F.open
theorem BeP.add {c : Int} {k : Nat} {D : DevT} {X : StoT} (h : BeP c k D X) (t : ByteArray) :
    BeP (c + 1024) (k + 1) (addP D X t).1 (addP D X t).2.1 ∧ ((addP D X t).2.2 = 0 → (addP D X t).2.1.1 = X.1 ∧ (addP D X t).2.1.2.1 = X.2.1 ++ [t] ∧ (addP D X t).2.1.2.2.1 = X.2.2.1) ∧ (¬ (addP D X t).2.2 = 0 → (addP D X t).2.1 = X) := by
  obtain ⟨wh, F⟩ := h.f
  obtain ⟨b1, b2⟩ := before_add D X t wh F
  have hm := stM_add D X t (by rw [h.d.len]; exact h.m)
  rw [h.d.len] at hm
  have ht := h.t
  by_cases h0 : (addP D X t).2.2 = 0
  · obtain ⟨e, F'⟩ := b1 h0
    exact ⟨⟨h.d.add X t (by decide), hm, ⟨wh, F'⟩, by rw [e]; show X.2.2.1 ≤ _; omega⟩, fun _ => by rw [e]; exact ⟨rfl, rfl, rfl⟩, fun hn => absurd h0 hn⟩
  · obtain ⟨e, F'⟩ := b2 h0
    exact ⟨⟨h.d.add X t (by decide), hm, ⟨wh, by rw [e]; exact F'⟩, by rw [e]; omega⟩, fun hz => absurd hz h0, fun _ => e⟩
theorem BeP.lay {c : Int} {k : Nat} {D : DevT} {X : StoT} (h : BeP c k D X) (t : ByteArray) :
    BeP (c + 1024) (k + 1) (layS D X t).1 (layS D X t).2.1 ∧ ((layS D X t).2.2 = 0 → (layS D X t).2.1.1 = t ∧ (layS D X t).2.1.2.1 = [] ∧ (layS D X t).2.1.2.2.1 = X.2.2.1 + 1) ∧ (¬ (layS D X t).2.2 = 0 → (layS D X t).2.1 = X) := by
  obtain ⟨wh, F⟩ := h.f
  obtain ⟨b1, b2⟩ := before_lay D X t wh F
  have hm := stM_lay D X t (by rw [h.d.len]; exact h.m)
  rw [h.d.len] at hm
  have ht := h.t
  by_cases h0 : (layS D X t).2.2 = 0
  · obtain ⟨e, F'⟩ := b1 h0
    exact ⟨⟨h.d.lay X t (by decide), hm, ⟨_, F'⟩, by rw [e]; show X.2.2.1 + 1 ≤ _; omega⟩, fun _ => by rw [e]; exact ⟨rfl, rfl, rfl⟩, fun hn => absurd h0 hn⟩
  · obtain ⟨e, F'⟩ := b2 h0
    exact ⟨⟨h.d.lay X t (by decide), hm, ⟨wh, by rw [e]; exact F'⟩, by rw [e]; omega⟩, fun hz => absurd hz h0, fun _ => e⟩

end Go.Proofs.YtaakmcihpdbilaaGreatDoor
