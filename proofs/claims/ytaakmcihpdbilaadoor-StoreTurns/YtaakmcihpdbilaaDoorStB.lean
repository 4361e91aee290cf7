/- Layer 18, plain: what is written, and what is opened behind it. -/
import Derived.Test.YtaakmcihpdbilaaDoorStA
namespace Go.Proofs.YtaakmcihpdbilaaDoor
open Go.RowKit
set_option maxRecDepth 100000
set_option linter.unusedSimpArgs false
set_option maxRecDepth 100000

theorem strL_set18 (L : List ByteArray) (k i : Nat) (s : ByteArray) (hk : k < L.length) : strL (L.set k s) i = if i = k then s else strL L i := by
  unfold strL
  rw [List.getD_eq_getElem?_getD, List.getD_eq_getElem?_getD, List.getElem?_set]
  by_cases e : i = k
  · subst e
    rw [if_pos rfl, if_pos rfl, if_pos hk]; rfl
  · rw [if_neg (fun h => e h.symm), if_neg e]

/-- A write's list. -/
theorem writeB_yes (D : DevT) (k : Nat) (s : ByteArray) (h : (writeB D k s).2 = 0) : (writeB D k s).1.1 = D.1.set k s := by
  unfold writeB at h ⊢
  split at h
  · cases h
  · next hc => rw [if_neg hc]
theorem writeB_not (D : DevT) (k : Nat) (s : ByteArray) (h : ¬ (writeB D k s).2 = 0) : (writeB D k s).1.1 = D.1 := by
  unfold writeB at h ⊢
  split
  · rfl
  · next hc => rw [if_neg hc] at h; exact absurd rfl h

theorem wrsF_list (S : ByteArray) (p : Nat) : ∀ f i D, p + 1 + i + f ≤ D.1.length → ∃ j, j ≤ f ∧ (∀ x, strL (wrsF S p f i D).1.1 x = if p + 1 + i ≤ x ∧ x < p + 1 + i + j then blkB S (x - (p + 1)) else strL D.1 x) ∧ ((wrsF S p f i D).2 = 0 → j = f)
  | 0, i, D, _ => ⟨0, Nat.le_refl _, fun x => by rw [if_neg (by omega)]; rfl, fun _ => rfl⟩
  | f + 1, i, D, h => by
    by_cases h0 : (writeB D (p + 1 + i) (blkB S i)).2 = 0
    · have e : wrsF S p (f + 1) i D = wrsF S p f (i + 1) (writeB D (p + 1 + i) (blkB S i)).1 := if_pos h0
      have hl := writeB_len D (p + 1 + i) (blkB S i)
      obtain ⟨j, h1, h2, h3⟩ := wrsF_list S p f (i + 1) (writeB D (p + 1 + i) (blkB S i)).1 (by rw [hl]; omega)
      refine ⟨j + 1, by omega, fun x => ?_, fun hz => by rw [e] at hz; rw [h3 hz]⟩
      rw [e, h2 x, writeB_yes D _ _ h0, strL_set18 _ _ _ _ (by omega)]
      by_cases c1 : p + 1 + (i + 1) ≤ x ∧ x < p + 1 + (i + 1) + j
      · rw [if_pos c1, if_pos (by omega)]
      · rw [if_neg c1]
        by_cases c2 : x = p + 1 + i
        · rw [if_pos c2, if_pos (by omega), c2, show p + 1 + i - (p + 1) = i by omega]
        · rw [if_neg c2, if_neg (by omega)]
    · have e : wrsF S p (f + 1) i D = writeB D (p + 1 + i) (blkB S i) := if_neg h0
      refine ⟨0, Nat.zero_le _, fun x => ?_, fun hz => by rw [e] at hz; exact absurd hz h0⟩
      rw [e, writeB_not D _ _ h0, if_neg (by omega)]

/-- What writes leaves: all, or the blocks alone, up to one. -/
theorem writesP_list (D : DevT) (turn m : Nat) (s : ByteArray) (hm : m ≤ (s.size + 63) / 64) (hr : (s.size + 63) / 64 + 1 ≤ D.1.length / 2) :
    ((writesP D turn m s).2 = 0 → ∀ x, strL (writesP D turn m s).1.1 x = if x = turn % 2 * (D.1.length / 2) then hdB (turn : Int) s else if turn % 2 * (D.1.length / 2) + 1 + m ≤ x ∧ x < turn % 2 * (D.1.length / 2) + 1 + (s.size + 63) / 64 then blkB (filB s) (x - (turn % 2 * (D.1.length / 2) + 1)) else strL D.1 x) ∧
    (¬ (writesP D turn m s).2 = 0 → ∃ j, m + j ≤ (s.size + 63) / 64 ∧ ∀ x, strL (writesP D turn m s).1.1 x = if turn % 2 * (D.1.length / 2) + 1 + m ≤ x ∧ x < turn % 2 * (D.1.length / 2) + 1 + m + j then blkB (filB s) (x - (turn % 2 * (D.1.length / 2) + 1)) else strL D.1 x) := by
  obtain ⟨p, hp⟩ : ∃ p, turn % 2 * (D.1.length / 2) = p := ⟨_, rfl⟩
  have hpl : p = 0 ∨ p = D.1.length / 2 := by
    rcases (show turn % 2 = 0 ∨ turn % 2 = 1 by omega) with e | e
    · left; rw [← hp, e]; omega
    · right; rw [← hp, e]; omega
  obtain ⟨q, hq⟩ : ∃ q, (s.size + 63) / 64 = q := ⟨_, rfl⟩
  rw [hq] at hm hr
  obtain ⟨j, h1, h2, h3⟩ := wrsF_list (filB s) p (q - m) m D (by omega)
  have hl := wrsF_len (filB s) p (q - m) m D
  unfold writesP
  simp only [hp, hq]
  by_cases h0 : (wrsF (filB s) p (q - m) m D).2 = 0
  · rw [if_pos h0]
    refine ⟨fun hz x => ?_, fun hz => ⟨j, by omega, fun x => ?_⟩⟩
    · rw [writeB_yes _ _ _ hz, strL_set18 _ _ _ _ (by omega), h2 x, h3 h0, show p + 1 + m + (q - m) = p + 1 + q by omega]
    · rw [writeB_not _ _ _ hz, h2 x]
  · rw [if_neg h0]
    exact ⟨fun hz => absurd hz h0, fun _ => ⟨j, by omega, h2⟩⟩

theorem filB_bt (s : ByteArray) (j : Nat) (h : j < s.size) : bt (filB s) j = bt s j := by unfold filB; exact bt_append_left _ _ _ h
theorem blkB_bt (s : ByteArray) (i r : Nat) (hr : r < 64) (h : 64 * i + 64 ≤ (filB s).size) : bt (blkB (filB s) i) r = bt (filB s) (64 * i + r) := by unfold blkB; exact bt_extract _ _ _ _ (by omega) h
theorem blkB_size (s : ByteArray) (i : Nat) (h : i < (s.size + 63) / 64) : (blkB (filB s) i).size = 64 := by
  unfold blkB
  rw [ByteArray.size_extract, filB_size]; omega

/-- The bytes of a half that is whole are the half's. -/
theorem half_bt {L : List ByteArray} {wh : Nat} {X : StoT} (hw : wh < 2) (h2 : 2 ≤ L.length) (h64 : All64 L) (h : halfP L wh = some X) :
    X.2.2.2.size = (hf2 L (wh * (L.length / 2))).2 ∧ ∀ j, j < X.2.2.2.size → bt X.2.2.2 j = bt (strL L (wh * (L.length / 2) + 1 + j / 64)) (j % 64) := by
  obtain ⟨_, _, _, hn, hB, _, _, _⟩ := half_some h
  have hpl : wh * (L.length / 2) + (L.length / 2 - 1) < L.length := by
    rcases (show wh = 0 ∨ wh = 1 by omega) with rfl | rfl <;> omega
  have hs := allB_size L (wh * (L.length / 2)) (L.length / 2 - 1) h64 hpl
  have hsz : X.2.2.2.size = (hf2 L (wh * (L.length / 2))).2 := by
    rw [hB]; unfold hfB; rw [ByteArray.size_extract, hs]; omega
  refine ⟨hsz, fun j hj => ?_⟩
  have e : bt X.2.2.2 j = bt (hfB L (wh * (L.length / 2))) j := by rw [hB]
  rw [e]
  unfold hfB
  rw [bt_extract _ _ _ _ (by omega) (by omega), Nat.zero_add]
  exact allB_bt L _ h64 _ j hpl (by omega)

/-- A half with a head of these bytes, that has these bytes, is whole. -/
theorem half_made {L : List ByteArray} {wh turn : Nat} {S x : ByteArray} {l : List ByteArray} (hw : wh < 2) (h2 : 2 ≤ L.length) (h64 : All64 L) (ht1 : 1 ≤ turn) (htp : turn % 2 = wh) (ht : turn ≤ 1099511627775) (hr : (S.size + 63) / 64 + 1 ≤ L.length / 2) (hlen : L.length ≤ 2048)
    (hd : strL L (wh * (L.length / 2)) = hdB (turn : Int) S) (hb : ∀ j, j < S.size → bt (strL L (wh * (L.length / 2) + 1 + j / 64)) (j % 64) = bt S j) (hx : txsP S = some (x :: l)) : halfP L wh = some (x, l, (turn : Int), S) := by
  obtain ⟨R1, R2, n1, n2⟩ := hd_nums turn S ht (by omega)
  have e1 : hf1 L (wh * (L.length / 2)) = ((R1, 0), turn) := by unfold hf1; rw [hd, n1]
  have e2 : hf2 L (wh * (L.length / 2)) = ((R2, 0), S.size) := by unfold hf2; rw [e1, n2]
  have hpl : wh * (L.length / 2) + (L.length / 2 - 1) < L.length := by
    rcases (show wh = 0 ∨ wh = 1 by omega) with rfl | rfl <;> omega
  have hs := allB_size L (wh * (L.length / 2)) (L.length / 2 - 1) h64 hpl
  have e3 : hfB L (wh * (L.length / 2)) = S := by
    unfold hfB
    rw [e2]
    refine bt_ext _ _ (by rw [ByteArray.size_extract, hs]; show min S.size _ - 0 = _; omega) (fun i hi => ?_)
    rw [ByteArray.size_extract, hs] at hi
    have hi' : i < S.size := by have : i < min S.size (64 * (L.length / 2 - 1)) - 0 := hi; omega
    rw [bt_extract _ _ _ _ (by show 0 + i < S.size; omega) (by rw [hs]; show S.size ≤ _; omega), Nat.zero_add, allB_bt L _ h64 _ i hpl (by omega), hb i hi']
  unfold halfP
  simp only [e1, e2, e3, hx, hd]
  rw [if_neg (by simp; omega), if_pos trivial]

/-- A store that is what is opened; the other half's head is an elder one's. -/
structure Fresh (L : List ByteArray) (X : StoT) (wh : Nat) : Prop where
  w : wh < 2
  l2 : 2 ≤ L.length
  l3 : L.length ≤ 2048
  a : All64 L
  h : halfP L wh = some X
  o : ((hf1 L ((1 - wh) * (L.length / 2))).2 : Int) < X.2.2.1
  t : X.2.2.1 ≤ 1099511627775
theorem Fresh.open {L : List ByteArray} {X : StoT} {wh : Nat} (h : Fresh L X wh) : openP L = X := open_of wh h.w h.h (fun Y hY => by have := (half_some hY).1; have := h.o; omega)
theorem Fresh.turn {L : List ByteArray} {X : StoT} {wh : Nat} (h : Fresh L X wh) : ∃ turn : Nat, X.2.2.1 = (turn : Int) ∧ 1 ≤ turn ∧ turn % 2 = wh ∧ turn ≤ 1099511627775 := by
  obtain ⟨e1, e2, e3, _⟩ := half_some h.h
  exact ⟨_, e1, e2, e3, by have := h.t; omega⟩

/-- A list that is another up to blocks k to k' (behind the head of half wh). -/
theorem all64_put {L L' : List ByteArray} {S : ByteArray} {p m j : Nat} (h : All64 L) (hl : L'.length = L.length) (hq : m + j ≤ (S.size + 63) / 64) (hx : ∀ x, strL L' x = if p + 1 + m ≤ x ∧ x < p + 1 + m + j then blkB (filB S) (x - (p + 1)) else strL L x) : All64 L' := by
  intro i hi
  rw [hx i]
  by_cases c : p + 1 + m ≤ i ∧ i < p + 1 + m + j
  · rw [if_pos c]; exact blkB_size S _ (by omega)
  · rw [if_neg c]; exact h i (by omega)
theorem all64_done {L L' : List ByteArray} {S H : ByteArray} {p m : Nat} (h : All64 L) (hl : L'.length = L.length) (hH : H.size = 64) (hx : ∀ x, strL L' x = if x = p then H else if p + 1 + m ≤ x ∧ x < p + 1 + (S.size + 63) / 64 then blkB (filB S) (x - (p + 1)) else strL L x) : All64 L' := by
  intro i hi
  rw [hx i]
  by_cases c0 : i = p
  · rw [if_pos c0]; exact hH
  · rw [if_neg c0]
    by_cases c : p + 1 + m ≤ i ∧ i < p + 1 + (S.size + 63) / 64
    · rw [if_pos c]; exact blkB_size S _ (by omega)
    · rw [if_neg c]; exact h i (by omega)

/-- Add, and the power goes off: as ahead. -/
theorem add_part {L L' : List ByteArray} {X : StoT} {wh j : Nat} {T : ByteArray} (F : Fresh L X wh) (hl : L'.length = L.length) (hr : ((X.2.2.2 ++ T).size + 63) / 64 + 1 ≤ L.length / 2) (hj : X.2.2.2.size / 64 + j ≤ ((X.2.2.2 ++ T).size + 63) / 64)
    (hx : ∀ x, strL L' x = if wh * (L.length / 2) + 1 + X.2.2.2.size / 64 ≤ x ∧ x < wh * (L.length / 2) + 1 + X.2.2.2.size / 64 + j then blkB (filB (X.2.2.2 ++ T)) (x - (wh * (L.length / 2) + 1)) else strL L x) : Fresh L' X wh := by
  obtain ⟨hw, h2, h3, h64, hh, ho, ht⟩ := F
  have h64' : All64 L' := all64_put h64 hl hj hx
  obtain ⟨hn, hbt⟩ := half_bt hw h2 h64 hh
  obtain ⟨p, hp⟩ : ∃ p, wh * (L.length / 2) = p := ⟨_, rfl⟩
  obtain ⟨p', hp'⟩ : ∃ p', (1 - wh) * (L.length / 2) = p' := ⟨_, rfl⟩
  have hpp : (p = 0 ∧ p' = L.length / 2) ∨ (p = L.length / 2 ∧ p' = 0) := by
    rcases (show wh = 0 ∨ wh = 1 by omega) with rfl | rfl
    · left; omega
    · right; omega
  have hs1 : halfP L' wh = halfP L wh := by
    refine half_same L L' wh h2 hw h64 h64' hl (by rw [hx, if_neg (by omega)]) (fun _ i hi => ?_)
    rw [← hn] at hi
    rw [hp] at hx hbt ⊢
    rw [hx]
    by_cases c : p + 1 + X.2.2.2.size / 64 ≤ p + 1 + i / 64 ∧ p + 1 + i / 64 < p + 1 + X.2.2.2.size / 64 + j
    · rw [if_pos c, show p + 1 + i / 64 - (p + 1) = i / 64 by omega, blkB_bt _ _ _ (Nat.mod_lt _ (by decide)) (by rw [filB_size]; omega), show 64 * (i / 64) + i % 64 = i by omega, filB_bt _ _ (by rw [ByteArray.size_append]; omega), bt_append_left _ _ _ hi, hbt i hi]
    · rw [if_neg c]
  have hs0 : strL L' p' = strL L p' := by rw [hx, hp, if_neg (by omega)]
  refine ⟨hw, by omega, by omega, h64', by rw [hs1]; exact hh, ?_, ht⟩
  unfold hf1 at ho ⊢
  rw [hl, hp', hs0]
  rw [hp'] at ho
  exact ho

/-- Add, done. -/
theorem add_all {L L' : List ByteArray} {X : StoT} {wh turn : Nat} {t : ByteArray} (F : Fresh L X wh) (htn : X.2.2.1 = (turn : Int)) (ht : t.size ≤ 32768) (hl : L'.length = L.length) (hr : ((X.2.2.2 ++ txB t).size + 63) / 64 + 1 ≤ L.length / 2)
    (hx : ∀ x, strL L' x = if x = wh * (L.length / 2) then hdB (turn : Int) (X.2.2.2 ++ txB t) else if wh * (L.length / 2) + 1 + X.2.2.2.size / 64 ≤ x ∧ x < wh * (L.length / 2) + 1 + ((X.2.2.2 ++ txB t).size + 63) / 64 then blkB (filB (X.2.2.2 ++ txB t)) (x - (wh * (L.length / 2) + 1)) else strL L x) : Fresh L' (X.1, X.2.1 ++ [t], X.2.2.1, X.2.2.2 ++ txB t) wh := by
  obtain ⟨tn, e1, e2, e3, e4⟩ := F.turn
  obtain rfl : tn = turn := by omega
  obtain ⟨hw, h2, h3, h64, hh, ho, ht9⟩ := F
  have h64' : All64 L' := all64_done h64 hl (hdB_size _ _) hx
  obtain ⟨hn, hbt⟩ := half_bt hw h2 h64 hh
  obtain ⟨_, _, _, _, _, htx, _, _⟩ := half_some hh
  obtain ⟨p, hp⟩ : ∃ p, wh * (L.length / 2) = p := ⟨_, rfl⟩
  obtain ⟨p', hp'⟩ : ∃ p', (1 - wh) * (L.length / 2) = p' := ⟨_, rfl⟩
  have hpp : (p = 0 ∧ p' = L.length / 2) ∨ (p = L.length / 2 ∧ p' = 0) := by
    rcases (show wh = 0 ∨ wh = 1 by omega) with rfl | rfl
    · left; omega
    · right; omega
  rw [hp] at hx hbt
  have hm : halfP L' wh = some (X.1, X.2.1 ++ [t], (tn : Int), X.2.2.2 ++ txB t) := by
    refine half_made hw (by omega) h64' e2 e3 e4 (by rw [hl]; exact hr) (by omega) ?_ (fun i hi => ?_) ?_
    · rw [hl, hp, hx, if_pos rfl]
    · rw [hl, hp, hx, if_neg (by omega)]
      have hsz : (X.2.2.2 ++ txB t).size = X.2.2.2.size + (txB t).size := ByteArray.size_append
      by_cases c : p + 1 + X.2.2.2.size / 64 ≤ p + 1 + i / 64 ∧ p + 1 + i / 64 < p + 1 + ((X.2.2.2 ++ txB t).size + 63) / 64
      · rw [if_pos c, show p + 1 + i / 64 - (p + 1) = i / 64 by omega, blkB_bt _ _ _ (Nat.mod_lt _ (by decide)) (by rw [filB_size]; omega), show 64 * (i / 64) + i % 64 = i by omega, filB_bt _ _ hi]
      · have hi2 : i < X.2.2.2.size := by omega
        rw [if_neg c, ← hbt i hi2, bt_append_left _ _ _ hi2]
    · exact txs_app t ht _ _ _ (Nat.le_refl _) htx
  have hs0 : strL L' p' = strL L p' := by rw [hx, if_neg (by omega), if_neg (by omega)]
  refine ⟨hw, by omega, by omega, h64', by rw [e1]; exact hm, ?_, ht9⟩
  unfold hf1 at ho ⊢
  rw [hl, hp', hs0]
  rw [hp'] at ho
  exact ho

/-- Lay, and the power goes off: as ahead. -/
theorem lay_part {L L' : List ByteArray} {X : StoT} {wh j : Nat} {T : ByteArray} (F : Fresh L X wh) (hl : L'.length = L.length) (hr : (T.size + 63) / 64 + 1 ≤ L.length / 2) (hj : 0 + j ≤ (T.size + 63) / 64)
    (hx : ∀ x, strL L' x = if (1 - wh) * (L.length / 2) + 1 + 0 ≤ x ∧ x < (1 - wh) * (L.length / 2) + 1 + 0 + j then blkB (filB T) (x - ((1 - wh) * (L.length / 2) + 1)) else strL L x) : Fresh L' X wh := by
  obtain ⟨hw, h2, h3, h64, hh, ho, ht⟩ := F
  have h64' : All64 L' := all64_put h64 hl hj hx
  obtain ⟨p, hp⟩ : ∃ p, wh * (L.length / 2) = p := ⟨_, rfl⟩
  obtain ⟨p', hp'⟩ : ∃ p', (1 - wh) * (L.length / 2) = p' := ⟨_, rfl⟩
  have hpp : (p = 0 ∧ p' = L.length / 2) ∨ (p = L.length / 2 ∧ p' = 0) := by
    rcases (show wh = 0 ∨ wh = 1 by omega) with rfl | rfl
    · left; omega
    · right; omega
  rw [hp'] at hx
  have hs1 : halfP L' wh = halfP L wh := by
    refine half_same L L' wh h2 hw h64 h64' hl (by rw [hp, hx, if_neg (by omega)]) (fun hn i hi => ?_)
    rw [hp] at hn hi ⊢
    rw [hx, if_neg (by omega)]
  have hs0 : strL L' p' = strL L p' := by rw [hx, if_neg (by omega)]
  refine ⟨hw, by omega, by omega, h64', by rw [hs1]; exact hh, ?_, ht⟩
  unfold hf1 at ho ⊢
  rw [hl, hp', hs0]
  rw [hp'] at ho
  exact ho

/-- Lay, done, over whatever was there. -/
theorem lay_made {L L' : List ByteArray} {wh turn : Nat} {t : ByteArray} (hw : wh < 2) (h2 : 2 ≤ L.length) (h3 : L.length ≤ 2048) (h64 : All64 L) (ht1 : 1 ≤ turn) (htp : turn % 2 = wh) (ht9 : turn ≤ 1099511627775) (ht : t.size ≤ 32768) (hl : L'.length = L.length) (hr : ((txB t).size + 63) / 64 + 1 ≤ L.length / 2)
    (hx : ∀ x, strL L' x = if x = wh * (L.length / 2) then hdB (turn : Int) (txB t) else if wh * (L.length / 2) + 1 + 0 ≤ x ∧ x < wh * (L.length / 2) + 1 + ((txB t).size + 63) / 64 then blkB (filB (txB t)) (x - (wh * (L.length / 2) + 1)) else strL L x) :
    All64 L' ∧ halfP L' wh = some (t, [], (turn : Int), txB t) ∧ strL L' ((1 - wh) * (L.length / 2)) = strL L ((1 - wh) * (L.length / 2)) := by
  have h64' : All64 L' := all64_done h64 hl (hdB_size _ _) hx
  obtain ⟨p, hp⟩ : ∃ p, wh * (L.length / 2) = p := ⟨_, rfl⟩
  obtain ⟨p', hp'⟩ : ∃ p', (1 - wh) * (L.length / 2) = p' := ⟨_, rfl⟩
  have hpp : (p = 0 ∧ p' = L.length / 2) ∨ (p = L.length / 2 ∧ p' = 0) := by
    rcases (show wh = 0 ∨ wh = 1 by omega) with rfl | rfl
    · left; omega
    · right; omega
  rw [hp] at hx
  refine ⟨h64', ?_, by rw [hp', hx, if_neg (by omega), if_neg (by omega)]⟩
  refine half_made hw (by omega) h64' ht1 htp ht9 (by rw [hl]; exact hr) (by omega) ?_ (fun i hi => ?_) ?_
  · rw [hl, hp, hx, if_pos rfl]
  · rw [hl, hp, hx, if_neg (by omega), if_pos (by omega), show p + 1 + i / 64 - (p + 1) = i / 64 by omega, blkB_bt _ _ _ (Nat.mod_lt _ (by decide)) (by rw [filB_size]; omega), show 64 * (i / 64) + i % 64 = i by omega, filB_bt _ _ hi]
  · have e : txB t = txB t ++ ⟨#[]⟩ := ByteArray.append_empty.symm
    rw [e, txs_one t _ ht, txsP_none _ rfl]
    rfl

end Go.Proofs.YtaakmcihpdbilaaDoor
