/- Layer 18, plain: as ahead of the call, or as behind it; the first lay; a head with another bit. -/
import Derived.Test.YtaakmcihpdbilaaDoorStB
namespace Go.Proofs.YtaakmcihpdbilaaDoor
open Go.RowKit
set_option maxRecDepth 100000
set_option linter.unusedSimpArgs false
set_option maxRecDepth 100000

/-- Add: done, or as ahead. -/
theorem before_add (D : DevT) (X : StoT) (t : ByteArray) (wh : Nat) (F : Fresh D.1 X wh) :
    ((addP D X t).2.2 = 0 → (addP D X t).2.1 = (X.1, X.2.1 ++ [t], X.2.2.1, X.2.2.2 ++ txB t) ∧ Fresh (addP D X t).1.1 (addP D X t).2.1 wh) ∧ (¬ (addP D X t).2.2 = 0 → (addP D X t).2.1 = X ∧ Fresh (addP D X t).1.1 X wh) := by
  obtain ⟨turn, e1, e2, e3, e4⟩ := F.turn
  unfold addP
  split
  · exact ⟨fun h => (by cases h), fun _ => ⟨rfl, F⟩⟩
  · next hc =>
    have ht : t.size ≤ 32768 := by omega
    have hsz : (X.2.2.2 ++ txB t).size = X.2.2.2.size + (t.size + 2) := by rw [ByteArray.size_append, txB_size]
    have hr : ((X.2.2.2 ++ txB t).size + 63) / 64 + 1 ≤ D.1.length / 2 := by rw [hsz]; omega
    have en : X.2.2.1.toNat = turn := by omega
    rw [en]
    obtain ⟨w1, w2⟩ := writesP_list D turn (X.2.2.2.size / 64) (X.2.2.2 ++ txB t) (by rw [hsz]; omega) hr
    have hl := writesP_len D turn (X.2.2.2.size / 64) (X.2.2.2 ++ txB t)
    rw [e3] at w1 w2
    simp only
    split
    · next h0 => exact ⟨fun _ => ⟨rfl, add_all F e1 ht hl hr (w1 h0)⟩, fun h => absurd rfl h⟩
    · next h0 =>
      refine ⟨fun h => absurd h h0, fun _ => ⟨rfl, ?_⟩⟩
      obtain ⟨j, hj, hx⟩ := w2 h0
      exact add_part F hl hr hj hx

/-- Lay: done, or as ahead. -/
theorem before_lay (D : DevT) (X : StoT) (t : ByteArray) (wh : Nat) (F : Fresh D.1 X wh) :
    ((layS D X t).2.2 = 0 → (layS D X t).2.1 = (t, [], X.2.2.1 + 1, txB t) ∧ Fresh (layS D X t).1.1 (layS D X t).2.1 (1 - wh)) ∧ (¬ (layS D X t).2.2 = 0 → (layS D X t).2.1 = X ∧ Fresh (layS D X t).1.1 X wh) := by
  obtain ⟨turn, e1, e2, e3, e4⟩ := F.turn
  unfold layS
  split
  · exact ⟨fun h => (by cases h), fun _ => ⟨rfl, F⟩⟩
  · next hc =>
    have ht : t.size ≤ 32768 := by omega
    have hsz : (txB t).size = t.size + 2 := txB_size t
    have hr : ((txB t).size + 63) / 64 + 1 ≤ D.1.length / 2 := by rw [hsz]; omega
    have en : (X.2.2.1 + 1).toNat = turn + 1 := by omega
    rw [en]
    obtain ⟨w1, w2⟩ := writesP_list D (turn + 1) 0 (txB t) (Nat.zero_le _) hr
    have hl := writesP_len D (turn + 1) 0 (txB t)
    have hw := F.w
    have hpar : (turn + 1) % 2 = 1 - wh := by omega
    rw [hpar] at w1 w2
    simp only
    split
    · next h0 =>
      refine ⟨fun _ => ⟨rfl, ?_⟩, fun h => absurd rfl h⟩
      obtain ⟨g1, g2, g3⟩ := lay_made (by omega) F.l2 F.l3 F.a (by omega) hpar (by omega) ht hl hr (w1 h0)
      have ee : X.2.2.1 + 1 = ((turn + 1 : Nat) : Int) := by omega
      have e11 : 1 - (1 - wh) = wh := by omega
      rw [e11] at g3
      refine ⟨by omega, by rw [hl]; exact F.l2, by rw [hl]; exact F.l3, g1, by rw [ee]; exact g2, ?_, by show X.2.2.1 + 1 ≤ _; omega⟩
      show ((hf1 (writesP D (turn + 1) 0 (txB t)).1.1 ((1 - (1 - wh)) * ((writesP D (turn + 1) 0 (txB t)).1.1.length / 2))).2 : Int) < X.2.2.1 + 1
      have e5 : hf1 (writesP D (turn + 1) 0 (txB t)).1.1 (wh * (D.1.length / 2)) = hf1 D.1 (wh * (D.1.length / 2)) := by unfold hf1; rw [g3]
      rw [e11, hl, e5, ← (half_some F.h).1]
      omega
    · next h0 =>
      refine ⟨fun h => absurd h h0, fun _ => ⟨rfl, ?_⟩⟩
      obtain ⟨j, hj, hx⟩ := w2 h0
      exact lay_part F hl hr hj hx

/-! ### A device of noughts. -/
theorem accB_noughts (n : Nat) : ∀ k, accB (zeroB n) k = 0
  | 0 => rfl
  | k + 1 => by show accB (zeroB n) k * 256 + bt (zeroB n) k = 0; rw [accB_noughts n k, bt_zeroB]
theorem hf1_noughts (L : List ByteArray) (p : Nat) (h : strL L p = zeroB 64) : (hf1 L p).2 = 0 := by
  have e : numberP (zeroB 64, 0) 6 = (((zeroB 64).extract 6 (zeroB 64).size, 0), 0) := by
    unfold numberP
    rw [if_neg (by
      rintro (e | e)
      · exact e rfl
      · have e' : (zeroB 64).size < 6 := e
        rw [zeroB_size] at e'; omega)]
    show (((zeroB 64).extract 6 (zeroB 64).size, (0 : Int)), accB (zeroB 64) 6) = _
    rw [accB_noughts]
  unfold hf1 inNumP
  rw [h, e]
  rfl
theorem half_noughts (L : List ByteArray) (wh : Nat) (h : strL L (wh * (L.length / 2)) = zeroB 64) : halfP L wh = none := by
  have h1 := hf1_noughts L _ h
  unfold halfP
  simp only
  rw [if_pos (by omega)]
theorem open_noughts (L : List ByteArray) (h2 : 2 ≤ L.length) (h : ∀ i, i < L.length → strL L i = zeroB 64) : openP L = zeroT := by
  have a := half_noughts L 0 (h _ (by omega))
  have b := half_noughts L 1 (h _ (by omega))
  unfold openP
  rw [a, b]
  rfl
/-- The first lay. -/
theorem lay_first (D : DevT) (t : ByteArray) (h2 : 2 ≤ D.1.length) (h3 : D.1.length ≤ 2048) (h : ∀ i, i < D.1.length → strL D.1 i = zeroB 64) (h0 : (layS D zeroT t).2.2 = 0) :
    (layS D zeroT t).2.1 = (t, [], 1, txB t) ∧ Fresh (layS D zeroT t).1.1 (layS D zeroT t).2.1 1 := by
  have h64 : All64 D.1 := fun i hi => by rw [h i hi]; exact zeroB_size 64
  unfold layS at h0 ⊢
  split at h0
  · cases h0
  · next hc =>
    rw [if_neg hc]
    have hsz : (txB t).size = t.size + 2 := txB_size t
    have hr : ((txB t).size + 63) / 64 + 1 ≤ D.1.length / 2 := by rw [hsz]; omega
    have en : ((zeroT).2.2.1 + 1).toNat = 1 := rfl
    rw [en] at h0 ⊢
    obtain ⟨w1, _⟩ := writesP_list D 1 0 (txB t) (Nat.zero_le _) hr
    have hl := writesP_len D 1 0 (txB t)
    simp only at h0 ⊢
    split at h0
    · next hz =>
      rw [if_pos hz]
      refine ⟨rfl, ?_⟩
      obtain ⟨g1, g2, g3⟩ := lay_made (wh := 1) (turn := 1) (by decide) h2 h3 h64 (by decide) rfl (by decide) (by omega) hl hr (w1 hz)
      refine ⟨by decide, by rw [hl]; exact h2, by rw [hl]; exact h3, g1, g2, ?_, by show (0 : Int) + 1 ≤ _; decide⟩
      show ((hf1 (writesP D 1 0 (txB t)).1.1 ((1 - 1) * ((writesP D 1 0 (txB t)).1.1.length / 2))).2 : Int) < (0 : Int) + 1
      rw [hl, hf1_noughts _ _ (by rw [g3]; exact h _ (by omega))]
      decide
    · next hz => exact absurd h0 hz

/-! ### A head with another byte. -/
theorem hd_parts (turn : Nat) (S : ByteArray) : (∀ j, j < 6 → bt (hdB (turn : Int) S) j = bt (bigB (turn : Int) 6) j) ∧ ∀ j, j < 6 → bt (hdB (turn : Int) S) (6 + j) = bt (bigB (S.size : Int) 6) j := by
  obtain ⟨Z, hZ⟩ : ∃ Z, hdB (turn : Int) S = bigB (turn : Int) 6 ++ (bigB (S.size : Int) 6 ++ Z) := by
    unfold hdB filB
    rw [ByteArray.append_assoc, ByteArray.append_assoc, ByteArray.append_assoc]
    exact ⟨_, rfl⟩
  have hs := bigB_size (turn : Int) 6
  refine ⟨fun j hj => ?_, fun j hj => ?_⟩
  · rw [hZ, bt_append_left _ _ _ (by rw [hs]; exact hj)]
  · have e : 6 + j = (bigB (turn : Int) 6).size + j := by rw [hs]
    rw [hZ, e, bt_append_right, bt_append_left _ _ _ (by rw [bigB_size]; exact hj)]
/-- In a device whose half wh has the bytes T, and as its head that of turn and T but for a byte of the turn, or of the sum, the turn is none. -/
theorem spoilt18 {L : List ByteArray} {wh turn j : Nat} {T H' : ByteArray} (hw : wh < 2) (h2 : 2 ≤ L.length) (h64 : All64 L) (ht1 : 1 ≤ turn) (htp : turn % 2 = wh) (hT : T.size ≤ 1099511627775) (hd : strL L (wh * (L.length / 2)) = H') (hb : ∀ i, i < T.size → bt (strL L (wh * (L.length / 2) + 1 + i / 64)) (i % 64) = bt T i)
    (hj : j < 6 ∨ (12 ≤ j ∧ j < 20)) (hne : bt H' j ≠ bt (hdB (turn : Int) T) j) (hsame : ∀ i, i < 64 → i ≠ j → bt H' i = bt (hdB (turn : Int) T) i) : (openP L).2.2.1 ≠ (turn : Int) := by
  intro e
  obtain ⟨wh0, hw0, hh, _⟩ := open_some (L := L) rfl (by rw [e]; omega)
  obtain ⟨a1, a2, a3, a4, a5, _, a7, _⟩ := half_some hh
  obtain ⟨b1, b2⟩ := half_bt hw0 h2 h64 hh
  rw [e] at a1 a7
  obtain rfl : wh0 = wh := by omega
  rw [hd] at a7
  obtain ⟨c1, c2⟩ := hd_parts turn T
  obtain ⟨d1, d2⟩ := hd_parts turn (openP L).2.2.2
  rcases hj with hj | hj
  · exact hne (by rw [← a7, d1 j hj, c1 j hj])
  · have hsz : (openP L).2.2.2.size = T.size := by
      have hpl : wh0 * (L.length / 2) + (L.length / 2 - 1) < L.length := by
        rcases (show wh0 = 0 ∨ wh0 = 1 by omega) with rfl | rfl <;> omega
      have hsm : (openP L).2.2.2.size ≤ 1099511627775 := by rw [b1]; exact inNumP_small _
      have q1 := accB_big (openP L).2.2.2.size 6 (Nat.lt_of_le_of_lt hsm (by decide))
      have q2 := accB_big T.size 6 (Nat.lt_of_le_of_lt hT (by decide))
      rw [← q1, ← q2]
      exact accB_congr _ _ 6 (fun i hi => by rw [← d2 i hi, ← c2 i hi, a7]; exact hsame (6 + i) (by omega) (by omega))
    have hTT : (openP L).2.2.2 = T := bt_ext _ _ hsz (fun i hi => by rw [b2 i hi]; exact hb i (by omega))
    rw [hTT] at a7
    exact hne (by rw [← a7])

/-! ### Measures. -/
theorem txs_len : ∀ n (A : ByteArray) (l : List ByteArray), A.size ≤ n → txsP A = some l → 2 * l.length ≤ A.size
  | n, A, l, hn, h => by
    by_cases h0 : A.size = 0
    · rw [txsP_none A h0] at h; cases h; exact Nat.zero_le _
    · by_cases he : (inTextP (A, 0) 32768).1.2 = 0
      · have hless := inTextP_less A 32768 he
        obtain ⟨⟨⟨S1, e1⟩, T0⟩, hq⟩ : ∃ z, inTextP (A, 0) 32768 = z := ⟨_, rfl⟩
        rw [hq] at he hless
        simp only at he hless
        subst he
        rw [txsP_next A S1 T0 h0 hq] at h
        cases hS : txsP S1 with
        | none => rw [hS] at h; cases h
        | some l1 =>
          rw [hS] at h
          cases h
          match n, hn with
          | 0, hn => omega
          | n + 1, hn =>
            have ih := txs_len n S1 l1 (by omega) hS
            show 2 * (T0 :: l1).length ≤ _
            rw [List.length_cons]; omega
      · rw [txsP_bad A h0 he] at h; cases h
/-- A store's measures, on a device of n blocks. -/
structure StM (n : Nat) (X : StoT) : Prop where
  t0 : 0 ≤ X.2.2.1
  t1 : X.2.2.1 ≤ 1099511627775
  b : X.2.2.2.size ≤ 64 * (n / 2 - 1)
  l : 2 * X.2.1.length ≤ X.2.2.2.size
theorem StM.ok {n : Nat} {X : StoT} (h : StM n X) (hn : n ≤ 2048) : StO X := ⟨h.t0, h.t1, by have := h.b; omega, by have := h.b; have := h.l; omega⟩
theorem stM_half {L : List ByteArray} {wh : Nat} {X : StoT} (hw : wh < 2) (h2 : 2 ≤ L.length) (h64 : All64 L) (h : halfP L wh = some X) : StM L.length X := by
  obtain ⟨a1, a2, a3, a4, a5, a6, a7, _⟩ := half_some h
  obtain ⟨b1, _⟩ := half_bt hw h2 h64 h
  have hl := txs_len _ _ _ (Nat.le_refl _) a6
  rw [List.length_cons] at hl
  exact ⟨by rw [a1]; omega, by rw [a1]; have : (hf1 L (wh * (L.length / 2))).2 ≤ 1099511627775 := inNumP_small _; omega, by rw [b1]; exact a4, by omega⟩
theorem stM_open (L : List ByteArray) (h2 : 2 ≤ L.length) (h64 : All64 L) : StM L.length (openP L) := by
  have hz : StM L.length zeroT := ⟨Int.le_refl _, by decide, Nat.zero_le _, Nat.le_refl _⟩
  have hh : ∀ wh, wh < 2 → StM L.length ((halfP L wh).getD zeroT) := fun wh hw => by
    cases h : halfP L wh with
    | none => exact hz
    | some X => exact stM_half hw h2 h64 h
  unfold openP
  split
  · exact hh 1 (by decide)
  · exact hh 0 (by decide)
theorem stM_add (D : DevT) (X : StoT) (t : ByteArray) (h : StM D.1.length X) : StM D.1.length (addP D X t).2.1 := by
  unfold addP
  split
  · exact h
  · next hc =>
    simp only
    split
    · have hsz : (X.2.2.2 ++ txB t).size = X.2.2.2.size + (t.size + 2) := by rw [ByteArray.size_append, txB_size]
      exact ⟨h.t0, h.t1, by show (X.2.2.2 ++ txB t).size ≤ _; rw [hsz]; omega, by show 2 * (X.2.1 ++ [t]).length ≤ (X.2.2.2 ++ txB t).size; rw [hsz, List.length_append, List.length_singleton]; have := h.l; omega⟩
    · exact h
theorem stM_lay (D : DevT) (X : StoT) (t : ByteArray) (h : StM D.1.length X) : StM D.1.length (layS D X t).2.1 := by
  unfold layS
  split
  · exact h
  · next hc =>
    simp only
    split
    · have h0 := h.t0
      exact ⟨by show 0 ≤ X.2.2.1 + 1; omega, by show X.2.2.1 + 1 ≤ _; omega, by show (txB t).size ≤ _; rw [txB_size]; omega, Nat.zero_le _⟩
    · exact h

end Go.Proofs.YtaakmcihpdbilaaDoor
