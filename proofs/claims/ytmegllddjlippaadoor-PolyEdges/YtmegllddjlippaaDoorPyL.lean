/- Numbers as five limbs of 32 bits, the last one open above: plain facts, nothing of the program. -/
import Derived.Test.YtmegllddjlippaaDoorR6
namespace Go.Proofs.YtmegllddjlippaaDoor
open Go.RowKit
set_option linter.unusedSimpArgs false

/-- The number of five limbs; the limbs of a number. -/
def val5 (l : List Nat) : Nat := l.getD 0 0 + l.getD 1 0 * 4294967296 + l.getD 2 0 * 18446744073709551616 + l.getD 3 0 * 79228162514264337593543950336 + l.getD 4 0 * 340282366920938463463374607431768211456
def limF (v i : Nat) : Nat := if i < 4 then v / 4294967296 ^ i % 4294967296 else v / 340282366920938463463374607431768211456
def limN (v : Nat) : List Nat := tabN 5 (limF v)
theorem limN_length (v : Nat) : (limN v).length = 5 := tabN_length _ _
theorem limN_getD (v i : Nat) (h : i < 5) : (limN v).getD i 0 = limF v i := tabN_getD _ _ _ h
theorem limN_eq (v : Nat) : limN v = [v % 4294967296, v / 4294967296 % 4294967296, v / 18446744073709551616 % 4294967296, v / 79228162514264337593543950336 % 4294967296, v / 340282366920938463463374607431768211456] := by
  simp [limN, limF, tabN, List.range, List.range.loop]
theorem val5_limN (v : Nat) : val5 (limN v) = v := by
  rw [limN_eq]
  unfold val5
  simp only [List.getD_cons_zero, List.getD_cons_succ]
  omega
theorem five (l : List Nat) (h : l.length = 5) : ∃ a b c d e, l = [a, b, c, d, e] := by
  match l, h with
  | [a, b, c, d, e], _ => exact ⟨a, b, c, d, e, rfl⟩
theorem limN_of (l : List Nat) (hl : l.length = 5) (h0 : l.getD 0 0 < 4294967296) (h1 : l.getD 1 0 < 4294967296) (h2 : l.getD 2 0 < 4294967296) (h3 : l.getD 3 0 < 4294967296) : l = limN (val5 l) := by
  obtain ⟨a, b, c, d, e, rfl⟩ := five l hl
  rw [limN_eq]
  unfold val5
  simp only [List.getD_cons_zero, List.getD_cons_succ] at *
  simp only [List.cons.injEq, and_true]
  refine ⟨?_, ?_, ?_, ?_, ?_⟩ <;> omega

/-! ### Carrying. -/
def carS (l : List Nat) (k : Nat) : List Nat := (l.set (k + 1) (l.getD (k + 1) 0 + l.getD k 0 / 4294967296)).set k (l.getD k 0 % 4294967296)
def carL (l : List Nat) : Nat → List Nat
  | 0 => l
  | k + 1 => carS (carL l k) k
theorem carL_succ (l : List Nat) (k : Nat) : carL l (k + 1) = carS (carL l k) k := rfl
theorem carL_length (l : List Nat) (k : Nat) : (carL l k).length = l.length := by
  induction k with
  | zero => rfl
  | succ k ih => rw [carL_succ]; unfold carS; rw [List.length_set, List.length_set, ih]
theorem getD_set_ne (l : List Nat) (i j x : Nat) (h : i ≠ j) : (l.set i x).getD j 0 = l.getD j 0 := by
  rw [List.getD_eq_getElem?_getD, List.getD_eq_getElem?_getD, List.getElem?_set_ne h]
theorem getD_set_eq (l : List Nat) (i x : Nat) (h : i < l.length) : (l.set i x).getD i 0 = x := by
  rw [List.getD_eq_getElem?_getD, List.getElem?_set_self h]; rfl
theorem carL_up (l : List Nat) (k j : Nat) (h : k < j) : (carL l k).getD j 0 = l.getD j 0 := by
  induction k with
  | zero => rfl
  | succ k ih =>
    rw [carL_succ]; unfold carS
    rw [getD_set_ne _ _ _ _ (by omega), getD_set_ne _ _ _ _ (by omega), ih (by omega)]
theorem carL_at (l : List Nat) (hl : l.length = 5) (hb : ∀ i, l.getD i 0 < 9223372036854775808) (k : Nat) (hk : k < 5) : (carL l k).getD k 0 < 9223372041149743104 := by
  induction k with
  | zero => have := hb 0; show l.getD 0 0 < _; omega
  | succ k ih =>
    rw [carL_succ]; unfold carS
    rw [getD_set_ne _ _ _ _ (by omega), getD_set_eq _ _ _ (by rw [carL_length, hl]; exact hk), carL_up _ _ _ (by omega)]
    have h1 := ih (by omega)
    have h2 := hb (k + 1)
    omega
theorem carL_all (l : List Nat) (hl : l.length = 5) : carL l 4 = limN (val5 l) := by
  obtain ⟨a, b, c, d, e, rfl⟩ := five l hl
  rw [limN_eq]
  unfold val5
  simp only [carL, carS, List.getD_cons_zero, List.getD_cons_succ, List.set_cons_zero, List.set_cons_succ, Nat.zero_add, Nat.reduceAdd]
  simp only [List.cons.injEq, and_true]
  refine ⟨?_, ?_, ?_, ?_, ?_⟩ <;> omega

/-! ### A sum. -/
def addF (l m : List Nat) (k i : Nat) : Nat := if i < k then l.getD i 0 + m.getD i 0 else l.getD i 0
theorem addF_zero (l m : List Nat) (hl : l.length = 5) : tabN 5 (addF l m 0) = l := by
  rw [← tabN_of l 5 hl]
  exact tabN_congr _ _ _ (fun i hi => by unfold addF; rw [if_neg (by omega), tabN_getD _ _ _ hi])
theorem addF_set (l m : List Nat) (k : Nat) : (tabN 5 (addF l m k)).set k (l.getD k 0 + m.getD k 0) = tabN 5 (addF l m (k + 1)) := by
  refine tabN_set _ _ _ _ _ (by unfold addF; rw [if_pos (by omega)]) (fun i _ hne => ?_)
  unfold addF
  by_cases h : i < k
  · rw [if_pos h, if_pos (by omega)]
  · rw [if_neg h, if_neg (by omega)]
theorem addF_here (l m : List Nat) (k : Nat) : addF l m k k = l.getD k 0 := by unfold addF; rw [if_neg (by omega)]
theorem addF_val (l m : List Nat) : val5 (tabN 5 (addF l m 5)) = val5 l + val5 m := by
  unfold val5
  rw [tabN_getD _ _ _ (by decide), tabN_getD _ _ _ (by decide), tabN_getD _ _ _ (by decide), tabN_getD _ _ _ (by decide), tabN_getD _ _ _ (by decide)]
  unfold addF
  rw [if_pos (by decide), if_pos (by decide), if_pos (by decide), if_pos (by decide), if_pos (by decide)]
  omega

/-! ### A product. -/
def posT (i j : Nat) : Nat := if i + j < 4 ∨ j = 0 then i + j else i + j - 4
def jOf (i m : Nat) : Nat := if i < 4 then (if m < 4 then (m + 4 - i) % 4 else 4) else (if m = 4 then 0 else if m = 0 then 4 else m)
def termT (a r : Nat → Nat) (i j : Nat) : Nat := if i + j < 4 ∨ j = 0 then a i * r j else a i * (r j / 4 * 5)
def rowP (a r : Nat → Nat) : Nat → Nat → Nat
  | 0, _ => 0
  | i + 1, m => rowP a r i m + (if jOf i m < 4 then termT a r i (jOf i m) else 0)
def midP (a r : Nat → Nat) (i j m : Nat) : Nat := rowP a r i m + (if jOf i m < j then termT a r i (jOf i m) else 0)
theorem posT_lt : ∀ i : Fin 5, ∀ j : Fin 4, posT i j < 5 := by decide
theorem jOf_pos : ∀ i : Fin 5, ∀ j : Fin 4, jOf i (posT i j) = j := by decide
theorem pos_jOf : ∀ i : Fin 5, ∀ j : Fin 4, ∀ m : Fin 5, jOf i m = j → m = posT i j := by decide
theorem midP_zero (a r : Nat → Nat) (i : Nat) : midP a r i 0 = rowP a r i := by
  funext m; unfold midP; rw [if_neg (by omega)]; rfl
theorem midP_all (a r : Nat → Nat) (i : Nat) : midP a r i 4 = rowP a r (i + 1) := rfl
theorem midP_here (a r : Nat → Nat) (i j : Nat) (hi : i < 5) (hj : j < 4) : midP a r i (j + 1) (posT i j) = midP a r i j (posT i j) + termT a r i j := by
  unfold midP
  rw [show jOf i (posT i j) = j from jOf_pos ⟨i, hi⟩ ⟨j, hj⟩, if_pos (by omega), if_neg (by omega)]; omega
theorem midP_other (a r : Nat → Nat) (i j m : Nat) (hi : i < 5) (hj : j < 4) (hm : m < 5) (h : m ≠ posT i j) : midP a r i j m = midP a r i (j + 1) m := by
  have hne : jOf i m ≠ j := fun e => h (pos_jOf ⟨i, hi⟩ ⟨j, hj⟩ ⟨m, hm⟩ e)
  unfold midP
  by_cases h1 : jOf i m < j
  · rw [if_pos h1, if_pos (by omega)]
  · rw [if_neg h1, if_neg (by omega)]
theorem midP_set (a r : Nat → Nat) (i j : Nat) (hi : i < 5) (hj : j < 4) : (tabN 5 (midP a r i j)).set (posT i j) (midP a r i (j + 1) (posT i j)) = tabN 5 (midP a r i (j + 1)) :=
  tabN_set _ _ _ _ _ rfl (fun m hm hne => midP_other a r i j m hi hj hm hne)
theorem termT_le (a r : Nat → Nat) (ha : ∀ i, a i ≤ 4294967295) (hr : ∀ i, r i ≤ 268435455) (i j : Nat) : termT a r i j ≤ 1441151880758558720 := by
  have h1 := ha i
  have h2 := hr j
  unfold termT
  split
  · have : a i * r j ≤ 4294967295 * 268435455 := Nat.mul_le_mul h1 h2
    omega
  · have : a i * (r j / 4 * 5) ≤ 4294967295 * 335544315 := Nat.mul_le_mul h1 (by omega)
    omega
theorem rowP_leT (a r : Nat → Nat) (T : Nat) (hT : ∀ i j, termT a r i j ≤ T) (i m : Nat) : rowP a r i m ≤ i * T := by
  induction i with
  | zero => exact Nat.zero_le _
  | succ i ih =>
    show rowP a r i m + (if jOf i m < 4 then termT a r i (jOf i m) else 0) ≤ _
    have h := hT i (jOf i m)
    rw [Nat.succ_mul]
    by_cases hj : jOf i m < 4
    · rw [if_pos hj]; omega
    · rw [if_neg hj]; omega
theorem midP_leT (a r : Nat → Nat) (T : Nat) (hT : ∀ i j, termT a r i j ≤ T) (i j m : Nat) (hi : i < 5) : midP a r i j m ≤ 5 * T := by
  unfold midP
  have h2 := rowP_leT a r T hT i m
  have h := hT i (jOf i m)
  have h3 : i * T ≤ 4 * T := Nat.mul_le_mul_right _ (by omega)
  by_cases hj : jOf i m < j
  · rw [if_pos hj]; omega
  · rw [if_neg hj]; omega
theorem rowP_le (a r : Nat → Nat) (ha : ∀ i, a i ≤ 4294967295) (hr : ∀ i, r i ≤ 268435455) (m : Nat) : rowP a r 5 m ≤ 7205759403792793600 := rowP_leT a r _ (termT_le a r ha hr) 5 m
theorem midP_le (a r : Nat → Nat) (ha : ∀ i, a i ≤ 4294967295) (hr : ∀ i, r i ≤ 268435455) (i j m : Nat) (hi : i < 5) : midP a r i j m ≤ 7205759403792793600 := midP_leT a r _ (termT_le a r ha hr) i j m hi
theorem prod_poly (a0 a1 a2 a3 a4 r0 q1 q2 q3 X : Nat) :
    (a0 + a1 * X + a2 * X ^ 2 + a3 * X ^ 3 + a4 * X ^ 4) * (r0 + 4 * q1 * X + 4 * q2 * X ^ 2 + 4 * q3 * X ^ 3) + 5 * (a1 * q3 + a2 * q2 + a3 * q1 + (a2 * q3 + a3 * q2 + a4 * q1) * X + (a3 * q3 + a4 * q2) * X ^ 2 + a4 * q3 * X ^ 3)
    = (a0 * r0 + a1 * (q3 * 5) + a2 * (q2 * 5) + a3 * (q1 * 5)) + (a0 * (4 * q1) + a1 * r0 + a2 * (q3 * 5) + a3 * (q2 * 5) + a4 * (q1 * 5)) * X + (a0 * (4 * q2) + a1 * (4 * q1) + a2 * r0 + a3 * (q3 * 5) + a4 * (q2 * 5)) * X ^ 2 + (a0 * (4 * q3) + a1 * (4 * q2) + a2 * (4 * q1) + a3 * r0 + a4 * (q3 * 5)) * X ^ 3 + a4 * r0 * X ^ 4
      + 4 * X ^ 4 * (a1 * q3 + a2 * q2 + a3 * q1 + (a2 * q3 + a3 * q2 + a4 * q1) * X + (a3 * q3 + a4 * q2) * X ^ 2 + a4 * q3 * X ^ 3) := by
  grind

/-! ### A clamped number. -/
/-- The limbs of a clamped number: small, and all but the first multiples of four. -/
def Clamped (r : Nat) : Prop := (∀ i, limF r i ≤ 268435455) ∧ limF r 4 = 0 ∧ limF r 1 % 4 = 0 ∧ limF r 2 % 4 = 0 ∧ limF r 3 % 4 = 0
/-- The product, not carried. -/
def prodL (a r : Nat) : List Nat := tabN 5 (rowP (limF a) (limF r) 5)
theorem limF_0 (v : Nat) : limF v 0 = v % 4294967296 := by unfold limF; rw [if_pos (by decide)]; simp
theorem limF_1 (v : Nat) : limF v 1 = v / 4294967296 % 4294967296 := by unfold limF; rw [if_pos (by decide), Nat.pow_one]
theorem limF_2 (v : Nat) : limF v 2 = v / 18446744073709551616 % 4294967296 := by unfold limF; rw [if_pos (by decide)]
theorem limF_3 (v : Nat) : limF v 3 = v / 79228162514264337593543950336 % 4294967296 := by unfold limF; rw [if_pos (by decide)]
theorem limF_4 (v : Nat) : limF v 4 = v / 340282366920938463463374607431768211456 := by unfold limF; rw [if_neg (by decide)]
theorem limF_sum (v : Nat) : v = limF v 0 + limF v 1 * 4294967296 + limF v 2 * 4294967296 ^ 2 + limF v 3 * 4294967296 ^ 3 + limF v 4 * 4294967296 ^ 4 := by
  rw [limF_0, limF_1, limF_2, limF_3, limF_4]; omega
theorem prod_val (a r : Nat) : val5 (prodL a r) = rowP (limF a) (limF r) 5 0 + rowP (limF a) (limF r) 5 1 * 4294967296 + rowP (limF a) (limF r) 5 2 * 4294967296 ^ 2 + rowP (limF a) (limF r) 5 3 * 4294967296 ^ 3 + rowP (limF a) (limF r) 5 4 * 4294967296 ^ 4 := by
  unfold val5 prodL
  rw [tabN_getD _ _ _ (by decide), tabN_getD _ _ _ (by decide), tabN_getD _ _ _ (by decide), tabN_getD _ _ _ (by decide), tabN_getD _ _ _ (by decide)]
theorem row0 (a r : Nat → Nat) : rowP a r 5 0 = a 0 * r 0 + a 1 * (r 3 / 4 * 5) + a 2 * (r 2 / 4 * 5) + a 3 * (r 1 / 4 * 5) := by
  simp [rowP, jOf, termT]
theorem row1 (a r : Nat → Nat) : rowP a r 5 1 = a 0 * r 1 + a 1 * r 0 + a 2 * (r 3 / 4 * 5) + a 3 * (r 2 / 4 * 5) + a 4 * (r 1 / 4 * 5) := by
  simp [rowP, jOf, termT]
theorem row2 (a r : Nat → Nat) : rowP a r 5 2 = a 0 * r 2 + a 1 * r 1 + a 2 * r 0 + a 3 * (r 3 / 4 * 5) + a 4 * (r 2 / 4 * 5) := by
  simp [rowP, jOf, termT]
theorem row3 (a r : Nat → Nat) : rowP a r 5 3 = a 0 * r 3 + a 1 * r 2 + a 2 * r 1 + a 3 * r 0 + a 4 * (r 3 / 4 * 5) := by
  simp [rowP, jOf, termT]
theorem row4 (a r : Nat → Nat) : rowP a r 5 4 = a 4 * r 0 := by
  simp [rowP, jOf, termT]
/-- The product and what is left aside, 2^130 - 5 so often. -/
theorem prod_mod (a r : Nat) (h : Clamped r) : val5 (prodL a r) % pN = a * r % pN := by
  obtain ⟨_, h4, h1, h2, h3⟩ := h
  have ea := limF_sum a
  have er := limF_sum r
  rw [prod_val, row0, row1, row2, row3, row4]
  rw [h4, Nat.zero_mul, Nat.add_zero] at er
  obtain ⟨q1, e1⟩ : ∃ q, limF r 1 = 4 * q := ⟨limF r 1 / 4, by omega⟩
  obtain ⟨q2, e2⟩ : ∃ q, limF r 2 = 4 * q := ⟨limF r 2 / 4, by omega⟩
  obtain ⟨q3, e3⟩ : ∃ q, limF r 3 = 4 * q := ⟨limF r 3 / 4, by omega⟩
  rw [e1, e2, e3] at er
  rw [e1, e2, e3, Nat.mul_div_cancel_left _ (by decide), Nat.mul_div_cancel_left _ (by decide), Nat.mul_div_cancel_left _ (by decide)]
  have hp := prod_poly (limF a 0) (limF a 1) (limF a 2) (limF a 3) (limF a 4) (limF r 0) q1 q2 q3 4294967296
  rw [← ea, ← er] at hp
  generalize limF a 1 * q3 + limF a 2 * q2 + limF a 3 * q1 + (limF a 2 * q3 + limF a 3 * q2 + limF a 4 * q1) * 4294967296 + (limF a 3 * q3 + limF a 4 * q2) * 4294967296 ^ 2 + limF a 4 * q3 * 4294967296 ^ 3 = K at hp
  have hK : 4 * 4294967296 ^ 4 * K = 5 * K + K * pN := by
    have e : 4 * 4294967296 ^ 4 = 5 + pN := by decide
    rw [e, Nat.add_mul, Nat.mul_comm pN]
  rw [hK] at hp
  refine Eq.trans (Nat.add_mul_mod_self_right _ K pN).symm (congrArg (· % pN) ?_)
  omega
theorem prod_lt (a r : Nat) (ha : ∀ i, limF a i ≤ 4294967295) (h4 : limF a 4 ≤ 15) (h : Clamped r) : val5 (prodL a r) < 2 ^ 161 := by
  rw [prod_val, row4]
  have b0 := rowP_le _ _ ha h.1 0
  have b1 := rowP_le _ _ ha h.1 1
  have b2 := rowP_le _ _ ha h.1 2
  have b3 := rowP_le _ _ ha h.1 3
  have b4 : limF a 4 * limF r 0 ≤ 15 * 268435455 := Nat.mul_le_mul h4 (h.1 0)
  generalize rowP (limF a) (limF r) 5 0 = x0 at *
  generalize rowP (limF a) (limF r) 5 1 = x1 at *
  generalize rowP (limF a) (limF r) 5 2 = x2 at *
  generalize rowP (limF a) (limF r) 5 3 = x3 at *
  generalize limF a 4 * limF r 0 = x4 at *
  omega
theorem prodL_length (a r : Nat) : (prodL a r).length = 5 := tabN_length _ _
theorem prodL_small (a r : Nat) (ha : ∀ i, limF a i ≤ 4294967295) (h : Clamped r) (i : Nat) : (prodL a r).getD i 0 < 9223372036854775808 := by
  by_cases hi : i < 5
  · unfold prodL
    rw [tabN_getD _ _ _ hi]
    have := rowP_le _ _ ha h.1 i
    omega
  · unfold prodL
    rw [List.getD_eq_getElem?_getD, List.getElem?_eq_none (by rw [tabN_length]; omega)]; decide
theorem stepR_small (v : Nat) (h : v < 2 ^ 161) : stepR v < 2 ^ 130 + 2 ^ 34 := by
  unfold stepR
  rw [two130]
  omega
/-- What is behind the last block: the number, its rest told by a bit above. -/
theorem rest_mod (v : Nat) (h : v < 2 ^ 130 + 2 ^ 34) : (v + 5 * ((v + 5) / 2 ^ 130)) % 2 ^ 130 = v % pN := by
  unfold pN
  rw [two130] at *
  by_cases hv : v + 5 < 1361129467683753853853498429727072845824
  · rw [Nat.div_eq_of_lt hv]; omega
  · rw [show (v + 5) / 1361129467683753853853498429727072845824 = 1 by omega]; omega
end Go.Proofs.YtmegllddjlippaaDoor
