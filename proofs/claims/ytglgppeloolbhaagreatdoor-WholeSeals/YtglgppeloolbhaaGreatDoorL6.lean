import Derived.Test.YtglgppeloolbhaaGreatDoorR6
import Derived.Test.YtglgppeloolbhaaGreatDoorG
/- Numbers as five limbs of 32 bits, the last one open above: plain facts, nothing of the program. -/
namespace Go.Proofs.YtglgppeloolbhaaGreatDoor
open Go.RowKit
set_option maxRecDepth 100000
set_option linter.unusedSimpArgs false

/-- The number of five limbs; the limbs of a number. -/
def val5 (l : List Nat) : Nat := l.getD 0 0 + l.getD 1 0 * 4294967296 + l.getD 2 0 * 18446744073709551616 + l.getD 3 0 * 79228162514264337593543950336 + l.getD 4 0 * 340282366920938463463374607431768211456
def limF (v i : Nat) : Nat := if i < 4 then v / 4294967296 ^ i % 4294967296 else v / 340282366920938463463374607431768211456
def limN (v : Nat) : List Nat := tabN 5 (limF v)
theorem limN_length (v : Nat) : (limN v).length = 5 := tabN_length _ _
theorem limN_getD (v i : Nat) (h : i < 5) : (limN v).getD i 0 = limF v i := tabN_getD _ _ _ h
theorem limN_eq (v : Nat) : limN v = [v % 4294967296, v / 4294967296 % 4294967296, v / 18446744073709551616 % 4294967296, v / 79228162514264337593543950336 % 4294967296, v / 340282366920938463463374607431768211456] := by
  simp [limN, limF, tabN, List.range, List.range.loop]
theorem val5_limN (v : Nat) : val5 (limN v) = v := by
  rw [limN_eq]
  unfold val5
  simp only [List.getD_cons_zero, List.getD_cons_succ]
  omega
theorem five (l : List Nat) (h : l.length = 5) : ∃ a b c d e, l = [a, b, c, d, e] := by
  match l, h with
  | [a, b, c, d, e], _ => exact ⟨a, b, c, d, e, rfl⟩
/-! ### Carrying. -/
def carS (l : List Nat) (k : Nat) : List Nat := (l.set (k + 1) (l.getD (k + 1) 0 + l.getD k 0 / 4294967296)).set k (l.getD k 0 % 4294967296)
def carL (l : List Nat) : Nat → List Nat
  | 0 => l
  | k + 1 => carS (carL l k) k
theorem carL_succ (l : List Nat) (k : Nat) : carL l (k + 1) = carS (carL l k) k := rfl
theorem carL_length (l : List Nat) (k : Nat) : (carL l k).length = l.length := by
  induction k with
  | zero => rfl
  | succ k ih => rw [carL_succ]; unfold carS; rw [List.length_set, List.length_set, ih]
theorem getD_set_ne (l : List Nat) (i j x : Nat) (h : i ≠ j) : (l.set i x).getD j 0 = l.getD j 0 := by
  rw [List.getD_eq_getElem?_getD, List.getD_eq_getElem?_getD, List.getElem?_set_ne h]
theorem getD_set_eq (l : List Nat) (i x : Nat) (h : i < l.length) : (l.set i x).getD i 0 = x := by
  rw [List.getD_eq_getElem?_getD, List.getElem?_set_self h]; rfl
theorem carL_up (l : List Nat) (k j : Nat) (h : k < j) : (carL l k).getD j 0 = l.getD j 0 := by
  induction k with
  | zero => rfl
  | succ k ih =>
    rw [carL_succ]; unfold carS
    rw [getD_set_ne _ _ _ _ (by omega), getD_set_ne _ _ _ _ (by omega), ih (by omega)]
theorem carL_at (l : List Nat) (hl : l.length = 5) (hb : ∀ i, l.getD i 0 < 9223372036854775808) (k : Nat) (hk : k < 5) : (carL l k).getD k 0 < 9223372041149743104 := by
  induction k with
  | zero => have := hb 0; show l.getD 0 0 < _; omega
  | succ k ih =>
    rw [carL_succ]; unfold carS
    rw [getD_set_ne _ _ _ _ (by omega), getD_set_eq _ _ _ (by rw [carL_length, hl]; exact hk), carL_up _ _ _ (by omega)]
    have h1 := ih (by omega)
    have h2 := hb (k + 1)
    omega
theorem carL_all (l : List Nat) (hl : l.length = 5) : carL l 4 = limN (val5 l) := by
  obtain ⟨a, b, c, d, e, rfl⟩ := five l hl
  rw [limN_eq]
  unfold val5
  simp only [carL, carS, List.getD_cons_zero, List.getD_cons_succ, List.set_cons_zero, List.set_cons_succ, Nat.zero_add, Nat.reduceAdd]
  simp only [List.cons.injEq, and_true]
  refine ⟨?_, ?_, ?_, ?_, ?_⟩ <;> omega

/-! ### A sum. -/
def addF (l m : List Nat) (k i : Nat) : Nat := if i < k then l.getD i 0 + m.getD i 0 else l.getD i 0
theorem addF_zero (l m : List Nat) (hl : l.length = 5) : tabN 5 (addF l m 0) = l := by
  rw [← tabN_of l 5 hl]
  exact tabN_congr _ _ _ (fun i hi => by unfold addF; rw [if_neg (by omega), tabN_getD _ _ _ hi])
theorem addF_set (l m : List Nat) (k : Nat) : (tabN 5 (addF l m k)).set k (l.getD k 0 + m.getD k 0) = tabN 5 (addF l m (k + 1)) := by
  refine tabN_set _ _ _ _ _ (by unfold addF; rw [if_pos (by omega)]) (fun i _ hne => ?_)
  unfold addF
  by_cases h : i < k
  · rw [if_pos h, if_pos (by omega)]
  · rw [if_neg h, if_neg (by omega)]
theorem addF_here (l m : List Nat) (k : Nat) : addF l m k k = l.getD k 0 := by unfold addF; rw [if_neg (by omega)]
theorem addF_val (l m : List Nat) : val5 (tabN 5 (addF l m 5)) = val5 l + val5 m := by
  unfold val5
  rw [tabN_getD _ _ _ (by decide), tabN_getD _ _ _ (by decide), tabN_getD _ _ _ (by decide), tabN_getD _ _ _ (by decide), tabN_getD _ _ _ (by decide)]
  unfold addF
  rw [if_pos (by decide), if_pos (by decide), if_pos (by decide), if_pos (by decide), if_pos (by decide)]
  omega

/-! ### A product. -/
def posT (i j : Nat) : Nat := if i + j < 4 ∨ j = 0 then i + j else i + j - 4
def jOf (i m : Nat) : Nat := if i < 4 then (if m < 4 then (m + 4 - i) % 4 else 4) else (if m = 4 then 0 else if m = 0 then 4 else m)
def termT (a r : Nat → Nat) (i j : Nat) : Nat := if i + j < 4 ∨ j = 0 then a i * r j else a i * (r j / 4 * 5)
def rowP (a r : Nat → Nat) : Nat → Nat → Nat
  | 0, _ => 0
  | i + 1, m => rowP a r i m + (if jOf i m < 4 then termT a r i (jOf i m) else 0)
def midP (a r : Nat → Nat) (i j m : Nat) : Nat := rowP a r i m + (if jOf i m < j then termT a r i (jOf i m) else 0)
theorem posT_lt : ∀ i : Fin 5, ∀ j : Fin 4, posT i j < 5 := by decide
theorem jOf_pos : ∀ i : Fin 5, ∀ j : Fin 4, jOf i (posT i j) = j := by decide
theorem pos_jOf : ∀ i : Fin 5, ∀ j : Fin 4, ∀ m : Fin 5, jOf i m = j → m = posT i j := by decide
theorem midP_zero (a r : Nat → Nat) (i : Nat) : midP a r i 0 = rowP a r i := by
  funext m; unfold midP; rw [if_neg (by omega)]; rfl
theorem midP_all (a r : Nat → Nat) (i : Nat) : midP a r i 4 = rowP a r (i + 1) := rfl
theorem midP_here (a r : Nat → Nat) (i j : Nat) (hi : i < 5) (hj : j < 4) : midP a r i (j + 1) (posT i j) = midP a r i j (posT i j) + termT a r i j := by
  unfold midP
  rw [show jOf i (posT i j) = j from jOf_pos ⟨i, hi⟩ ⟨j, hj⟩, if_pos (by omega), if_neg (by omega)]; omega
theorem midP_other (a r : Nat → Nat) (i j m : Nat) (hi : i < 5) (hj : j < 4) (hm : m < 5) (h : m ≠ posT i j) : midP a r i j m = midP a r i (j + 1) m := by
  have hne : jOf i m ≠ j := fun e => h (pos_jOf ⟨i, hi⟩ ⟨j, hj⟩ ⟨m, hm⟩ e)
  unfold midP
  by_cases h1 : jOf i m < j
  · rw [if_pos h1, if_pos (by omega)]
  · rw [if_neg h1, if_neg (by omega)]
theorem midP_set (a r : Nat → Nat) (i j : Nat) (hi : i < 5) (hj : j < 4) : (tabN 5 (midP a r i j)).set (posT i j) (midP a r i (j + 1) (posT i j)) = tabN 5 (midP a r i (j + 1)) :=
  tabN_set _ _ _ _ _ rfl (fun m hm hne => midP_other a r i j m hi hj hm hne)
theorem termT_le (a r : Nat → Nat) (ha : ∀ i, a i ≤ 4294967295) (hr : ∀ i, r i ≤ 268435455) (i j : Nat) : termT a r i j ≤ 1441151880758558720 := by
  have h1 := ha i
  have h2 := hr j
  unfold termT
  split
  · have : a i * r j ≤ 4294967295 * 268435455 := Nat.mul_le_mul h1 h2
    omega
  · have : a i * (r j / 4 * 5) ≤ 4294967295 * 335544315 := Nat.mul_le_mul h1 (by omega)
    omega
theorem rowP_leT (a r : Nat → Nat) (T : Nat) (hT : ∀ i j, termT a r i j ≤ T) (i m : Nat) : rowP a r i m ≤ i * T := by
  induction i with
  | zero => exact Nat.zero_le _
  | succ i ih =>
    show rowP a r i m + (if jOf i m < 4 then termT a r i (jOf i m) else 0) ≤ _
    have h := hT i (jOf i m)
    rw [Nat.succ_mul]
    by_cases hj : jOf i m < 4
    · rw [if_pos hj]; omega
    · rw [if_neg hj]; omega
theorem midP_leT (a r : Nat → Nat) (T : Nat) (hT : ∀ i j, termT a r i j ≤ T) (i j m : Nat) (hi : i < 5) : midP a r i j m ≤ 5 * T := by
  unfold midP
  have h2 := rowP_leT a r T hT i m
  have h := hT i (jOf i m)
  have h3 : i * T ≤ 4 * T := Nat.mul_le_mul_right _ (by omega)
  by_cases hj : jOf i m < j
  · rw [if_pos hj]; omega
  · rw [if_neg hj]; omega
theorem rowP_le (a r : Nat → Nat) (ha : ∀ i, a i ≤ 4294967295) (hr : ∀ i, r i ≤ 268435455) (m : Nat) : rowP a r 5 m ≤ 7205759403792793600 := rowP_leT a r _ (termT_le a r ha hr) 5 m
theorem midP_le (a r : Nat → Nat) (ha : ∀ i, a i ≤ 4294967295) (hr : ∀ i, r i ≤ 268435455) (i j m : Nat) (hi : i < 5) : midP a r i j m ≤ 7205759403792793600 := midP_leT a r _ (termT_le a r ha hr) i j m hi
theorem prod_poly (a0 a1 a2 a3 a4 r0 q1 q2 q3 X : Nat) :
    (a0 + a1 * X + a2 * X ^ 2 + a3 * X ^ 3 + a4 * X ^ 4) * (r0 + 4 * q1 * X + 4 * q2 * X ^ 2 + 4 * q3 * X ^ 3) + 5 * (a1 * q3 + a2 * q2 + a3 * q1 + (a2 * q3 + a3 * q2 + a4 * q1) * X + (a3 * q3 + a4 * q2) * X ^ 2 + a4 * q3 * X ^ 3)
    = (a0 * r0 + a1 * (q3 * 5) + a2 * (q2 * 5) + a3 * (q1 * 5)) + (a0 * (4 * q1) + a1 * r0 + a2 * (q3 * 5) + a3 * (q2 * 5) + a4 * (q1 * 5)) * X + (a0 * (4 * q2) + a1 * (4 * q1) + a2 * r0 + a3 * (q3 * 5) + a4 * (q2 * 5)) * X ^ 2 + (a0 * (4 * q3) + a1 * (4 * q2) + a2 * (4 * q1) + a3 * r0 + a4 * (q3 * 5)) * X ^ 3 + a4 * r0 * X ^ 4
      + 4 * X ^ 4 * (a1 * q3 + a2 * q2 + a3 * q1 + (a2 * q3 + a3 * q2 + a4 * q1) * X + (a3 * q3 + a4 * q2) * X ^ 2 + a4 * q3 * X ^ 3) := by
  grind

/-! ### A clamped number. -/
/-- The limbs of a clamped number: small, and all but the first multiples of four. -/
def Clamped (r : Nat) : Prop := (∀ i, limF r i ≤ 268435455) ∧ limF r 4 = 0 ∧ limF r 1 % 4 = 0 ∧ limF r 2 % 4 = 0 ∧ limF r 3 % 4 = 0
/-- The product, not carried. -/
def prodL (a r : Nat) : List Nat := tabN 5 (rowP (limF a) (limF r) 5)
theorem limF_0 (v : Nat) : limF v 0 = v % 4294967296 := by unfold limF; rw [if_pos (by decide)]; simp
theorem limF_1 (v : Nat) : limF v 1 = v / 4294967296 % 4294967296 := by unfold limF; rw [if_pos (by decide), Nat.pow_one]
theorem limF_2 (v : Nat) : limF v 2 = v / 18446744073709551616 % 4294967296 := by unfold limF; rw [if_pos (by decide)]
theorem limF_3 (v : Nat) : limF v 3 = v / 79228162514264337593543950336 % 4294967296 := by unfold limF; rw [if_pos (by decide)]
theorem limF_4 (v : Nat) : limF v 4 = v / 340282366920938463463374607431768211456 := by unfold limF; rw [if_neg (by decide)]
theorem limF_sum (v : Nat) : v = limF v 0 + limF v 1 * 4294967296 + limF v 2 * 4294967296 ^ 2 + limF v 3 * 4294967296 ^ 3 + limF v 4 * 4294967296 ^ 4 := by
  rw [limF_0, limF_1, limF_2, limF_3, limF_4]; omega
theorem prod_val (a r : Nat) : val5 (prodL a r) = rowP (limF a) (limF r) 5 0 + rowP (limF a) (limF r) 5 1 * 4294967296 + rowP (limF a) (limF r) 5 2 * 4294967296 ^ 2 + rowP (limF a) (limF r) 5 3 * 4294967296 ^ 3 + rowP (limF a) (limF r) 5 4 * 4294967296 ^ 4 := by
  unfold val5 prodL
  rw [tabN_getD _ _ _ (by decide), tabN_getD _ _ _ (by decide), tabN_getD _ _ _ (by decide), tabN_getD _ _ _ (by decide), tabN_getD _ _ _ (by decide)]
theorem row0 (a r : Nat → Nat) : rowP a r 5 0 = a 0 * r 0 + a 1 * (r 3 / 4 * 5) + a 2 * (r 2 / 4 * 5) + a 3 * (r 1 / 4 * 5) := by
  simp [rowP, jOf, termT]
theorem row1 (a r : Nat → Nat) : rowP a r 5 1 = a 0 * r 1 + a 1 * r 0 + a 2 * (r 3 / 4 * 5) + a 3 * (r 2 / 4 * 5) + a 4 * (r 1 / 4 * 5) := by
  simp [rowP, jOf, termT]
theorem row2 (a r : Nat → Nat) : rowP a r 5 2 = a 0 * r 2 + a 1 * r 1 + a 2 * r 0 + a 3 * (r 3 / 4 * 5) + a 4 * (r 2 / 4 * 5) := by
  simp [rowP, jOf, termT]
theorem row3 (a r : Nat → Nat) : rowP a r 5 3 = a 0 * r 3 + a 1 * r 2 + a 2 * r 1 + a 3 * r 0 + a 4 * (r 3 / 4 * 5) := by
  simp [rowP, jOf, termT]
theorem row4 (a r : Nat → Nat) : rowP a r 5 4 = a 4 * r 0 := by
  simp [rowP, jOf, termT]
/-- The product and what is left aside, 2^130 - 5 so often. -/
theorem prod_mod (a r : Nat) (h : Clamped r) : val5 (prodL a r) % pN = a * r % pN := by
  obtain ⟨_, h4, h1, h2, h3⟩ := h
  have ea := limF_sum a
  have er := limF_sum r
  rw [prod_val, row0, row1, row2, row3, row4]
  rw [h4, Nat.zero_mul, Nat.add_zero] at er
  obtain ⟨q1, e1⟩ : ∃ q, limF r 1 = 4 * q := ⟨limF r 1 / 4, by omega⟩
  obtain ⟨q2, e2⟩ : ∃ q, limF r 2 = 4 * q := ⟨limF r 2 / 4, by omega⟩
  obtain ⟨q3, e3⟩ : ∃ q, limF r 3 = 4 * q := ⟨limF r 3 / 4, by omega⟩
  rw [e1, e2, e3] at er
  rw [e1, e2, e3, Nat.mul_div_cancel_left _ (by decide), Nat.mul_div_cancel_left _ (by decide), Nat.mul_div_cancel_left _ (by decide)]
  have hp := prod_poly (limF a 0) (limF a 1) (limF a 2) (limF a 3) (limF a 4) (limF r 0) q1 q2 q3 4294967296
  rw [← ea, ← er] at hp
  generalize limF a 1 * q3 + limF a 2 * q2 + limF a 3 * q1 + (limF a 2 * q3 + limF a 3 * q2 + limF a 4 * q1) * 4294967296 + (limF a 3 * q3 + limF a 4 * q2) * 4294967296 ^ 2 + limF a 4 * q3 * 4294967296 ^ 3 = K at hp
  have hK : 4 * 4294967296 ^ 4 * K = 5 * K + K * pN := by
    have e : 4 * 4294967296 ^ 4 = 5 + pN := by decide
    rw [e, Nat.add_mul, Nat.mul_comm pN]
  rw [hK] at hp
  refine Eq.trans (Nat.add_mul_mod_self_right _ K pN).symm (congrArg (· % pN) ?_)
  omega
theorem prod_lt (a r : Nat) (ha : ∀ i, limF a i ≤ 4294967295) (h4 : limF a 4 ≤ 15) (h : Clamped r) : val5 (prodL a r) < 2 ^ 161 := by
  rw [prod_val, row4]
  have b0 := rowP_le _ _ ha h.1 0
  have b1 := rowP_le _ _ ha h.1 1
  have b2 := rowP_le _ _ ha h.1 2
  have b3 := rowP_le _ _ ha h.1 3
  have b4 : limF a 4 * limF r 0 ≤ 15 * 268435455 := Nat.mul_le_mul h4 (h.1 0)
  generalize rowP (limF a) (limF r) 5 0 = x0 at *
  generalize rowP (limF a) (limF r) 5 1 = x1 at *
  generalize rowP (limF a) (limF r) 5 2 = x2 at *
  generalize rowP (limF a) (limF r) 5 3 = x3 at *
  generalize limF a 4 * limF r 0 = x4 at *
  omega
theorem prodL_length (a r : Nat) : (prodL a r).length = 5 := tabN_length _ _
theorem prodL_small (a r : Nat) (ha : ∀ i, limF a i ≤ 4294967295) (h : Clamped r) (i : Nat) : (prodL a r).getD i 0 < 9223372036854775808 := by
  by_cases hi : i < 5
  · unfold prodL
    rw [tabN_getD _ _ _ hi]
    have := rowP_le _ _ ha h.1 i
    omega
  · unfold prodL
    rw [List.getD_eq_getElem?_getD, List.getElem?_eq_none (by rw [tabN_length]; omega)]; decide
theorem stepR_small (v : Nat) (h : v < 2 ^ 161) : stepR v < 2 ^ 130 + 2 ^ 34 := by
  unfold stepR
  rw [two130]
  omega
/-- What is behind the last block: the number, its rest told by a bit above. -/
theorem rest_mod (v : Nat) (h : v < 2 ^ 130 + 2 ^ 34) : (v + 5 * ((v + 5) / 2 ^ 130)) % 2 ^ 130 = v % pN := by
  unfold pN
  rw [two130] at *
  by_cases hv : v + 5 < 1361129467683753853853498429727072845824
  · rw [Nat.div_eq_of_lt hv]; omega
  · rw [show (v + 5) / 1361129467683753853853498429727072845824 = 1 by omega]; omega
end Go.Proofs.YtglgppeloolbhaaGreatDoor

/- The program's carried, plus. -/
namespace Go.Proofs.YtglgppeloolbhaaGreatDoor
open Go.RowKit
set_option maxRecDepth 100000
set_option linter.unusedSimpArgs false

/-- The cells of an array of limbs; a block that holds one. -/
def v64 (l : List Nat) : Array Value := ((ints l).map (Value.int .u64)).toArray
theorem v64_size (l : List Nat) : (v64 l).size = l.length := by simp [v64, ints]
theorem v64_get (l : List Nat) (j : Nat) (hj : j < l.length) : (v64 l)[j]? = some (.int .u64 ((l.getD j 0 : Nat) : Int)) := by
  simp [v64, ints, List.getD_eq_getElem?_getD, List.getElem?_eq_getElem hj]
theorem v64_one (l : List Nat) : (v64 l).all (·.oneCell') = true := by
  refine Array.all_eq_true_iff_forall_mem.2 (fun v hv => ?_)
  simp only [v64, List.mem_toArray, List.mem_map] at hv
  obtain ⟨z, _, rfl⟩ := hv
  rfl
theorem v64_set (l : List Nat) (j x : Nat) : v64 (l.set j x) = (v64 l).setIfInBounds j (.int .u64 (x : Int)) := by simp [v64, ints, List.map_set]
def Lim (w : World) (g : Nat) (l : List Nat) : Prop := Blk w 39 g (v64 l)
theorem Lim.cell {w : World} {g : Nat} {l : List Nat} (h : Lim w g l) (j : Nat) (hj : j < l.length) : w.cell? ⟨g, j, none⟩ = some (.int .u64 ((l.getD j 0 : Nat) : Int)) := by
  rw [Blk.cell h, v64_get l j hj]
theorem Lim.free {w : World} {g : Nat} {l : List Nat} (h : Lim w g l) (j : Nat) : w.frozen? ⟨g, j, none⟩ = false := Blk.free h j
theorem Lim.lt {w : World} {g : Nat} {l : List Nat} (h : Lim w g l) : g < w.heap.size := Blk.lt h
theorem Lim.below {w w' : World} {B g : Nat} {l : List Nat} (h : Lim w g l) (hb : Below B w w') (hg : g < B) : Lim w' g l := Blk.below h hb hg
theorem Lim.on {w w' : World} {g : Nat} {l : List Nat} (h : Lim w g l) (hb : Below w.heap.size w w') : Lim w' g l := Blk.on h hb
theorem Lim.alloc {w : World} {g : Nat} {l : List Nat} (h : Lim w g l) (o : Obj) : Lim (w.alloc o) g l := Blk.alloc h o
theorem Lim.new (w : World) (l : List Nat) (c : Array Value) (hc : c = v64 l) : Lim (w.alloc (.cells c 39)) w.heap.size l := by subst hc; exact Blk.new w _ _
theorem Lim.new' (w : World) (l : List Nat) (c : Array Value) (g : Nat) (hg : w.heap.size = g) (hc : c = v64 l) : Lim (w.alloc (.cells c 39)) g l := by subst hg; exact Lim.new w l c hc
theorem Lim.other {w : World} {g : Nat} {l : List Nat} (h : Lim w g l) (p : Addr) (hp : g ≠ p.block) (u : Value) : Lim (w.setCell p u) g l := Blk.other h p hp u
theorem Lim.set {w : World} {g : Nat} {l : List Nat} (h : Lim w g l) (j x : Nat) : Lim (w.setCell ⟨g, j, none⟩ (.int .u64 (x : Int))) g (l.set j x) := by
  unfold Lim Blk
  rw [v64_set]
  exact heap_setCell_same w g j _ 39 _ h
theorem Lim.setRow {w : World} {g : Nat} {l : List Nat} (h : Lim w g l) (l' : List Nat) : Lim (w.setRow g (v64 l')) g l' := Blk.setRow h _
theorem Lim.setRowOther {w : World} {g : Nat} {l : List Nat} (h : Lim w g l) (g' : Nat) (hg : g ≠ g') (c : Array Value) : Lim (w.setRow g' c) g l := Blk.setRowOther h g' hg c
theorem Tryz.num5 : (Tryz.prog.info? 39).map (·.size) = some 5 := by kernel_rfl
theorem Lim.num {l : List Nat} (hl : l.length = 5) : (Tryz.prog.info? 39).map (·.size) = some (v64 l).size := by rw [v64_size, hl]; exact Tryz.num5

section
variable {ops : Array Oper} {rest : List Oper} {o : Oper} {a : Act} {w : World} {Q : Exit → Act → World → Prop}
/-- A whole array of limbs is read, is written, is handed back. -/
theorem wpList_loadLim (hgd : o.guard = none) (x : Operand) (ho : o.op = .load 39 x) (g : Nat) (l : List Nat) (hx : a.eval x = .pointer (some ⟨g, 0, none⟩)) (h : Lim w g l) (hl : l.length = 5)
    (hk : wpList Tryz.prog ops Q rest (a.put o.dst (.agg (v64 l))) w) : wpList Tryz.prog ops Q (o :: rest) a w :=
  wpList_loadBlk hgd _ x ho g (v64 l) hx h 5 37 Tryz.underlying39 (Lim.num hl) hk
theorem wpList_storeLim (hgd : o.guard = none) (x y : Operand) (ho : o.op = .store 39 x y) (g : Nat) (l l' : List Nat) (hx : a.eval x = .pointer (some ⟨g, 0, none⟩)) (hy : a.eval y = .agg (v64 l')) (h : Lim w g l) (hl : l.length = 5) (hl' : l'.length = 5)
    (hk : wpList Tryz.prog ops Q rest (a.put o.dst undef) (w.setRow g (v64 l'))) : wpList Tryz.prog ops Q (o :: rest) a w :=
  wpList_storeBlk hgd _ x y ho g (v64 l) (v64 l') hx hy h (by rw [v64_size, v64_size, hl, hl']) (Lim.num hl) (v64_one _) hk
theorem wpList_storeLimH (hgd : o.guard = none) (x y : Operand) (ho : o.op = .store 39 x y) (g : Nat) (l l' : List Nat) (hx : a.eval x = .pointer (some ⟨g, 0, none⟩)) (hy : a.eval y = .agg (v64 l')) (h : Lim w g l) (hl : l.length = 5) (hl' : l'.length = 5)
    (hk : Hid (wpList Tryz.prog ops Q rest (a.put o.dst undef) (w.setRow g (v64 l')))) : wpList Tryz.prog ops Q (o :: rest) a w :=
  wpList_storeLim hgd x y ho g l l' hx hy h hl hl' hk.out
theorem bodyPost_lim {fn : Func} {p : Tmp} {R : Ending → World → Prop} (hf : fn.results = #[.cell p 39]) (g : Nat) (l : List Nat) (hp : a.tmps.getD p undef = .pointer (some ⟨g, 0, none⟩)) (hd : a.defers = []) (h : Lim w g l) (hl : l.length = 5)
    (hR : R (.returned (.agg (v64 l))) w) : bodyPost Tryz.prog fn R .ret a w :=
  bodyPost_blk hf g (v64 l) hp hd h 5 37 Tryz.underlying39 (Lim.num hl) hR
end
theorem u64_wrap (n : Int) : IntKind.u64.wrap n = n % 18446744073709551616 := by simp [IntKind.wrap, IntKind.bits, IntKind.signed]
theorem u64_small (n : Int) (h0 : 0 ≤ n) (h1 : n < 18446744073709551616) : IntKind.u64.wrap n = n := by rw [u64_wrap]; omega
theorem u64_and_nat (a b : Nat) (ha : a < 18446744073709551616) (hb : b < 18446744073709551616) : bits .and .u64 (a : Int) (b : Int) = ((a &&& b : Nat) : Int) := by
  have ha' : a % 2 ^ 64 = a := Nat.mod_eq_of_lt (by omega)
  have hb' : b % 2 ^ 64 = b := Nat.mod_eq_of_lt (by omega)
  have hx : a &&& b ≤ a := Nat.and_le_left
  show IntKind.u64.wrap ((BitVec.ofInt 64 (a : Int) &&& BitVec.ofInt 64 (b : Int)).toNat : Nat) = _
  rw [BitVec.toNat_and, BitVec.ofInt_natCast, BitVec.ofInt_natCast, BitVec.toNat_ofNat, BitVec.toNat_ofNat, ha', hb']
  exact u64_small _ (Int.natCast_nonneg _) (by omega)
theorem u64_mask32 (a : Nat) (ha : a < 18446744073709551616) : bits .and .u64 (a : Int) 4294967295 = ((a % 4294967296 : Nat) : Int) := by
  rw [show (4294967295 : Int) = ((4294967295 : Nat) : Int) from rfl, u64_and_nat a _ ha (by decide), show (4294967295 : Nat) = 2 ^ 32 - 1 from rfl, Nat.and_two_pow_sub_one_eq_mod]
theorem u64_mask2 (a : Nat) (ha : a < 18446744073709551616) : bits .and .u64 (a : Int) 3 = ((a % 4 : Nat) : Int) := by
  rw [show (3 : Int) = ((3 : Nat) : Int) from rfl, u64_and_nat a _ ha (by decide), show (3 : Nat) = 2 ^ 2 - 1 from rfl, Nat.and_two_pow_sub_one_eq_mod]

set_option maxRecDepth 100000 in
set_option maxHeartbeats 4000000 in
theorem carried_any (l : List Nat) (w : World) (hl : l.length = 5) (hb : ∀ i, l.getD i 0 < 9223372036854775808) :
    Calls Tryz.prog 45 #[.agg (v64 l)] w fun e w' => e = .returned (.agg (v64 (limN (val5 l)))) ∧ Below w.heap.size w w' := by
  have HL : Hid (∀ k, (carL l k).length = 5) := fun k => by rw [carL_length, hl]
  have HA : Hid (∀ k, k < 5 → (carL l k).getD k 0 < 9223372041149743104) := carL_at l hl hb
  have HU : Hid (∀ k, (carL l k).getD (k + 1) 0 < 9223372036854775808) := fun k => by rw [carL_up _ _ _ (by omega)]; exact hb _
  have HS : Hid (∀ k, carL l (k + 1) = _) := carL_succ l
  have H0 : Hid (carL l 0 = l) := rfl
  have HE : Hid (carL l 4 = limN (val5 l)) := carL_all l hl
  rw [← HE.out]
  obtain ⟨R, HR⟩ : ∃ R, Hid (R = carL l) := ⟨_, rfl⟩
  rw [← HR.out] at HL HA HU HS H0
  rw [← HR.out]
  clear HR HE hb
  go_enter Tryz.func45, Tryz.ntmps45
  have HA0 : Hid (Lim _ w.heap.size l) := (Lim.new w l _ rfl).alloc (.cells (v64 (List.replicate 5 0)) 39)
  have HA1 : Hid (Lim _ (w.heap.size + 1) (List.replicate 5 0)) := Lim.new' (w.alloc (.cells (v64 l) 39)) (List.replicate 5 0) _ (w.heap.size + 1) (by simp) rfl
  have hB : Below w.heap.size w ((w.alloc (.cells (v64 l) 39)).alloc (.cells (v64 (List.replicate 5 0)) 39)) := (below_new w _).alloc (by simp) _
  go_wp2_with fail
  go_loopw [4] (fun i wr => ∃ k : Nat, k ≤ 4 ∧ i = .int .i64 k ∧ Hid (Lim wr w.heap.size (R k)) ∧ Hid (Lim wr (w.heap.size + 1) (List.replicate 5 0)) ∧ Below w.heap.size w wr) (fun i _ => 4 - (intOf i).toNat)
  case atStart => exact ⟨0, Nat.zero_le _, rfl, by rw [H0.out]; exact HA0, HA1, hB⟩
  case round =>
    clear HA0 HA1 hB
    obtain ⟨k, hk, rfl, HA0, HA1, hbl⟩ := hrel
    by_cases hlt : k < 4
    · have hlk := HL.out k
      have cX := HA0.out.cell k (by omega)
      have cY := HA0.out.cell (k + 1) (by omega)
      have fX := HA0.out.free k
      have fY := HA0.out.free (k + 1)
      have lX := HA.out k (by omega)
      have lY := HU.out k
      have hS := HS.out k
      unfold carS at hS
      have HSk : Hid (R (k + 1) = ((R k).set (k + 1) ((R k).getD (k + 1) 0 + (R k).getD k 0 / 4294967296)).set k ((R k).getD k 0 % 4294967296)) := hS
      clear hS
      have hne : ∀ Z, ((R k).set (k + 1) Z).getD k 0 = (R k).getD k 0 := fun Z => getD_set_ne _ _ _ _ (by omega)
      generalize (R k).getD k 0 = X at *
      generalize (R k).getD (k + 1) 0 = Y at *
      obtain ⟨Z, hZ⟩ : ∃ Z, Z = Y + X / 4294967296 := ⟨_, rfl⟩
      rw [← hZ] at HSk
      have VN : Hid (IntKind.u64.wrap ((Y : Int) + (X : Int) / 4294967296) = (Z : Int)) := by show _ = _; rw [u64_small _ (by omega) (by omega)]; omega
      have VM := u64_mask32 X (by omega)
      have b0 : (k : Int) < 4 := by omega
      have b1 : (0 : Int) ≤ (k : Int) + 1 := by omega
      have b2 : (k : Int) + 1 < 5 := by omega
      have b3 : ((k : Int) + 1).toNat = k + 1 := by omega
      have b4 : IntKind.i64.wrap ((k : Int) + 1) = (k : Int) + 1 := i64_small _ (by omega) (by omega)
      have b5 : (k : Int) < 5 := by omega
      obtain ⟨w1, hw1⟩ : ∃ v, Hid (v = wr.setCell ⟨w.heap.size, k + 1, none⟩ (.int .u64 (Z : Int))) := ⟨_, rfl⟩
      have SS : Hid ((wr.setCell ⟨w.heap.size, k + 1, none⟩ (.int .u64 (Z : Int))).cell? ⟨w.heap.size, k, none⟩ = some (.int .u64 (X : Int))) := by
        have h1 := (HA0.out.set (k + 1) Z).cell k (by rw [List.length_set]; omega)
        rw [hne] at h1
        exact h1
      have A1 : Hid (Lim w1 w.heap.size ((R k).set (k + 1) Z)) := by rw [hw1.out]; exact HA0.out.set (k + 1) Z
      have E1 : Hid (Lim w1 (w.heap.size + 1) (List.replicate 5 0)) := by rw [hw1.out]; exact HA1.out.other _ (by simp) _
      have B1 : Below w.heap.size w w1 := by rw [hw1.out]; exact hbl.setCell (p := ⟨w.heap.size, k + 1, none⟩) (Nat.le_refl _) _
      have cX1 := A1.out.cell k (by rw [List.length_set]; omega)
      rw [hne] at cX1
      have fX1 := A1.out.free k
      have A2 : Hid (Lim (w1.setCell ⟨w.heap.size, k, none⟩ (.int .u64 ((X % 4294967296 : Nat) : Int))) w.heap.size (R (k + 1))) := by rw [HSk.out]; exact A1.out.set k (X % 4294967296)
      have E2 : Hid (Lim (w1.setCell ⟨w.heap.size, k, none⟩ (.int .u64 ((X % 4294967296 : Nat) : Int))) (w.heap.size + 1) (List.replicate 5 0)) := E1.out.other _ (by simp) _
      have B2 := B1.setCell (p := ⟨w.heap.size, k, none⟩) (Nat.le_refl _) (.int .u64 ((X % 4294967296 : Nat) : Int))
      clear HSk hne hZ HA0 HA1 hbl A1 E1 B1
      generalize X % 4294967296 = M at *
      go_wp2_with fail
      refine wp_region_noPanic ?_
      refine wp_region_held_drew (S := fun w' => w'.cell? ⟨w.heap.size, k, none⟩ = some (.int .u64 (X : Int))) (by kernel_rfl) (by first | exact trivial | assumption | exact ⟨by assumption, by assumption⟩) (fun hHeld => ?_)
      refine take_at (i := 0) (v := ?_) rfl rfl (by kernel_rfl) (by kernel_rfl) (by kernel_rfl) (fun _ _ _ h => h) (Or.inl ⟨by rfl, ?_⟩) (by assumption) ?_
      rotate_left
      · intro w hSw; (try dsimp only at hSw); go_simp; try with_reducible rfl
      try simp only [Act.put, List.setIfInBounds_toArray, List.set_cons_zero, List.set_cons_succ]
      refine take_at (i := 1) (v := ?_) rfl rfl (by kernel_rfl) (by kernel_rfl) (by kernel_rfl) (fun _ _ _ h => h) (Or.inl ⟨by rfl, ?_⟩) (by assumption) ?_
      rotate_left
      · intro w hSw; (try dsimp only at hSw); go_simp; try with_reducible rfl
      try simp only [Act.put, List.setIfInBounds_toArray, List.set_cons_zero, List.set_cons_succ]
      refine take_at (i := 2) (v := ?_) rfl rfl (by kernel_rfl) (by kernel_rfl) (by kernel_rfl) (fun _ _ _ h => h) (Or.inl ⟨by rfl, ?_⟩) (by assumption) ?_
      rotate_left
      · intro w hSw; (try dsimp only at hSw); go_simp; try with_reducible rfl
      try simp only [Act.put, List.setIfInBounds_toArray, List.set_cons_zero, List.set_cons_succ]
      refine take_at (i := 4) (v := ?_) rfl rfl (by kernel_rfl) (by kernel_rfl) (by kernel_rfl) (fun _ _ _ h => h) (Or.inl ⟨by rfl, ?_⟩) (by assumption) ?_
      rotate_left
      · intro w hSw; (try dsimp only at hSw); go_simp; try with_reducible rfl
      try simp only [Act.put, List.setIfInBounds_toArray, List.set_cons_zero, List.set_cons_succ]
      refine take_at (i := 5) (v := ?_) rfl rfl (by kernel_rfl) (by kernel_rfl) (by kernel_rfl) (fun _ _ _ h => h) (Or.inl ⟨by rfl, ?_⟩) (by assumption) ?_
      rotate_left
      · intro w hSw; (try dsimp only at hSw); go_simp; try with_reducible rfl
      try simp only [Act.put, List.setIfInBounds_toArray, List.set_cons_zero, List.set_cons_succ]
      refine take_at (i := 6) (v := ?_) rfl rfl (by kernel_rfl) (by kernel_rfl) (by kernel_rfl) (fun _ _ _ h => h) (Or.inl ⟨by rfl, ?_⟩) (by assumption) ?_
      rotate_left
      · intro w hSw; (try dsimp only at hSw); go_simp; try with_reducible rfl
      try simp only [Act.put, List.setIfInBounds_toArray, List.set_cons_zero, List.set_cons_succ]
      refine take_at (i := 7) (v := ?_) rfl rfl (by kernel_rfl) (by kernel_rfl) (by kernel_rfl) (fun _ _ _ h => h) (Or.inl ⟨by rfl, ?_⟩) (by assumption) ?_
      rotate_left
      · intro w hSw; (try dsimp only at hSw); go_simp; try with_reducible rfl
      try simp only [Act.put, List.setIfInBounds_toArray, List.set_cons_zero, List.set_cons_succ]
      refine wpAnyH_ready (rs := [3]) (by kernel_rfl) (by simp) ?_
      refine AllReadyH.cons rfl (fun K hK => ?_) AllReadyH.nil
      go_simp
      refine hK.out _ _ (by assumption) (fun hHeld => ?_)
      clear hK K
      refine take_at (i := 8) (v := ?_) rfl rfl (by kernel_rfl) (by kernel_rfl) (by kernel_rfl) (fun _ _ _ h => h) (Or.inl ⟨by rfl, ?_⟩) (by assumption) ?_
      rotate_left
      · intro w hSw; (try dsimp only at hSw); go_simp; try with_reducible rfl
      try simp only [Act.put, List.setIfInBounds_toArray, List.set_cons_zero, List.set_cons_succ]
      refine take_at (i := 9) (v := ?_) rfl rfl (by kernel_rfl) (by kernel_rfl) (by kernel_rfl) (fun _ _ _ h => h) (Or.inl ⟨by rfl, ?_⟩) (by assumption) ?_
      rotate_left
      · intro w hSw; (try dsimp only at hSw); go_simp; try with_reducible rfl
      try simp only [Act.put, List.setIfInBounds_toArray, List.set_cons_zero, List.set_cons_succ]
      refine wpAnyH_ready (rs := [10]) (by kernel_rfl) (by simp) ?_
      refine AllReadyH.cons rfl (fun K hK => ?_) AllReadyH.nil
      go_simp
      rw [VN.out]
      refine hK.out _ _ SS.out (fun hHeld => ?_)
      clear hK K
      refine wpAnyH_done (by kernel_rfl) (NoPanic.normal ?_) _
      rw [← hw1.out]
      clear cX cY fX fY VN SS hw1
      go_wp2
      go_roundw
      case rel => exact ⟨k + 1, by omega, by go_num, A2, E2, B2.drew⟩
      case measure => simp [intOf]; omega
    · have hk' : k = 4 := by omega
      subst hk'
      have hl4 := HL.out 4
      go_wp2_with (first
        | (with_reducible refine wpList_loadLim rfl _ rfl w.heap.size (R 4) ?hx HA0.out hl4 ?_)
        | (with_reducible refine wpList_storeLim rfl _ _ rfl (w.heap.size + 1) (List.replicate 5 0) (R 4) ?hx2 ?hy HA1.out rfl hl4 ?_))
      case hx => rfl
      exact bodyPost_lim rfl (w.heap.size + 1) (R 4) rfl rfl (HA1.out.setRow (R 4)) hl4 ⟨rfl, below_setRow hbl (by omega) _⟩
end Go.Proofs.YtglgppeloolbhaaGreatDoor

/- The program's plus. -/
namespace Go.Proofs.YtglgppeloolbhaaGreatDoor
open Go.RowKit
set_option maxRecDepth 100000
set_option linter.unusedSimpArgs false

set_option maxRecDepth 100000 in
set_option maxHeartbeats 4000000 in
theorem plus_any (l m : List Nat) (w : World) (hl : l.length = 5) (hm : m.length = 5) (hb : ∀ i, l.getD i 0 + m.getD i 0 < 9223372036854775808) :
    Calls Tryz.prog 25 #[.agg (v64 l), .agg (v64 m)] w fun e w' => e = .returned (.agg (v64 (limN (val5 l + val5 m)))) ∧ Below w.heap.size w w' := by
  have Hb : Hid (∀ i, l.getD i 0 + m.getD i 0 < 9223372036854775808) := hb
  obtain ⟨E, HE⟩ : ∃ E, Hid (E = limN (val5 l + val5 m)) := ⟨_, rfl⟩
  have hE5 : E.length = 5 := by rw [HE.out]; exact limN_length _
  obtain ⟨S, HS⟩ : ∃ S, Hid (S = tabN 5 (addF l m 5)) := ⟨_, rfl⟩
  have hS5 : S.length = 5 := by rw [HS.out]; exact tabN_length _ _
  have CC : Hid (∀ w, _) := fun w => carried_any S w hS5 (fun i => by
    rw [HS.out]
    by_cases hi : i < 5
    · rw [tabN_getD _ _ _ hi]; unfold addF; rw [if_pos hi]; exact hb i
    · rw [List.getD_eq_getElem?_getD, List.getElem?_eq_none (by rw [tabN_length]; omega)]; decide)
  have e1 : limN (val5 S) = E := by rw [HS.out, HE.out, addF_val]
  rw [e1] at CC
  rw [← HE.out]
  clear e1 HE hb
  go_enter Tryz.func25, Tryz.ntmps25
  have A0 : Hid (Lim _ w.heap.size l) := ((Lim.new w l _ rfl).alloc (.cells (v64 m) 39)).alloc (.cells (v64 (List.replicate 5 0)) 39)
  have A1 : Hid (Lim _ (w.heap.size + 1) m) := (Lim.new' (w.alloc (.cells (v64 l) 39)) m _ (w.heap.size + 1) (by simp) rfl).alloc (.cells (v64 (List.replicate 5 0)) 39)
  have A2 : Hid (Lim _ (w.heap.size + 2) (List.replicate 5 0)) := Lim.new' ((w.alloc (.cells (v64 l) 39)).alloc (.cells (v64 m) 39)) (List.replicate 5 0) _ (w.heap.size + 2) (by simp) rfl
  have hB : Below w.heap.size w (((w.alloc (.cells (v64 l) 39)).alloc (.cells (v64 m) 39)).alloc (.cells (v64 (List.replicate 5 0)) 39)) := ((below_new w _).alloc (by simp) _).alloc (by simp; omega) _
  go_wp2_with fail
  go_loopw [6] (fun i wr => ∃ k : Nat, k ≤ 5 ∧ i = .int .i64 k ∧ Hid (Lim wr w.heap.size (tabN 5 (addF l m k))) ∧ Hid (Lim wr (w.heap.size + 1) m) ∧ Hid (Lim wr (w.heap.size + 2) (List.replicate 5 0)) ∧ Below w.heap.size w wr) (fun i _ => 5 - (intOf i).toNat)
  case atStart => exact ⟨0, Nat.zero_le _, rfl, by rw [addF_zero l m hl]; exact A0, A1, A2, hB⟩
  case round =>
    clear A0 A1 A2 hB
    obtain ⟨k, hk, rfl, A0, A1, A2, hbl⟩ := hrel
    by_cases hlt : k < 5
    · have cX := A0.out.cell k (by rw [tabN_length]; omega)
      rw [tabN_getD _ _ _ hlt, addF_here] at cX
      have fX := A0.out.free k
      have cY := A1.out.cell k (by omega)
      have lXY := Hb.out k
      have N0 : Hid (Lim (wr.setCell ⟨w.heap.size, k, none⟩ (.int .u64 ((l.getD k 0 + m.getD k 0 : Nat) : Int))) w.heap.size (tabN 5 (addF l m (k + 1)))) := by
        show Lim _ _ _; rw [← addF_set]; exact A0.out.set k _
      have N1 : Hid (Lim (wr.setCell ⟨w.heap.size, k, none⟩ (.int .u64 ((l.getD k 0 + m.getD k 0 : Nat) : Int))) (w.heap.size + 1) m) := A1.out.other _ (by simp) _
      have N2 : Hid (Lim (wr.setCell ⟨w.heap.size, k, none⟩ (.int .u64 ((l.getD k 0 + m.getD k 0 : Nat) : Int))) (w.heap.size + 2) (List.replicate 5 0)) := A2.out.other _ (by simp) _
      have BN := hbl.setCell (p := ⟨w.heap.size, k, none⟩) (Nat.le_refl _) (.int .u64 ((l.getD k 0 + m.getD k 0 : Nat) : Int))
      have SS' := N1.out.cell k (by omega)
      generalize l.getD k 0 = X at *
      generalize m.getD k 0 = Y at *
      obtain ⟨Z, hZ⟩ : ∃ Z, Z = X + Y := ⟨_, rfl⟩
      rw [← hZ] at N0 N1 N2 BN SS'
      have VN : Hid (IntKind.u64.wrap ((X : Int) + (Y : Int)) = (Z : Int)) := by show _ = _; rw [u64_small _ (by omega) (by omega)]; omega
      have SS : Hid ((wr.setCell ⟨w.heap.size, k, none⟩ (.int .u64 (Z : Int))).cell? ⟨w.heap.size + 1, k, none⟩ = some (.int .u64 (Y : Int))) := SS'
      obtain ⟨w1, hw1⟩ : ∃ v, Hid (v = wr.setCell ⟨w.heap.size, k, none⟩ (.int .u64 (Z : Int))) := ⟨_, rfl⟩
      rw [← hw1.out] at N0 N1 N2 BN
      have b0 : (k : Int) < 5 := by omega
      clear A0 A1 A2 hbl hZ SS'
      go_wp2_with fail
      refine wp_region_noPanic ?_
      refine wp_region_held_drew (S := fun w' => w'.cell? ⟨w.heap.size + 1, k, none⟩ = some (.int .u64 (Y : Int))) (by kernel_rfl) (by first | exact trivial | assumption | exact ⟨by assumption, by assumption⟩) (fun hHeld => ?_)
      refine take_at (i := 0) (v := ?_) rfl rfl (by kernel_rfl) (by kernel_rfl) (by kernel_rfl) (fun _ _ _ h => h) (Or.inl ⟨by rfl, ?_⟩) (by assumption) ?_
      rotate_left
      · intro w hSw; (try dsimp only at hSw); go_simp; try with_reducible rfl
      try simp only [Act.put, List.setIfInBounds_toArray, List.set_cons_zero, List.set_cons_succ]
      refine take_at (i := 1) (v := ?_) rfl rfl (by kernel_rfl) (by kernel_rfl) (by kernel_rfl) (fun _ _ _ h => h) (Or.inl ⟨by rfl, ?_⟩) (by assumption) ?_
      rotate_left
      · intro w hSw; (try dsimp only at hSw); go_simp; try with_reducible rfl
      try simp only [Act.put, List.setIfInBounds_toArray, List.set_cons_zero, List.set_cons_succ]
      refine take_at (i := 3) (v := ?_) rfl rfl (by kernel_rfl) (by kernel_rfl) (by kernel_rfl) (fun _ _ _ h => h) (Or.inl ⟨by rfl, ?_⟩) (by assumption) ?_
      rotate_left
      · intro w hSw; (try dsimp only at hSw); go_simp; try with_reducible rfl
      try simp only [Act.put, List.setIfInBounds_toArray, List.set_cons_zero, List.set_cons_succ]
      refine take_at (i := 4) (v := ?_) rfl rfl (by kernel_rfl) (by kernel_rfl) (by kernel_rfl) (fun _ _ _ h => h) (Or.inl ⟨by rfl, ?_⟩) (by assumption) ?_
      rotate_left
      · intro w hSw; (try dsimp only at hSw); go_simp; try with_reducible rfl
      try simp only [Act.put, List.setIfInBounds_toArray, List.set_cons_zero, List.set_cons_succ]
      refine take_at (i := 5) (v := ?_) rfl rfl (by kernel_rfl) (by kernel_rfl) (by kernel_rfl) (fun _ _ _ h => h) (Or.inl ⟨by rfl, ?_⟩) (by assumption) ?_
      rotate_left
      · intro w hSw; (try dsimp only at hSw); go_simp; try with_reducible rfl
      try simp only [Act.put, List.setIfInBounds_toArray, List.set_cons_zero, List.set_cons_succ]
      refine wpAnyH_ready (rs := [2]) (by kernel_rfl) (by simp) ?_
      refine AllReadyH.cons rfl (fun K hK => ?_) AllReadyH.nil
      go_simp
      refine hK.out _ _ (by assumption) (fun hHeld => ?_)
      clear hK K
      refine take_at (i := 6) (v := ?_) rfl rfl (by kernel_rfl) (by kernel_rfl) (by kernel_rfl) (fun _ _ _ h => h) (Or.inl ⟨by rfl, ?_⟩) (by assumption) ?_
      rotate_left
      · intro w hSw; (try dsimp only at hSw); go_simp; try with_reducible rfl
      try simp only [Act.put, List.setIfInBounds_toArray, List.set_cons_zero, List.set_cons_succ]
      refine take_at (i := 7) (v := ?_) rfl rfl (by kernel_rfl) (by kernel_rfl) (by kernel_rfl) (fun _ _ _ h => h) (Or.inl ⟨by rfl, ?_⟩) (by assumption) ?_
      rotate_left
      · intro w hSw; (try dsimp only at hSw); go_simp; try with_reducible rfl
      try simp only [Act.put, List.setIfInBounds_toArray, List.set_cons_zero, List.set_cons_succ]
      refine wpAnyH_ready (rs := [8]) (by kernel_rfl) (by simp) ?_
      refine AllReadyH.cons rfl (fun K hK => ?_) AllReadyH.nil
      go_simp
      rw [VN.out]
      refine hK.out _ _ SS.out (fun hHeld => ?_)
      clear hK K
      refine wpAnyH_done (by kernel_rfl) (NoPanic.normal ?_) _
      rw [← hw1.out]
      clear cX cY fX VN SS hw1
      go_wp2
      go_roundw
      case rel => exact ⟨k + 1, by omega, by go_num, N0, N1, N2, BN.drew⟩
      case measure => simp [intOf]; omega
    · have hk' : k = 5 := by omega
      subst hk'
      rw [← HS.out] at A0
      go_wp2_with (with_reducible refine wpList_loadLim rfl _ rfl w.heap.size S ?hx A0.out hS5 ?_)
      case hx => rfl
      refine (CC.out _).mono ?_
      rintro e w2 ⟨rfl, hb2⟩
      have D2 : Hid (Lim w2 (w.heap.size + 2) (List.replicate 5 0)) := A2.out.on hb2
      have hB2 := below_step hbl (Nat.le_refl _) hb2
      clear A0 A1 A2 hbl hb2 CC
      go_wp2_with (with_reducible refine wpList_storeLim rfl _ _ rfl (w.heap.size + 2) (List.replicate 5 0) E ?hx2 ?hy D2.out rfl hE5 ?_)
      case hx2 => rfl
      case hy => rfl
      exact bodyPost_lim rfl (w.heap.size + 2) E rfl rfl (D2.out.setRow E) hE5 ⟨rfl, below_setRow hB2 (by omega) _⟩

/-- Limbs of numbers, and of a small number alone. -/
def oneL (x : Nat) : List Nat := [x, 0, 0, 0, 0]
theorem val5_oneL (x : Nat) : val5 (oneL x) = x := by simp [val5, oneL]
theorem oneL_getD (x i : Nat) : (oneL x).getD i 0 ≤ x := by
  match i with
  | 0 => exact Nat.le_refl _
  | 1 => exact Nat.zero_le _
  | 2 => exact Nat.zero_le _
  | 3 => exact Nat.zero_le _
  | 4 => exact Nat.zero_le _
  | n + 5 => rw [List.getD_eq_getElem?_getD, List.getElem?_eq_none (by show 5 ≤ _; omega)]; exact Nat.zero_le _
theorem limN_le (v B : Nat) (h : v < 340282366920938463463374607431768211456 * B) (hB : 4294967296 ≤ B) (i : Nat) : (limN v).getD i 0 < B := by
  by_cases hi : i < 5
  · rw [limN_getD _ _ hi]
    unfold limF
    split
    · exact Nat.lt_of_lt_of_le (Nat.mod_lt _ (by decide)) hB
    · exact Nat.div_lt_of_lt_mul h
  · rw [List.getD_eq_getElem?_getD, List.getElem?_eq_none (by rw [limN_length]; omega)]
    show 0 < B; omega
theorem lim_lt (v : Nat) (h : v < 2 ^ 190) (i : Nat) : (limN v).getD i 0 < 4611686018427387904 := limN_le v _ (Nat.lt_of_lt_of_le h (by decide)) (by decide) i

/-- Of two numbers. -/
theorem plus_num (a b : Nat) (w : World) (ha : a < 2 ^ 190) (hb : b < 2 ^ 190) :
    Calls Tryz.prog 25 #[.agg (v64 (limN a)), .agg (v64 (limN b))] w fun e w' => e = .returned (.agg (v64 (limN (a + b)))) ∧ Below w.heap.size w w' := by
  have h := plus_any (limN a) (limN b) w (limN_length a) (limN_length b) (fun i => by have h1 := lim_lt a ha i; have h2 := lim_lt b hb i; omega)
  rw [val5_limN, val5_limN] at h
  exact h
/-- Of a number and a small one. -/
theorem plus_one (l : List Nat) (x : Nat) (w : World) (hl : l.length = 5) (hb : ∀ i, l.getD i 0 < 4611686018427387904) (hx : x < 4611686018427387904) :
    Calls Tryz.prog 25 #[.agg (v64 l), .agg (v64 (oneL x))] w fun e w' => e = .returned (.agg (v64 (limN (val5 l + x)))) ∧ Below w.heap.size w w' := by
  have h := plus_any l (oneL x) w hl rfl (fun i => by have h1 := hb i; have h2 := oneL_getD x i; omega)
  rw [val5_oneL] at h
  exact h

/-- The limbs of what lies below 2^130, and what lies above, five times. -/
theorem fold_val (v : Nat) : val5 ((limN v).set 4 (limF v 4 % 4)) + 5 * (limF v 4 / 4) = stepR v := by
  rw [limN_eq, limF_4]
  unfold val5 stepR
  simp only [List.set_cons_succ, List.set_cons_zero, List.getD_cons_zero, List.getD_cons_succ]
  rw [two130]
  omega

set_option maxRecDepth 100000 in
set_option maxHeartbeats 4000000 in
theorem folded_any (v : Nat) (w : World) (hv : v < 2 ^ 180) :
    Calls Tryz.prog 44 #[.agg (v64 (limN v))] w fun e w' => e = .returned (.agg (v64 (limN (stepR v)))) ∧ Below w.heap.size w w' := by
  obtain ⟨E, HE⟩ : ∃ E, Hid (E = limN (stepR v)) := ⟨_, rfl⟩
  have hE5 : E.length = 5 := by rw [HE.out]; exact limN_length _
  obtain ⟨l, Hl⟩ : ∃ l, Hid (l = limN v) := ⟨_, rfl⟩
  have hl5 : l.length = 5 := by rw [Hl.out]; exact limN_length _
  obtain ⟨X, HX⟩ : ∃ X, Hid (X = limF v 4) := ⟨_, rfl⟩
  have hX : X < 4503599627370496 := by
    rw [HX.out, limF_4]
    exact Nat.div_lt_of_lt_mul (Nat.lt_of_lt_of_le hv (by decide))
  have hXl : l.getD 4 0 = X := by rw [Hl.out, HX.out]; exact limN_getD v 4 (by decide)
  have hb : ∀ i, (l.set 4 (X % 4)).getD i 0 < 4611686018427387904 := fun i => by
    by_cases hi : 4 = i
    · subst hi; rw [getD_set_eq _ _ _ (by omega)]; omega
    · rw [getD_set_ne _ _ _ _ hi, Hl.out]; exact lim_lt v (Nat.lt_trans hv (by decide)) i
  have CP : Hid (∀ w, _) := fun w => plus_one (l.set 4 (X % 4)) (5 * (X / 4)) w (by rw [List.length_set]; exact hl5) hb (by omega)
  have e1 : limN (val5 (l.set 4 (X % 4)) + 5 * (X / 4)) = E := by rw [HE.out, Hl.out, HX.out, fold_val]
  rw [e1] at CP
  rw [← HE.out, ← Hl.out]
  have VM := u64_mask2 X (by omega)
  have VN : IntKind.u64.wrap (5 * ((X : Int) / 4)) = ((5 * (X / 4) : Nat) : Int) := by rw [u64_small _ (by omega) (by omega)]; omega
  clear e1 HE Hl HX hb hv
  generalize X % 4 = M at *
  generalize 5 * (X / 4) = F at *
  have A0 : Lim ((w.alloc (.cells (v64 l) 39)).alloc (.cells #[.int .u64 0, .int .u64 0, .int .u64 0, .int .u64 0, .int .u64 0] 39)) w.heap.size l := (Lim.new w l _ rfl).alloc _
  have A1 : Lim ((w.alloc (.cells (v64 l) 39)).alloc (.cells #[.int .u64 0, .int .u64 0, .int .u64 0, .int .u64 0, .int .u64 0] 39)) (w.heap.size + 1) (List.replicate 5 0) := Lim.new' (w.alloc (.cells (v64 l) 39)) (List.replicate 5 0) _ (w.heap.size + 1) (by simp) rfl
  have hB : Below w.heap.size w ((w.alloc (.cells (v64 l) 39)).alloc (.cells #[.int .u64 0, .int .u64 0, .int .u64 0, .int .u64 0, .int .u64 0] 39)) := (below_new w _).alloc (by simp) _
  have c4 := A0.cell 4 (by omega)
  rw [hXl] at c4
  have f4 := A0.free 4
  have D0 : Hid (Lim ((w.alloc (.cells ((v64 l).setIfInBounds 4 (.int .u64 (M : Int))) 39)).alloc (.cells #[.int .u64 0, .int .u64 0, .int .u64 0, .int .u64 0, .int .u64 0] 39)) w.heap.size (l.set 4 M)) := (Lim.new w (l.set 4 M) _ (v64_set l 4 M).symm).alloc _
  have D1 : Hid (Lim ((w.alloc (.cells ((v64 l).setIfInBounds 4 (.int .u64 (M : Int))) 39)).alloc (.cells #[.int .u64 0, .int .u64 0, .int .u64 0, .int .u64 0, .int .u64 0] 39)) (w.heap.size + 1) (List.replicate 5 0)) := Lim.new' (w.alloc (.cells ((v64 l).setIfInBounds 4 (.int .u64 (M : Int))) 39)) (List.replicate 5 0) _ (w.heap.size + 1) (by simp) rfl
  have D2 : Below w.heap.size w ((w.alloc (.cells ((v64 l).setIfInBounds 4 (.int .u64 (M : Int))) 39)).alloc (.cells #[.int .u64 0, .int .u64 0, .int .u64 0, .int .u64 0, .int .u64 0] 39)) := (below_new w _).alloc (by simp) _
  have hlM : (l.set 4 M).length = 5 := by rw [List.length_set]; exact hl5
  clear A0 A1 hB hXl
  go_enter Tryz.func44, Tryz.ntmps44
  go_wp2_with (with_reducible refine wpList_loadLim rfl _ rfl w.heap.size (l.set 4 M) ?hx D0.out hlM ?_)
  case hx => rfl
  refine (CP.out _).mono ?_
  rintro e w2 ⟨rfl, hb2⟩
  have E2 : Hid (Lim w2 (w.heap.size + 1) (List.replicate 5 0)) := D1.out.on hb2
  have hB2 := below_step D2 (Nat.le_refl _) hb2
  clear D0 D1 D2 hb2 CP c4 f4
  go_wp2_with (with_reducible refine wpList_storeLim rfl _ _ rfl (w.heap.size + 1) (List.replicate 5 0) E ?hx2 ?hy E2.out rfl hE5 ?_)
  case hx2 => rfl
  case hy => rfl
  exact bodyPost_lim rfl (w.heap.size + 1) E rfl rfl (E2.out.setRow E) hE5 ⟨rfl, below_setRow hB2 (by omega) _⟩
end Go.Proofs.YtglgppeloolbhaaGreatDoor

/- The program's rest. -/
namespace Go.Proofs.YtglgppeloolbhaaGreatDoor
open Go.RowKit
set_option maxRecDepth 100000
set_option linter.unusedSimpArgs false

theorem index_lim (m : List Nat) (hm : m.length = 5) (w : World) : (Instr.index 39 (.agg (v64 m)) (.int .i64 4)).run Tryz.prog w = .ok (.int .u64 ((m.getD 4 0 : Nat) : Int)) w := by
  obtain ⟨a, b, c, d, e, rfl⟩ := five m hm
  kernel_rfl

set_option maxRecDepth 100000 in
set_option maxHeartbeats 4000000 in
theorem rest_any (v : Nat) (w : World) (hv : v < 2 ^ 130 + 2 ^ 34) :
    Calls Tryz.prog 27 #[.agg (v64 (limN v))] w fun e w' => e = .returned (.agg (v64 (limN (v + 5 * ((v + 5) / 2 ^ 130))))) ∧ Below w.heap.size w w' := by
  obtain ⟨l, Hl⟩ : ∃ l, Hid (l = limN v) := ⟨_, rfl⟩
  have hl5 : l.length = 5 := by rw [Hl.out]; exact limN_length _
  obtain ⟨m, Hm⟩ : ∃ m, Hid (m = limN (v + 5)) := ⟨_, rfl⟩
  have hm5 : m.length = 5 := by rw [Hm.out]; exact limN_length _
  obtain ⟨X, HX⟩ : ∃ X, Hid (X = limF (v + 5) 4) := ⟨_, rfl⟩
  have hX : X < 9 := by
    rw [HX.out, limF_4]
    omega
  have hX4 : (v + 5) / 2 ^ 130 = X / 4 := by rw [HX.out, limF_4, two130]; omega
  have hXm : m.getD 4 0 = X := by rw [Hm.out, HX.out]; exact limN_getD _ 4 (by decide)
  have hv' : v < 2 ^ 190 := by omega
  have hb : ∀ i, l.getD i 0 < 4611686018427387904 := fun i => by rw [Hl.out]; exact lim_lt v hv' i
  rw [hX4]
  obtain ⟨E, HE⟩ : ∃ E, Hid (E = limN (v + 5 * (X / 4))) := ⟨_, rfl⟩
  have hE5 : E.length = 5 := by rw [HE.out]; exact limN_length _
  have C1' := fun w => plus_one l 5 w hl5 hb (by decide)
  have C2' := fun w => plus_one l (5 * (X / 4)) w hl5 hb (by omega)
  have e0 : val5 l = v := by rw [Hl.out, val5_limN]
  rw [e0, ← Hm.out] at C1'
  rw [e0, ← HE.out] at C2'
  have C1 : Hid (∀ w, _) := C1'
  have C2 : Hid (∀ w, _) := C2'
  rw [← HE.out, ← Hl.out]
  have VN : IntKind.u64.wrap (5 * ((X : Int) / 4)) = ((5 * (X / 4) : Nat) : Int) := by rw [u64_small _ (by omega) (by omega)]; omega
  have g4 := index_lim m hm5
  rw [hXm] at g4
  clear HE Hl HX Hm hb hv hv' hX4 C1' C2' e0
  generalize 5 * (X / 4) = F at *
  have A0 : Hid (Lim ((w.alloc (.cells (v64 l) 39)).alloc (.cells #[.int .u64 0, .int .u64 0, .int .u64 0, .int .u64 0, .int .u64 0] 39)) w.heap.size l) := (Lim.new w l _ rfl).alloc _
  have A1 : Hid (Lim ((w.alloc (.cells (v64 l) 39)).alloc (.cells #[.int .u64 0, .int .u64 0, .int .u64 0, .int .u64 0, .int .u64 0] 39)) (w.heap.size + 1) (List.replicate 5 0)) := Lim.new' (w.alloc (.cells (v64 l) 39)) (List.replicate 5 0) _ (w.heap.size + 1) (by simp) rfl
  have hB : Below w.heap.size w ((w.alloc (.cells (v64 l) 39)).alloc (.cells #[.int .u64 0, .int .u64 0, .int .u64 0, .int .u64 0, .int .u64 0] 39)) := (below_new w _).alloc (by simp) _
  go_enter Tryz.func27, Tryz.ntmps27
  go_wp2_with (with_reducible refine wpList_loadLim rfl _ rfl w.heap.size l ?hx A0.out hl5 ?_)
  try (case hx => rfl)
  refine (C1.out _).mono ?_
  rintro e w1 ⟨rfl, hb1⟩
  have D0 : Hid (Lim w1 w.heap.size l) := A0.out.on hb1
  have D1 : Hid (Lim w1 (w.heap.size + 1) (List.replicate 5 0)) := A1.out.on hb1
  have hB1 := below_step hB (Nat.le_refl _) hb1
  clear A0 A1 hB hb1 C1
  go_wp2_with (with_reducible refine wpList_loadLim rfl _ rfl w.heap.size l ?hx D0.out hl5 ?_)
  try (case hx => rfl)
  refine (C2.out _).mono ?_
  rintro e w2 ⟨rfl, hb2⟩
  have E1 : Hid (Lim w2 (w.heap.size + 1) (List.replicate 5 0)) := D1.out.on hb2
  have hB2 := below_step hB1 (Nat.le_refl _) hb2
  clear D0 D1 hB1 hb2 C2
  go_wp2_with (with_reducible refine wpList_storeLim rfl _ _ rfl (w.heap.size + 1) (List.replicate 5 0) E ?hx2 ?hy E1.out rfl hE5 ?_)
  try (case hx2 => rfl)
  try (case hy => rfl)
  exact bodyPost_lim rfl (w.heap.size + 1) E rfl rfl (E1.out.setRow E) hE5 ⟨rfl, below_setRow hB2 (by omega) _⟩
end Go.Proofs.YtglgppeloolbhaaGreatDoor

/- The program's times. -/
namespace Go.Proofs.YtglgppeloolbhaaGreatDoor
open Go.RowKit
set_option maxRecDepth 100000
set_option linter.unusedSimpArgs false

set_option maxRecDepth 100000 in
set_option maxHeartbeats 4000000 in
theorem times_any (a r : Nat) (w : World) (ha : ∀ i, limF a i ≤ 4294967295) (ha4 : limF a 4 ≤ 15) (hr : Clamped r) :
    Calls Tryz.prog 24 #[.agg (v64 (limN a)), .agg (v64 (limN r))] w fun e w' => e = .returned (.agg (v64 (limN (stepR (val5 (prodL a r)))))) ∧ Below w.heap.size w w' := by
  obtain ⟨V, HV⟩ : ∃ V, Hid (V = val5 (prodL a r)) := ⟨_, rfl⟩
  have hV : V < 2 ^ 161 := by rw [HV.out]; exact prod_lt a r ha ha4 hr
  have CF : Hid (∀ w, _) := fun w => folded_any V w (Nat.lt_trans hV (by decide))
  have CC' := fun w => carried_any (prodL a r) w (prodL_length a r) (prodL_small a r ha hr)
  rw [← HV.out] at CC'
  have HM : Hid (∀ i j m, i < 5 → midP (limF a) (limF r) i j m ≤ 7205759403792793600) := fun i j m hi => midP_le _ _ ha hr.1 i j m hi
  have HRs : Hid (∀ i, limF r i ≤ 268435455) := hr.1
  have HT : Hid (∀ i j, termT (limF a) (limF r) i j ≤ 1441151880758558720) := termT_le _ _ ha hr.1
  have HH : Hid (∀ i j, i < 5 → j < 4 → midP (limF a) (limF r) i (j + 1) (posT i j) = midP (limF a) (limF r) i j (posT i j) + termT (limF a) (limF r) i j) := fun i j hi hj => midP_here _ _ i j hi hj
  have HSet : Hid (∀ i j, i < 5 → j < 4 → (tabN 5 (midP (limF a) (limF r) i j)).set (posT i j) (midP (limF a) (limF r) i (j + 1) (posT i j)) = tabN 5 (midP (limF a) (limF r) i (j + 1))) := fun i j hi hj => midP_set _ _ i j hi hj
  rw [← HV.out]
  unfold prodL at CC'
  unfold limN at *
  obtain ⟨A, HA⟩ : ∃ A, Hid (A = limF a) := ⟨_, rfl⟩
  obtain ⟨R, HR⟩ : ∃ R, Hid (R = limF r) := ⟨_, rfl⟩
  rw [← HA.out, ← HR.out] at HM HT HH HSet CC'
  rw [← HR.out] at HRs
  rw [← HA.out, ← HR.out]
  obtain ⟨E, HE⟩ : ∃ E, Hid (E = tabN 5 (limF (stepR V))) := ⟨_, rfl⟩
  obtain ⟨S, HS⟩ : ∃ S, Hid (S = tabN 5 (limF V)) := ⟨_, rfl⟩
  have hE5 : E.length = 5 := by rw [HE.out]; exact tabN_length _ _
  rw [← HE.out] at CF
  rw [← HE.out]
  rw [← HS.out] at CF CC'
  have CC : Hid (∀ w, _) := CC'
  clear CC' HE HS HV hV HA HR ha ha4 hr
  generalize hh : w.heap.size = h at *
  have B0 : Hid (Lim _ h (tabN 5 A)) := ((((Lim.new' w (tabN 5 A) _ h hh rfl).alloc (.cells (v64 (tabN 5 R)) 39)).alloc (.cells (v64 (List.replicate 5 0)) 39)).alloc (.cells (v64 (List.replicate 5 0)) 39))
  have B1 : Hid (Lim _ (h + 1) (tabN 5 R)) := ((Lim.new' (w.alloc (.cells (v64 (tabN 5 A)) 39)) (tabN 5 R) _ (h + 1) (by simp [hh]) rfl).alloc (.cells (v64 (List.replicate 5 0)) 39)).alloc (.cells (v64 (List.replicate 5 0)) 39)
  have B2 : Hid (Lim _ (h + 2) (List.replicate 5 0)) := (Lim.new' ((w.alloc (.cells (v64 (tabN 5 A)) 39)).alloc (.cells (v64 (tabN 5 R)) 39)) (List.replicate 5 0) _ (h + 2) (by simp [hh]) rfl).alloc (.cells (v64 (List.replicate 5 0)) 39)
  have B3 : Hid (Lim _ (h + 3) (List.replicate 5 0)) := Lim.new' (((w.alloc (.cells (v64 (tabN 5 A)) 39)).alloc (.cells (v64 (tabN 5 R)) 39)).alloc (.cells (v64 (List.replicate 5 0)) 39)) (List.replicate 5 0) _ (h + 3) (by simp [hh]) rfl
  have BB : Below h w ((((w.alloc (.cells (v64 (tabN 5 A)) 39)).alloc (.cells (v64 (tabN 5 R)) 39)).alloc (.cells (v64 (List.replicate 5 0)) 39)).alloc (.cells (v64 (List.replicate 5 0)) 39)) := by
    rw [← hh]
    exact (((below_new w _).alloc (by simp) _).alloc (by simp; omega) _).alloc (by simp; omega) _
  go_enter Tryz.func24, Tryz.ntmps24
  go_wp2_with fail
  go_loopw [8] (fun i wr => ∃ k : Nat, k ≤ 5 ∧ i = .int .i64 k ∧ Hid (Lim wr h (tabN 5 A)) ∧ Hid (Lim wr (h + 1) (tabN 5 R)) ∧ Hid (Lim wr (h + 2) (List.replicate 5 0)) ∧ Hid (Lim wr (h + 3) (tabN 5 (rowP A R k))) ∧ Below h w wr) (fun i _ => 5 - (intOf i).toNat)
  case atStart => exact ⟨0, Nat.zero_le _, rfl, B0, B1, B2, B3, BB⟩
  case round =>
    clear B0 B1 B2 B3 BB
    obtain ⟨i, hi5, rfl, A0, A1, A2, A3, hbl⟩ := hrel
    by_cases hi : i < 5
    · have kA : (i : Int) < 5 := by omega
      rw [← midP_zero] at A3
      go_wp2_with fail
      go_loopw [11] (fun j wr => ∃ k : Nat, k ≤ 4 ∧ j = .int .i64 k ∧ Hid (Lim wr h (tabN 5 A)) ∧ Hid (Lim wr (h + 1) (tabN 5 R)) ∧ Hid (Lim wr (h + 2) (List.replicate 5 0)) ∧ Hid (Lim wr (h + 3) (tabN 5 (midP A R i k))) ∧ Below h w wr) (fun j _ => 4 - (intOf j).toNat)
      case atStart => exact ⟨0, Nat.zero_le _, rfl, A0, A1, A2, A3, hbl⟩
      case round =>
        clear A0 A1 A2 A3 hbl
        obtain ⟨j, hj4, rfl, A0, A1, A2, A3, hbl⟩ := hrel
        by_cases hj : j < 4
        · by_cases hc : i + j < 4
          · have hor : i + j < 4 ∨ j = 0 := Or.inl hc
            have hp : posT i j = i + j := by unfold posT; rw [if_pos hor]
            have ht : termT A R i j = A i * R j := by unfold termT; rw [if_pos hor]
            have hp5 : posT i j < 5 := posT_lt ⟨i, hi⟩ ⟨j, hj⟩
            have cP := A3.out.cell (posT i j) (by rw [tabN_length]; exact hp5)
            rw [tabN_getD _ _ _ hp5] at cP
            have fP := A3.out.free (posT i j)
            have cA := A0.out.cell i (by rw [tabN_length]; exact hi)
            rw [tabN_getD _ _ _ hi] at cA
            have cR := A1.out.cell j (by rw [tabN_length]; omega)
            rw [tabN_getD _ _ _ (by omega)] at cR
            have lP := HM.out i j (posT i j) hi
            have hst := HH.out i j hi hj
            have lT := HT.out i j
            obtain ⟨Z, hZ⟩ : ∃ Z, Z = midP A R i (j + 1) (posT i j) := ⟨_, rfl⟩
            have hset := HSet.out i j hi hj
            rw [← hZ] at hset hst
            obtain ⟨w1, hw1⟩ : ∃ v, Hid (v = wr.setCell ⟨h + 3, posT i j, none⟩ (.int .u64 (Z : Int))) := ⟨_, rfl⟩
            have N0 : Hid (Lim w1 h (tabN 5 A)) := by rw [hw1.out]; exact A0.out.other _ (by simp) _
            have N1 : Hid (Lim w1 (h + 1) (tabN 5 R)) := by rw [hw1.out]; exact A1.out.other _ (by simp) _
            have N2 : Hid (Lim w1 (h + 2) (List.replicate 5 0)) := by rw [hw1.out]; exact A2.out.other _ (by simp) _
            have N3 : Hid (Lim w1 (h + 3) (tabN 5 (midP A R i (j + 1)))) := by rw [hw1.out, ← hset]; exact A3.out.set _ Z
            have NB : Below h w w1 := by rw [hw1.out]; exact hbl.setCell (p := ⟨h + 3, posT i j, none⟩) (by simp) _
            have SS : Hid ((wr.setCell ⟨h + 3, posT i j, none⟩ (.int .u64 (Z : Int))).cell? ⟨h, i, none⟩ = some (.int .u64 ((A i : Nat) : Int)) ∧ (wr.setCell ⟨h + 3, posT i j, none⟩ (.int .u64 (Z : Int))).cell? ⟨h + 1, j, none⟩ = some (.int .u64 ((R j : Nat) : Int))) :=
              ⟨by rw [World.cell?_setCell_far _ _ _ _ (by simp)]; exact cA, by rw [World.cell?_setCell_far _ _ _ _ (by simp)]; exact cR⟩
            clear hset A0 A1 A2 A3 hbl hZ
            rw [ht] at hst lT
            rw [hp] at *
            generalize midP A R i j (i + j) = X at *
            generalize A i = a0 at *
            generalize R j = r0 at *
            have VM : IntKind.u64.wrap ((a0 : Int) * (r0 : Int)) = ((a0 * r0 : Nat) : Int) := by rw [← Int.natCast_mul, u64_small _ (by omega) (by omega)]
            generalize a0 * r0 = T at *
            have VN : Hid (IntKind.u64.wrap ((X : Int) + (T : Int)) = (Z : Int)) := by show _ = _; rw [u64_small _ (by omega) (by omega)]; omega
            have VI : IntKind.i64.wrap ((i : Int) + (j : Int)) = (i : Int) + (j : Int) := i64_small _ (by omega) (by omega)
            have t1 : ((i : Int) + (j : Int)).toNat = i + j := by omega
            have t2 : (0 : Int) ≤ (i : Int) + (j : Int) := by omega
            have t3 : (i : Int) + (j : Int) < 5 := by omega
            have t4 : (i : Int) < 5 := by omega
            have t5 : (j : Int) < 4 := by omega
            have t6 : (j : Int) < 5 := by omega
            clear hst lT lP hor hp ht
            have g1 : decide ((i : Int) + (j : Int) < 4) = true := by simp; omega
            go_wp2_with fail
            refine wp_region_noPanic ?_
            refine wp_region_held_drew (S := fun w' => w'.cell? ⟨h, i, none⟩ = some (.int .u64 (a0 : Int)) ∧ w'.cell? ⟨h + 1, j, none⟩ = some (.int .u64 (r0 : Int))) (by kernel_rfl) (by first | exact trivial | assumption | exact ⟨by assumption, by assumption⟩) (fun hHeld => ?_)
            refine take_at (i := 0) (v := ?_) rfl rfl (by kernel_rfl) (by kernel_rfl) (by kernel_rfl) (fun _ _ _ h => h) (Or.inl ⟨by rfl, ?_⟩) (by assumption) ?_
            rotate_left
            · intro w hSw; (try dsimp only at hSw); go_simp; try with_reducible rfl
            try simp only [Act.put, List.setIfInBounds_toArray, List.set_cons_zero, List.set_cons_succ]
            refine take_at (i := 1) (v := ?_) rfl rfl (by kernel_rfl) (by kernel_rfl) (by kernel_rfl) (fun _ _ _ h => h) (Or.inl ⟨by rfl, ?_⟩) (by assumption) ?_
            rotate_left
            · intro w hSw; (try dsimp only at hSw); go_simp; try with_reducible rfl
            try simp only [Act.put, List.setIfInBounds_toArray, List.set_cons_zero, List.set_cons_succ]
            refine take_at (i := 2) (v := ?_) rfl rfl (by kernel_rfl) (by kernel_rfl) (by kernel_rfl) (fun _ _ _ h => h) (Or.inl ⟨by rfl, ?_⟩) (by assumption) ?_
            rotate_left
            · intro w hSw; (try dsimp only at hSw); go_simp; try with_reducible rfl
            try simp only [Act.put, List.setIfInBounds_toArray, List.set_cons_zero, List.set_cons_succ]
            refine take_at (i := 3) (v := ?_) rfl rfl (by kernel_rfl) (by kernel_rfl) (by kernel_rfl) (fun _ _ _ h => h) (Or.inl ⟨by rfl, ?_⟩) (by assumption) ?_
            rotate_left
            · intro w hSw; (try dsimp only at hSw); go_simp; try with_reducible rfl
            try simp only [Act.put, List.setIfInBounds_toArray, List.set_cons_zero, List.set_cons_succ]
            refine take_at (i := 5) (v := ?_) rfl rfl (by kernel_rfl) (by kernel_rfl) (by kernel_rfl) (fun _ _ _ h => h) (Or.inl ⟨by rfl, ?_⟩) (by assumption) ?_
            rotate_left
            · intro w hSw; (try dsimp only at hSw); go_simp; try with_reducible rfl
            try simp only [Act.put, List.setIfInBounds_toArray, List.set_cons_zero, List.set_cons_succ]
            refine take_at (i := 6) (v := ?_) rfl rfl (by kernel_rfl) (by kernel_rfl) (by kernel_rfl) (fun _ _ _ h => h) (Or.inl ⟨by rfl, ?_⟩) (by assumption) ?_
            rotate_left
            · intro w hSw; (try dsimp only at hSw); go_simp; try with_reducible rfl
            try simp only [Act.put, List.setIfInBounds_toArray, List.set_cons_zero, List.set_cons_succ]
            refine take_at (i := 7) (v := ?_) rfl rfl (by kernel_rfl) (by kernel_rfl) (by kernel_rfl) (fun _ _ _ h => h) (Or.inl ⟨by rfl, ?_⟩) (by assumption) ?_
            rotate_left
            · intro w hSw; (try dsimp only at hSw); go_simp; try with_reducible rfl
            try simp only [Act.put, List.setIfInBounds_toArray, List.set_cons_zero, List.set_cons_succ]
            refine take_at (i := 8) (v := ?_) rfl rfl (by kernel_rfl) (by kernel_rfl) (by kernel_rfl) (fun _ _ _ h => h) (Or.inl ⟨by rfl, ?_⟩) (by assumption) ?_
            rotate_left
            · intro w hSw; (try dsimp only at hSw); go_simp; try with_reducible rfl
            try simp only [Act.put, List.setIfInBounds_toArray, List.set_cons_zero, List.set_cons_succ]
            refine take_at (i := 9) (v := ?_) rfl rfl (by kernel_rfl) (by kernel_rfl) (by kernel_rfl) (fun _ _ _ h => h) (Or.inl ⟨by rfl, ?_⟩) (by assumption) ?_
            rotate_left
            · intro w hSw; (try dsimp only at hSw); go_simp; try with_reducible rfl
            try simp only [Act.put, List.setIfInBounds_toArray, List.set_cons_zero, List.set_cons_succ]
            refine take_at (i := 10) (v := ?_) rfl rfl (by kernel_rfl) (by kernel_rfl) (by kernel_rfl) (fun _ _ _ h => h) (Or.inl ⟨by rfl, ?_⟩) (by assumption) ?_
            rotate_left
            · intro w hSw; (try dsimp only at hSw); go_simp; try with_reducible rfl
            try simp only [Act.put, List.setIfInBounds_toArray, List.set_cons_zero, List.set_cons_succ]
            refine take_at (i := 11) (v := ?_) rfl rfl (by kernel_rfl) (by kernel_rfl) (by kernel_rfl) (fun _ _ _ h => h) (Or.inl ⟨by rfl, ?_⟩) (by assumption) ?_
            rotate_left
            · intro w hSw; (try dsimp only at hSw); go_simp; try with_reducible rfl
            try simp only [Act.put, List.setIfInBounds_toArray, List.set_cons_zero, List.set_cons_succ]
            refine wpAnyH_ready (rs := [4]) (by kernel_rfl) (by simp) ?_
            refine AllReadyH.cons rfl (fun K hK => ?_) AllReadyH.nil
            go_simp
            refine hK.out _ _ (by assumption) (fun hHeld => ?_)
            clear hK K
            refine take_at (i := 12) (v := ?_) rfl rfl (by kernel_rfl) (by kernel_rfl) (by kernel_rfl) (fun _ _ _ h => h) (Or.inl ⟨by rfl, ?_⟩) (by assumption) ?_
            rotate_left
            · intro w hSw; (try dsimp only at hSw); go_simp; try with_reducible rfl
            try simp only [Act.put, List.setIfInBounds_toArray, List.set_cons_zero, List.set_cons_succ]
            refine take_at (i := 13) (v := ?_) rfl rfl (by kernel_rfl) (by kernel_rfl) (by kernel_rfl) (fun _ _ _ h => h) (Or.inl ⟨by rfl, ?_⟩) (by assumption) ?_
            rotate_left
            · intro w hSw; (try dsimp only at hSw); go_simp; try with_reducible rfl
            try simp only [Act.put, List.setIfInBounds_toArray, List.set_cons_zero, List.set_cons_succ]
            refine wpAnyH_ready (rs := [14]) (by kernel_rfl) (by simp) ?_
            refine AllReadyH.cons rfl (fun K hK => ?_) AllReadyH.nil
            go_simp
            rw [VN.out]
            refine hK.out _ _ SS.out (fun hHeld => ?_)
            clear hK K
            refine wpAnyH_done (by kernel_rfl) (NoPanic.normal ?_) _
            rw [← hw1.out]
            clear cA cR cP fP VN SS hw1
            go_wp2
            go_roundw
            case rel => exact ⟨j + 1, by omega, by go_num, N0, N1, N2, N3, NB.drew⟩
            case measure => simp [intOf]; omega
          · by_cases hj0 : j = 0
            · have hor : i + j < 4 ∨ j = 0 := Or.inr hj0
              have hp : posT i j = i + j := by unfold posT; rw [if_pos hor]
              have ht : termT A R i j = A i * R j := by unfold termT; rw [if_pos hor]
              have hp5 : posT i j < 5 := posT_lt ⟨i, hi⟩ ⟨j, hj⟩
              have cP := A3.out.cell (posT i j) (by rw [tabN_length]; exact hp5)
              rw [tabN_getD _ _ _ hp5] at cP
              have fP := A3.out.free (posT i j)
              have cA := A0.out.cell i (by rw [tabN_length]; exact hi)
              rw [tabN_getD _ _ _ hi] at cA
              have cR := A1.out.cell j (by rw [tabN_length]; omega)
              rw [tabN_getD _ _ _ (by omega)] at cR
              have lP := HM.out i j (posT i j) hi
              have hst := HH.out i j hi hj
              have lT := HT.out i j
              obtain ⟨Z, hZ⟩ : ∃ Z, Z = midP A R i (j + 1) (posT i j) := ⟨_, rfl⟩
              have hset := HSet.out i j hi hj
              rw [← hZ] at hset hst
              obtain ⟨w1, hw1⟩ : ∃ v, Hid (v = wr.setCell ⟨h + 3, posT i j, none⟩ (.int .u64 (Z : Int))) := ⟨_, rfl⟩
              have N0 : Hid (Lim w1 h (tabN 5 A)) := by rw [hw1.out]; exact A0.out.other _ (by simp) _
              have N1 : Hid (Lim w1 (h + 1) (tabN 5 R)) := by rw [hw1.out]; exact A1.out.other _ (by simp) _
              have N2 : Hid (Lim w1 (h + 2) (List.replicate 5 0)) := by rw [hw1.out]; exact A2.out.other _ (by simp) _
              have N3 : Hid (Lim w1 (h + 3) (tabN 5 (midP A R i (j + 1)))) := by rw [hw1.out, ← hset]; exact A3.out.set _ Z
              have NB : Below h w w1 := by rw [hw1.out]; exact hbl.setCell (p := ⟨h + 3, posT i j, none⟩) (by simp) _
              have SS : Hid ((wr.setCell ⟨h + 3, posT i j, none⟩ (.int .u64 (Z : Int))).cell? ⟨h, i, none⟩ = some (.int .u64 ((A i : Nat) : Int)) ∧ (wr.setCell ⟨h + 3, posT i j, none⟩ (.int .u64 (Z : Int))).cell? ⟨h + 1, j, none⟩ = some (.int .u64 ((R j : Nat) : Int))) :=
                ⟨by rw [World.cell?_setCell_far _ _ _ _ (by simp)]; exact cA, by rw [World.cell?_setCell_far _ _ _ _ (by simp)]; exact cR⟩
              clear hset A0 A1 A2 A3 hbl hZ
              rw [ht] at hst lT
              rw [hp] at *
              generalize midP A R i j (i + j) = X at *
              generalize A i = a0 at *
              generalize R j = r0 at *
              have VM : IntKind.u64.wrap ((a0 : Int) * (r0 : Int)) = ((a0 * r0 : Nat) : Int) := by rw [← Int.natCast_mul, u64_small _ (by omega) (by omega)]
              generalize a0 * r0 = T at *
              have VN : Hid (IntKind.u64.wrap ((X : Int) + (T : Int)) = (Z : Int)) := by show _ = _; rw [u64_small _ (by omega) (by omega)]; omega
              have VI : IntKind.i64.wrap ((i : Int) + (j : Int)) = (i : Int) + (j : Int) := i64_small _ (by omega) (by omega)
              have t1 : ((i : Int) + (j : Int)).toNat = i + j := by omega
              have t2 : (0 : Int) ≤ (i : Int) + (j : Int) := by omega
              have t3 : (i : Int) + (j : Int) < 5 := by omega
              have t4 : (i : Int) < 5 := by omega
              have t5 : (j : Int) < 4 := by omega
              have t6 : (j : Int) < 5 := by omega
              clear hst lT lP hor hp ht
              have g1 : decide ((i : Int) + (j : Int) < 4) = false := by simp; omega
              have g2 : ((j : Int) == 0) = true := by simp; exact hj0
              clear hj0 hc
              go_wp2_with fail
              refine wp_region_noPanic ?_
              refine wp_region_held_drew (S := fun w' => w'.cell? ⟨h, i, none⟩ = some (.int .u64 (a0 : Int)) ∧ w'.cell? ⟨h + 1, j, none⟩ = some (.int .u64 (r0 : Int))) (by kernel_rfl) (by first | exact trivial | assumption | exact ⟨by assumption, by assumption⟩) (fun hHeld => ?_)
              refine take_at (i := 0) (v := ?_) rfl rfl (by kernel_rfl) (by kernel_rfl) (by kernel_rfl) (fun _ _ _ h => h) (Or.inl ⟨by rfl, ?_⟩) (by assumption) ?_
              rotate_left
              · intro w hSw; (try dsimp only at hSw); go_simp; try with_reducible rfl
              try simp only [Act.put, List.setIfInBounds_toArray, List.set_cons_zero, List.set_cons_succ]
              refine take_at (i := 1) (v := ?_) rfl rfl (by kernel_rfl) (by kernel_rfl) (by kernel_rfl) (fun _ _ _ h => h) (Or.inl ⟨by rfl, ?_⟩) (by assumption) ?_
              rotate_left
              · intro w hSw; (try dsimp only at hSw); go_simp; try with_reducible rfl
              try simp only [Act.put, List.setIfInBounds_toArray, List.set_cons_zero, List.set_cons_succ]
              refine take_at (i := 2) (v := ?_) rfl rfl (by kernel_rfl) (by kernel_rfl) (by kernel_rfl) (fun _ _ _ h => h) (Or.inl ⟨by rfl, ?_⟩) (by assumption) ?_
              rotate_left
              · intro w hSw; (try dsimp only at hSw); go_simp; try with_reducible rfl
              try simp only [Act.put, List.setIfInBounds_toArray, List.set_cons_zero, List.set_cons_succ]
              refine take_at (i := 3) (v := ?_) rfl rfl (by kernel_rfl) (by kernel_rfl) (by kernel_rfl) (fun _ _ _ h => h) (Or.inl ⟨by rfl, ?_⟩) (by assumption) ?_
              rotate_left
              · intro w hSw; (try dsimp only at hSw); go_simp; try with_reducible rfl
              try simp only [Act.put, List.setIfInBounds_toArray, List.set_cons_zero, List.set_cons_succ]
              refine take_at (i := 5) (v := ?_) rfl rfl (by kernel_rfl) (by kernel_rfl) (by kernel_rfl) (fun _ _ _ h => h) (Or.inl ⟨by rfl, ?_⟩) (by assumption) ?_
              rotate_left
              · intro w hSw; (try dsimp only at hSw); go_simp; try with_reducible rfl
              try simp only [Act.put, List.setIfInBounds_toArray, List.set_cons_zero, List.set_cons_succ]
              refine take_at (i := 6) (v := ?_) rfl rfl (by kernel_rfl) (by kernel_rfl) (by kernel_rfl) (fun _ _ _ h => h) (Or.inl ⟨by rfl, ?_⟩) (by assumption) ?_
              rotate_left
              · intro w hSw; (try dsimp only at hSw); go_simp; try with_reducible rfl
              try simp only [Act.put, List.setIfInBounds_toArray, List.set_cons_zero, List.set_cons_succ]
              refine take_at (i := 7) (v := ?_) rfl rfl (by kernel_rfl) (by kernel_rfl) (by kernel_rfl) (fun _ _ _ h => h) (Or.inl ⟨by rfl, ?_⟩) (by assumption) ?_
              rotate_left
              · intro w hSw; (try dsimp only at hSw); go_simp; try with_reducible rfl
              try simp only [Act.put, List.setIfInBounds_toArray, List.set_cons_zero, List.set_cons_succ]
              refine take_at (i := 8) (v := ?_) rfl rfl (by kernel_rfl) (by kernel_rfl) (by kernel_rfl) (fun _ _ _ h => h) (Or.inl ⟨by rfl, ?_⟩) (by assumption) ?_
              rotate_left
              · intro w hSw; (try dsimp only at hSw); go_simp; try with_reducible rfl
              try simp only [Act.put, List.setIfInBounds_toArray, List.set_cons_zero, List.set_cons_succ]
              refine take_at (i := 9) (v := ?_) rfl rfl (by kernel_rfl) (by kernel_rfl) (by kernel_rfl) (fun _ _ _ h => h) (Or.inl ⟨by rfl, ?_⟩) (by assumption) ?_
              rotate_left
              · intro w hSw; (try dsimp only at hSw); go_simp; try with_reducible rfl
              try simp only [Act.put, List.setIfInBounds_toArray, List.set_cons_zero, List.set_cons_succ]
              refine take_at (i := 10) (v := ?_) rfl rfl (by kernel_rfl) (by kernel_rfl) (by kernel_rfl) (fun _ _ _ h => h) (Or.inl ⟨by rfl, ?_⟩) (by assumption) ?_
              rotate_left
              · intro w hSw; (try dsimp only at hSw); go_simp; try with_reducible rfl
              try simp only [Act.put, List.setIfInBounds_toArray, List.set_cons_zero, List.set_cons_succ]
              refine take_at (i := 11) (v := ?_) rfl rfl (by kernel_rfl) (by kernel_rfl) (by kernel_rfl) (fun _ _ _ h => h) (Or.inl ⟨by rfl, ?_⟩) (by assumption) ?_
              rotate_left
              · intro w hSw; (try dsimp only at hSw); go_simp; try with_reducible rfl
              try simp only [Act.put, List.setIfInBounds_toArray, List.set_cons_zero, List.set_cons_succ]
              refine wpAnyH_ready (rs := [4]) (by kernel_rfl) (by simp) ?_
              refine AllReadyH.cons rfl (fun K hK => ?_) AllReadyH.nil
              go_simp
              refine hK.out _ _ (by assumption) (fun hHeld => ?_)
              clear hK K
              refine take_at (i := 12) (v := ?_) rfl rfl (by kernel_rfl) (by kernel_rfl) (by kernel_rfl) (fun _ _ _ h => h) (Or.inl ⟨by rfl, ?_⟩) (by assumption) ?_
              rotate_left
              · intro w hSw; (try dsimp only at hSw); go_simp; try with_reducible rfl
              try simp only [Act.put, List.setIfInBounds_toArray, List.set_cons_zero, List.set_cons_succ]
              refine take_at (i := 13) (v := ?_) rfl rfl (by kernel_rfl) (by kernel_rfl) (by kernel_rfl) (fun _ _ _ h => h) (Or.inl ⟨by rfl, ?_⟩) (by assumption) ?_
              rotate_left
              · intro w hSw; (try dsimp only at hSw); go_simp; try with_reducible rfl
              try simp only [Act.put, List.setIfInBounds_toArray, List.set_cons_zero, List.set_cons_succ]
              refine wpAnyH_ready (rs := [14]) (by kernel_rfl) (by simp) ?_
              refine AllReadyH.cons rfl (fun K hK => ?_) AllReadyH.nil
              go_simp
              rw [VN.out]
              refine hK.out _ _ SS.out (fun hHeld => ?_)
              clear hK K
              refine wpAnyH_done (by kernel_rfl) (NoPanic.normal ?_) _
              rw [← hw1.out]
              clear cA cR cP fP VN SS hw1
              go_wp2
              go_roundw
              case rel => exact ⟨j + 1, by omega, by go_num, N0, N1, N2, N3, NB.drew⟩
              case measure => simp [intOf]; omega
            · have hne := hj0
              have hnor : ¬ (i + j < 4 ∨ j = 0) := by omega
              have hp : posT i j = i + j - 4 := by unfold posT; rw [if_neg hnor]
              have ht : termT A R i j = A i * (R j / 4 * 5) := by unfold termT; rw [if_neg hnor]
              have hp5 : posT i j < 5 := posT_lt ⟨i, hi⟩ ⟨j, hj⟩
              have cP := A3.out.cell (posT i j) (by rw [tabN_length]; exact hp5)
              rw [tabN_getD _ _ _ hp5] at cP
              have fP := A3.out.free (posT i j)
              have cA := A0.out.cell i (by rw [tabN_length]; exact hi)
              rw [tabN_getD _ _ _ hi] at cA
              have cR := A1.out.cell j (by rw [tabN_length]; omega)
              rw [tabN_getD _ _ _ (by omega)] at cR
              have lP := HM.out i j (posT i j) hi
              have hst := HH.out i j hi hj
              have lT := HT.out i j
              obtain ⟨Z, hZ⟩ : ∃ Z, Z = midP A R i (j + 1) (posT i j) := ⟨_, rfl⟩
              have hset := HSet.out i j hi hj
              rw [← hZ] at hset hst
              obtain ⟨w1, hw1⟩ : ∃ v, Hid (v = wr.setCell ⟨h + 3, posT i j, none⟩ (.int .u64 (Z : Int))) := ⟨_, rfl⟩
              have N0 : Hid (Lim w1 h (tabN 5 A)) := by rw [hw1.out]; exact A0.out.other _ (by simp) _
              have N1 : Hid (Lim w1 (h + 1) (tabN 5 R)) := by rw [hw1.out]; exact A1.out.other _ (by simp) _
              have N2 : Hid (Lim w1 (h + 2) (List.replicate 5 0)) := by rw [hw1.out]; exact A2.out.other _ (by simp) _
              have N3 : Hid (Lim w1 (h + 3) (tabN 5 (midP A R i (j + 1)))) := by rw [hw1.out, ← hset]; exact A3.out.set _ Z
              have NB : Below h w w1 := by rw [hw1.out]; exact hbl.setCell (p := ⟨h + 3, posT i j, none⟩) (by simp) _
              have SS : Hid ((wr.setCell ⟨h + 3, posT i j, none⟩ (.int .u64 (Z : Int))).cell? ⟨h, i, none⟩ = some (.int .u64 ((A i : Nat) : Int)) ∧ (wr.setCell ⟨h + 3, posT i j, none⟩ (.int .u64 (Z : Int))).cell? ⟨h + 1, j, none⟩ = some (.int .u64 ((R j : Nat) : Int))) :=
                ⟨by rw [World.cell?_setCell_far _ _ _ _ (by simp)]; exact cA, by rw [World.cell?_setCell_far _ _ _ _ (by simp)]; exact cR⟩
              clear hset A0 A1 A2 A3 hbl hZ
              rw [ht] at hst lT
              rw [hp] at *
              generalize midP A R i j (i + j - 4) = X at *
              have lR := HRs.out j
              generalize A i = a0 at *
              generalize R j = r0 at *
              have V1 : IntKind.u64.wrap ((r0 : Int) / 4) = ((r0 / 4 : Nat) : Int) := by rw [u64_small _ (by omega) (by omega)]; omega
              have V2 : IntKind.u64.wrap (((r0 / 4 : Nat) : Int) * 5) = ((r0 / 4 * 5 : Nat) : Int) := by rw [u64_small _ (by omega) (by omega)]; omega
              have V3 : IntKind.u64.wrap ((a0 : Int) * ((r0 / 4 * 5 : Nat) : Int)) = ((a0 * (r0 / 4 * 5) : Nat) : Int) := by rw [← Int.natCast_mul, u64_small _ (by omega) (by omega)]
              generalize a0 * (r0 / 4 * 5) = T at *
              generalize r0 / 4 * 5 = F at *
              generalize hQ : r0 / 4 = Q at *
              have VN : Hid (IntKind.u64.wrap ((X : Int) + (T : Int)) = (Z : Int)) := by show _ = _; rw [u64_small _ (by omega) (by omega)]; omega
              have VI : IntKind.i64.wrap ((i : Int) + (j : Int)) = (i : Int) + (j : Int) := i64_small _ (by omega) (by omega)
              have VJ : IntKind.i64.wrap ((i : Int) + (j : Int) - 4) = (i : Int) + (j : Int) - 4 := i64_small _ (by omega) (by omega)
              have t1 : ((i : Int) + (j : Int) - 4).toNat = i + j - 4 := by omega
              have t2 : (0 : Int) ≤ (i : Int) + (j : Int) - 4 := by omega
              have t3 : (i : Int) + (j : Int) - 4 < 5 := by omega
              have t7 : (4 : Int) ≤ (i : Int) + (j : Int) := by omega
              have t4 : (i : Int) < 5 := by omega
              have t5 : (j : Int) < 4 := by omega
              have t6 : (j : Int) < 5 := by omega
              have g1 : decide ((i : Int) + (j : Int) < 4) = false := by simp; omega
              have g2 : ((j : Int) == 0) = false := by rw [beq_eq_false_iff_ne]; omega
              clear hst lT lP hnor hp ht hQ hj0 hne hc lR
              go_wp2_with fail
              refine wp_region_noPanic ?_
              refine wp_region_held_drew (S := fun w' => w'.cell? ⟨h, i, none⟩ = some (.int .u64 (a0 : Int)) ∧ w'.cell? ⟨h + 1, j, none⟩ = some (.int .u64 (r0 : Int))) (by kernel_rfl) (by first | exact trivial | assumption | exact ⟨by assumption, by assumption⟩) (fun hHeld => ?_)
              refine take_at (i := 0) (v := ?_) rfl rfl (by kernel_rfl) (by kernel_rfl) (by kernel_rfl) (fun _ _ _ h => h) (Or.inl ⟨by rfl, ?_⟩) (by assumption) ?_
              rotate_left
              · intro w hSw; (try dsimp only at hSw); go_simp; try with_reducible rfl
              try simp only [Act.put, List.setIfInBounds_toArray, List.set_cons_zero, List.set_cons_succ]
              refine take_at (i := 1) (v := ?_) rfl rfl (by kernel_rfl) (by kernel_rfl) (by kernel_rfl) (fun _ _ _ h => h) (Or.inl ⟨by rfl, ?_⟩) (by assumption) ?_
              rotate_left
              · intro w hSw; (try dsimp only at hSw); go_simp; try with_reducible rfl
              try simp only [Act.put, List.setIfInBounds_toArray, List.set_cons_zero, List.set_cons_succ]
              refine take_at (i := 2) (v := ?_) rfl rfl (by kernel_rfl) (by kernel_rfl) (by kernel_rfl) (fun _ _ _ h => h) (Or.inl ⟨by rfl, ?_⟩) (by assumption) ?_
              rotate_left
              · intro w hSw; (try dsimp only at hSw); go_simp; try with_reducible rfl
              try simp only [Act.put, List.setIfInBounds_toArray, List.set_cons_zero, List.set_cons_succ]
              refine take_at (i := 3) (v := ?_) rfl rfl (by kernel_rfl) (by kernel_rfl) (by kernel_rfl) (fun _ _ _ h => h) (Or.inl ⟨by rfl, ?_⟩) (by assumption) ?_
              rotate_left
              · intro w hSw; (try dsimp only at hSw); go_simp; try with_reducible rfl
              try simp only [Act.put, List.setIfInBounds_toArray, List.set_cons_zero, List.set_cons_succ]
              refine take_at (i := 4) (v := ?_) rfl rfl (by kernel_rfl) (by kernel_rfl) (by kernel_rfl) (fun _ _ _ h => h) (Or.inl ⟨by rfl, ?_⟩) (by assumption) ?_
              rotate_left
              · intro w hSw; (try dsimp only at hSw); go_simp; try with_reducible rfl
              try simp only [Act.put, List.setIfInBounds_toArray, List.set_cons_zero, List.set_cons_succ]
              refine take_at (i := 6) (v := ?_) rfl rfl (by kernel_rfl) (by kernel_rfl) (by kernel_rfl) (fun _ _ _ h => h) (Or.inl ⟨by rfl, ?_⟩) (by assumption) ?_
              rotate_left
              · intro w hSw; (try dsimp only at hSw); go_simp; try with_reducible rfl
              try simp only [Act.put, List.setIfInBounds_toArray, List.set_cons_zero, List.set_cons_succ]
              refine take_at (i := 7) (v := ?_) rfl rfl (by kernel_rfl) (by kernel_rfl) (by kernel_rfl) (fun _ _ _ h => h) (Or.inl ⟨by rfl, ?_⟩) (by assumption) ?_
              rotate_left
              · intro w hSw; (try dsimp only at hSw); go_simp; try with_reducible rfl
              try simp only [Act.put, List.setIfInBounds_toArray, List.set_cons_zero, List.set_cons_succ]
              refine take_at (i := 8) (v := ?_) rfl rfl (by kernel_rfl) (by kernel_rfl) (by kernel_rfl) (fun _ _ _ h => h) (Or.inl ⟨by rfl, ?_⟩) (by assumption) ?_
              rotate_left
              · intro w hSw; (try dsimp only at hSw); go_simp; try with_reducible rfl
              try simp only [Act.put, List.setIfInBounds_toArray, List.set_cons_zero, List.set_cons_succ]
              refine take_at (i := 9) (v := ?_) rfl rfl (by kernel_rfl) (by kernel_rfl) (by kernel_rfl) (fun _ _ _ h => h) (Or.inl ⟨by rfl, ?_⟩) (by assumption) ?_
              rotate_left
              · intro w hSw; (try dsimp only at hSw); go_simp; try with_reducible rfl
              try simp only [Act.put, List.setIfInBounds_toArray, List.set_cons_zero, List.set_cons_succ]
              refine take_at (i := 10) (v := ?_) rfl rfl (by kernel_rfl) (by kernel_rfl) (by kernel_rfl) (fun _ _ _ h => h) (Or.inl ⟨by rfl, ?_⟩) (by assumption) ?_
              rotate_left
              · intro w hSw; (try dsimp only at hSw); go_simp; try with_reducible rfl
              try simp only [Act.put, List.setIfInBounds_toArray, List.set_cons_zero, List.set_cons_succ]
              refine take_at (i := 11) (v := ?_) rfl rfl (by kernel_rfl) (by kernel_rfl) (by kernel_rfl) (fun _ _ _ h => h) (Or.inl ⟨by rfl, ?_⟩) (by assumption) ?_
              rotate_left
              · intro w hSw; (try dsimp only at hSw); go_simp; try with_reducible rfl
              try simp only [Act.put, List.setIfInBounds_toArray, List.set_cons_zero, List.set_cons_succ]
              refine take_at (i := 12) (v := ?_) rfl rfl (by kernel_rfl) (by kernel_rfl) (by kernel_rfl) (fun _ _ _ h => h) (Or.inl ⟨by rfl, ?_⟩) (by assumption) ?_
              rotate_left
              · intro w hSw; (try dsimp only at hSw); go_simp; try with_reducible rfl
              try simp only [Act.put, List.setIfInBounds_toArray, List.set_cons_zero, List.set_cons_succ]
              refine take_at (i := 13) (v := ?_) rfl rfl (by kernel_rfl) (by kernel_rfl) (by kernel_rfl) (fun _ _ _ h => h) (Or.inl ⟨by rfl, ?_⟩) (by assumption) ?_
              rotate_left
              · intro w hSw; (try dsimp only at hSw); go_simp; try with_reducible rfl
              try simp only [Act.put, List.setIfInBounds_toArray, List.set_cons_zero, List.set_cons_succ]
              refine take_at (i := 14) (v := ?_) rfl rfl (by kernel_rfl) (by kernel_rfl) (by kernel_rfl) (fun _ _ _ h => h) (Or.inl ⟨by rfl, ?_⟩) (by assumption) ?_
              rotate_left
              · intro w hSw; (try dsimp only at hSw); go_simp; try with_reducible rfl
              try simp only [Act.put, List.setIfInBounds_toArray, List.set_cons_zero, List.set_cons_succ]
              refine wpAnyH_ready (rs := [5]) (by kernel_rfl) (by simp) ?_
              refine AllReadyH.cons rfl (fun K hK => ?_) AllReadyH.nil
              go_simp
              refine hK.out _ _ (by assumption) (fun hHeld => ?_)
              clear hK K
              refine take_at (i := 15) (v := ?_) rfl rfl (by kernel_rfl) (by kernel_rfl) (by kernel_rfl) (fun _ _ _ h => h) (Or.inl ⟨by rfl, ?_⟩) (by assumption) ?_
              rotate_left
              · intro w hSw; (try dsimp only at hSw); go_simp; try with_reducible rfl
              try simp only [Act.put, List.setIfInBounds_toArray, List.set_cons_zero, List.set_cons_succ]
              refine take_at (i := 16) (v := ?_) rfl rfl (by kernel_rfl) (by kernel_rfl) (by kernel_rfl) (fun _ _ _ h => h) (Or.inl ⟨by rfl, ?_⟩) (by assumption) ?_
              rotate_left
              · intro w hSw; (try dsimp only at hSw); go_simp; try with_reducible rfl
              try simp only [Act.put, List.setIfInBounds_toArray, List.set_cons_zero, List.set_cons_succ]
              refine wpAnyH_ready (rs := [17]) (by kernel_rfl) (by simp) ?_
              refine AllReadyH.cons rfl (fun K hK => ?_) AllReadyH.nil
              go_simp
              rw [VN.out]
              refine hK.out _ _ SS.out (fun hHeld => ?_)
              clear hK K
              refine wpAnyH_done (by kernel_rfl) (NoPanic.normal ?_) _
              rw [← hw1.out]
              clear cA cR cP fP VN SS hw1
              go_wp2
              go_roundw
              case rel => exact ⟨j + 1, by omega, by go_num, N0, N1, N2, N3, NB.drew⟩
              case measure => simp [intOf]; omega
        · have hk' : j = 4 := by omega
          subst hk'
          rw [midP_all] at A3
          go_wp2
          refine ⟨⟨i + 1, by omega, by go_num, A0, A1, A2, A3, hbl⟩, ?_⟩
          simp [intOf]; omega
    · have hk' : i = 5 := by omega
      subst hk'
      have hS5 : (tabN 5 (rowP A R 5)).length = 5 := tabN_length _ _
      go_wp2_with (with_reducible refine wpList_loadLim rfl _ rfl (h + 3) (tabN 5 (rowP A R 5)) ?hx A3.out hS5 ?_)
      try (case hx => rfl)
      refine (CC.out _).mono ?_
      rintro e w2 ⟨rfl, hb2⟩
      have D2 : Hid (Lim w2 (h + 2) (List.replicate 5 0)) := A2.out.on hb2
      have hB2 := below_step hbl (by have := hbl.size; omega) hb2
      clear A0 A1 A2 A3 hbl hb2 CC
      go_wp2_with fail
      refine (CF.out _).mono ?_
      rintro e w3 ⟨rfl, hb3⟩
      have D3 : Hid (Lim w3 (h + 2) (List.replicate 5 0)) := D2.out.on hb3
      have hB3 := below_step hB2 (by have := hB2.size; omega) hb3
      clear D2 hB2 hb3 CF
      go_wp2_with (with_reducible refine wpList_storeLim rfl _ _ rfl (h + 2) (List.replicate 5 0) E ?hx2 ?hy D3.out rfl hE5 ?_)
      try (case hx2 => rfl)
      try (case hy => rfl)
      exact bodyPost_lim rfl (h + 2) E rfl rfl (D3.out.setRow E) hE5 ⟨rfl, below_setRow hB3 (by omega) _⟩
end Go.Proofs.YtglgppeloolbhaaGreatDoor

/- The program's read, put. -/
namespace Go.Proofs.YtglgppeloolbhaaGreatDoor
open Go.RowKit
set_option maxRecDepth 100000
set_option linter.unusedSimpArgs false

theorem bt_past (s : ByteArray) (j : Nat) (h : s.size ≤ j) : bt s j = 0 := by
  rw [bt_eq, Array.getElem?_eq_none h]; rfl
section
variable {P : Program} {ops : Array Oper} {rest : List Oper} {o : Oper} {a : Act} {w : World} {Q : Exit → Act → World → Prop}
/-- A text copied to the head of an array of noughts. -/
theorem run_copyB (dT sT ty elem : TypeId) (g n c : Nat) (s : ByteArray) (cur : Array Value) (t : TypeId)
    (hu : P.underlying dT = some (.slice elem)) (hs : (P.info? elem).map (·.size) = some 1) (hg : Blk w t g cur) (hle : s.size ≤ n) (hfit : s.size ≤ cur.size) :
    (Builtin.copy_ #[dT, sT] ty #[.slice (some ⟨g, 0, none⟩) n c, .string s]).run P w = .ok (goInt s.size) (w.setRow g (Lib.strCells s ++ cur.toList.drop s.size).toArray) := by
  have hlen : (Lib.strCells s).length = s.size := Lib.strCells_length s
  have hst := run_storeCells_at P g 0 t (Lib.strCells s) 0 cur w hg (by rw [hlen]; omega) (by
    intro v hv
    unfold Lib.strCells at hv
    obtain ⟨x, _, rfl⟩ := List.mem_map.1 hv
    rfl)
  rw [hlen] at hst
  simp only [Nat.add_zero, Nat.zero_add, List.take_zero, List.nil_append] at hst
  have hmin : Nat.min s.size n = s.size := Nat.min_eq_left hle
  have htk : List.take s.size (List.map (fun b : UInt8 => Value.int IntKind.u8 (b.toNat : Int)) s.data.toList) = Lib.strCells s := by
    rw [List.take_of_length_le (by rw [List.length_map, Array.length_toList]; exact Nat.le_refl _)]
    rfl
  cases hq : P.info? elem with
  | none => simp [hq] at hs
  | some i =>
    simp [Builtin.copy_, run_underlying hu, Builtin.lenOf, Builtin.firstCells, sizeOf, typeInfo, hq, hmin]
    rw [htk, hst]
    simp [Result.andThen]
theorem run_copy20 (dT sT ty elem : TypeId) (g n c : Nat) (s : ByteArray) (cur : Array Value) (t : TypeId)
    (hu : P.underlying dT = some (.slice elem)) (hsz : (P.info? elem).map (·.size) = some 1) (hg : Blk w t g cur) (hn : cur.size = n) (hz : ∀ j, j < n → cur[j]? = some (.int .u8 0)) (hle : s.size ≤ n) :
    ∃ cs, (Builtin.copy_ #[dT, sT] ty #[.slice (some ⟨g, 0, none⟩) n c, .string s]).run P w = .ok (goInt s.size) (w.setRow g cs) ∧ Row8 (w.setRow g cs) g n (bt s) := by
  refine ⟨_, run_copyB dT sT ty elem g n c s cur t hu hsz hg hle (by omega), ⟨_, t, (0, 0), setRow_heap w g _ _ t (0, 0) hg, Or.inr rfl, fun j hj => ?_⟩⟩
  rw [List.getElem?_toArray]
  by_cases h1 : j < s.size
  · rw [List.getElem?_append_left (by rw [Lib.strCells_length]; exact h1), strCells_bt s j h1]
  · rw [List.getElem?_append_right (by rw [Lib.strCells_length]; omega), Lib.strCells_length, List.getElem?_drop, show s.size + (j - s.size) = j by omega, Array.getElem?_toList, hz j hj, bt_past s j (by omega)]; rfl
end

/-! ### Limbs out of bytes. -/
theorem valF_past (f : Nat → Nat) (n k : Nat) (h : ∀ j, n ≤ j → f j = 0) : valF f (n + k) = valF f n := by
  induction k with
  | zero => rfl
  | succ k ih => show valF f (n + k) + f (n + k) * _ = _; rw [ih, h _ (by omega)]; omega
theorem dig_of (f : Nat → Nat) (n i : Nat) (h : ∀ i, i < n → f i < 256) (hi : i < n) : f i = valF f n / 256 ^ i % 256 := by
  have hl : ∀ j, (tabN n f).getD j 0 < 256 := fun j => by
    by_cases hj : j < n
    · rw [tabN_getD _ _ _ hj]; exact h j hj
    · rw [getD_none _ _ (by rw [tabN_length]; omega)]; decide
  have h1 := carried_digit (tabN n f) i
  rw [carry_none _ hl, Nat.zero_add, tabN_getD _ _ _ hi, valL_tabN, Nat.mod_eq_of_lt (h i hi)] at h1
  exact h1
theorem four_digits (v i : Nat) : v / 256 ^ (4 * i + 3) % 256 * 16777216 + v / 256 ^ (4 * i + 2) % 256 * 65536 + v / 256 ^ (4 * i + 1) % 256 * 256 + v / 256 ^ (4 * i) % 256 = v / 4294967296 ^ i % 4294967296 := by
  have e0 : (256 : Nat) ^ (4 * i) = 4294967296 ^ i := by rw [Nat.pow_mul]
  have e : ∀ k, v / 256 ^ (4 * i + k) = v / 4294967296 ^ i / 256 ^ k := fun k => by rw [Nat.pow_add, ← Nat.div_div_eq_div_mul, e0]
  rw [e 3, e 2, e 1, e0]
  generalize v / 4294967296 ^ i = x
  omega
theorem numB_20 (s : ByteArray) (hs : s.size ≤ 20) : valF (bt s) 20 = numB s := by
  have := valF_past (bt s) s.size (20 - s.size) (fun j hj => bt_past s j hj)
  rw [show s.size + (20 - s.size) = 20 by omega] at this
  exact this
/-- Twenty bytes, the text first. -/
def padB20 (s : ByteArray) : ByteArray := ⟨(bytesOf 20 (bt s)).toArray⟩
theorem padB20_size (s : ByteArray) : (padB20 s).size = 20 := by
  show (bytesOf 20 _).toArray.size = 20
  rw [List.size_toArray, bytesOf_length]
theorem bt_padB20 (s : ByteArray) (j : Nat) (hj : j < 20) : bt (padB20 s) j = bt s j := bt_bytesOf 20 _ j hj (bt_lt s j)
theorem words_lim (s : ByteArray) (hs : s.size ≤ 20) (i : Nat) (hi : i < 5) : wAt (padB20 s) ssh (padB20 s).size i = limF (numB s) i := by
  rw [wAt_small _ i (by rw [padB20_size]; omega), bigW_sum _ _ _ _ (bt_lt _ _) (bt_lt _ _) (bt_lt _ _), bt_padB20 _ _ (by omega), bt_padB20 _ _ (by omega), bt_padB20 _ _ (by omega), bt_padB20 _ _ (by omega)]
  rw [dig_of (bt s) 20 (4 * i + 3) (fun i _ => bt_lt s i) (by omega), dig_of (bt s) 20 (4 * i + 2) (fun i _ => bt_lt s i) (by omega), dig_of (bt s) 20 (4 * i + 1) (fun i _ => bt_lt s i) (by omega), dig_of (bt s) 20 (4 * i) (fun i _ => bt_lt s i) (by omega)]
  have hv := valF_lt (bt s) 20 (fun i _ => bt_lt s i)
  rw [numB_20 s hs] at hv
  rw [numB_20 s hs, four_digits]
  unfold limF
  by_cases h4 : i < 4
  · rw [if_pos h4]
  · rw [if_neg h4, show i = 4 by omega]
    exact Nat.mod_eq_of_lt (Nat.div_lt_of_lt_mul hv)
theorem wordsL_lim (s : ByteArray) (hs : s.size ≤ 20) : wordsL (padB20 s) ssh = wT (limF (numB s)) 5 := by
  unfold wordsL wT
  rw [padB20_size]
  refine tab_congr _ _ _ (fun i hi => ?_)
  have := words_lim s hs i hi
  rw [padB20_size] at this
  rw [this]
theorem limF_word (s : ByteArray) (hs : s.size ≤ 20) (i : Nat) (hi : i < 5) : limF (numB s) i < 4294967296 := by
  rw [← words_lim s hs i hi]; exact wAt_lt _ _ ssh_le _ _

theorem Tryz.size1 : (Tryz.prog.info? 5).map (·.size) = some 1 := by kernel_rfl
def z20 : Array Value := (List.replicate 20 (Value.int .u8 0)).toArray

set_option maxRecDepth 100000 in
set_option maxHeartbeats 4000000 in
theorem pread_any (s : ByteArray) (w : World) (hs : s.size ≤ 20) :
    Calls Tryz.prog 23 #[.string s] w fun e w' => e = .returned (.agg (v64 (limN (numB s)))) ∧ Below w.heap.size w w' := by
  obtain ⟨D, HD⟩ : ∃ D, Hid (D = padB20 s) := ⟨_, rfl⟩
  have hD : D.size = 20 := by rw [HD.out]; exact padB20_size s
  obtain ⟨f, Hf⟩ : ∃ f, Hid (f = limF (numB s)) := ⟨_, rfl⟩
  have HW : Hid (wordsL D ssh = wT f 5) := by show _ = _; rw [HD.out, Hf.out]; exact wordsL_lim s hs
  have HL : Hid (∀ i, i < 5 → f i < 4294967296) := by show ∀ i, _; rw [Hf.out]; exact limF_word s hs
  obtain ⟨E, HE⟩ : ∃ E, Hid (E = limN (numB s)) := ⟨_, rfl⟩
  have hE5 : E.length = 5 := by rw [HE.out]; exact limN_length _
  have HEf : Hid (tabN 5 f = E) := by show _ = _; rw [HE.out, Hf.out]; rfl
  have CS : Hid (∀ w, _) := fun w => small_even D w (by omega) (by omega)
  rw [← HE.out]
  have HDs : Hid ((⟨(bytesOf 20 (bt s)).toArray⟩ : ByteArray) = D) := by show _ = _; rw [HD.out]; rfl
  clear HE Hf HD
  generalize hh : w.heap.size = h at *
  obtain ⟨W1, hcp, R1, A1, B1⟩ : ∃ W1, (Builtin.copy_ #[35, 9] 3 #[.slice (some ⟨h + 1, 0, none⟩) 20 20, .string s]).run Tryz.prog ((w.alloc (.cells #[.int .u64 0, .int .u64 0, .int .u64 0, .int .u64 0, .int .u64 0] 39)).alloc (.cells #[.int .u8 0, .int .u8 0, .int .u8 0, .int .u8 0, .int .u8 0, .int .u8 0, .int .u8 0, .int .u8 0, .int .u8 0, .int .u8 0, .int .u8 0, .int .u8 0, .int .u8 0, .int .u8 0, .int .u8 0, .int .u8 0, .int .u8 0, .int .u8 0, .int .u8 0, .int .u8 0] 53)) = .ok (goInt s.size) W1 ∧ Row8 W1 (h + 1) 20 (bt s) ∧ Hid (Lim W1 h (List.replicate 5 0)) ∧ Below h w W1 := by
    have a0 : Lim ((w.alloc (.cells #[.int .u64 0, .int .u64 0, .int .u64 0, .int .u64 0, .int .u64 0] 39)).alloc (.cells #[.int .u8 0, .int .u8 0, .int .u8 0, .int .u8 0, .int .u8 0, .int .u8 0, .int .u8 0, .int .u8 0, .int .u8 0, .int .u8 0, .int .u8 0, .int .u8 0, .int .u8 0, .int .u8 0, .int .u8 0, .int .u8 0, .int .u8 0, .int .u8 0, .int .u8 0, .int .u8 0] 53)) h (List.replicate 5 0) := (Lim.new' w (List.replicate 5 0) _ h hh rfl).alloc _
    have a1 : Blk ((w.alloc (.cells #[.int .u64 0, .int .u64 0, .int .u64 0, .int .u64 0, .int .u64 0] 39)).alloc (.cells #[.int .u8 0, .int .u8 0, .int .u8 0, .int .u8 0, .int .u8 0, .int .u8 0, .int .u8 0, .int .u8 0, .int .u8 0, .int .u8 0, .int .u8 0, .int .u8 0, .int .u8 0, .int .u8 0, .int .u8 0, .int .u8 0, .int .u8 0, .int .u8 0, .int .u8 0, .int .u8 0] 53)) 53 (h + 1) z20 := Blk.new' _ _ _ (h + 1) (by simp [hh])
    have ab : Below h w ((w.alloc (.cells #[.int .u64 0, .int .u64 0, .int .u64 0, .int .u64 0, .int .u64 0] 39)).alloc (.cells #[.int .u8 0, .int .u8 0, .int .u8 0, .int .u8 0, .int .u8 0, .int .u8 0, .int .u8 0, .int .u8 0, .int .u8 0, .int .u8 0, .int .u8 0, .int .u8 0, .int .u8 0, .int .u8 0, .int .u8 0, .int .u8 0, .int .u8 0, .int .u8 0, .int .u8 0, .int .u8 0] 53)) := by rw [← hh]; exact (below_new w _).alloc (by simp) _
    have hz : ∀ j, j < 20 → z20[j]? = some (.int .u8 0) := fun j hj => by unfold z20; rw [List.getElem?_toArray, List.getElem?_replicate, if_pos hj]
    obtain ⟨cs, hr, hrow⟩ := run_copy20 35 9 3 5 (h + 1) 20 20 s z20 53 Tryz.underlying35 Tryz.size1 a1 rfl hz hs
    exact ⟨_, hr, hrow, a0.setRowOther _ (by omega) _, below_setRow ab (by omega) _⟩
  have hcv := R1.conv (P := Tryz.prog) (bt_lt s) 20 20 (Nat.le_refl _) 35 9 Tryz.underlying35 Tryz.underlying5 Tryz.underlying9
  rw [HDs.out] at hcv
  clear R1 HDs
  go_enter Tryz.func23, Tryz.ntmps23
  go_wp2_with fail
  refine (CS.out _).mono ?_
  rintro e w2 ⟨rfl, ho2, hb2⟩
  rw [HW.out] at ho2
  have hq5 : D.size / 4 = 5 := by omega
  rw [hq5] at ho2 ⊢
  have D0 : Hid (Lim w2 h (List.replicate 5 0)) := A1.out.on hb2
  have hB2 := below_step B1 (by have := B1.size; omega) hb2
  have hl1 := A1.out.lt
  have D2 : Hid (IntsAt w2 .i64 (some ⟨W1.heap.size, 0, none⟩) 5 (wT f 5)) := ho2.ints
  have hl2 := ho2.lt
  clear A1 B1 ho2 hb2 CS HW hq5 hcp hcv
  generalize W1.heap.size = g at *
  clear W1
  go_wp2_with fail
  have hgl : g < w2.heap.size := (hl2 g rfl).2
  have N0 : Hid (Lim (w2.alloc (.cells (v64 (tabN 5 (cutN f 0))) 39)) h (List.replicate 5 0)) := D0.out.alloc _
  have N1 : Hid (Lim (w2.alloc (.cells (v64 (tabN 5 (cutN f 0))) 39)) w2.heap.size (tabN 5 (cutN f 0))) := Lim.new w2 _ _ rfl
  have N2 : Hid (IntsAt (w2.alloc (.cells (v64 (tabN 5 (cutN f 0))) 39)) .i64 (some ⟨g, 0, none⟩) 5 (wT f 5)) := D2.out.below ((Below.refl _ _).alloc (Nat.le_refl _) _)
  have hsz := hB2.size
  have NB : Below h w (w2.alloc (.cells (v64 (tabN 5 (cutN f 0))) 39)) := hB2.alloc (by omega) _
  clear D0 D2 hB2 hl2
  generalize w2.heap.size = q at *
  go_loopw [17] (fun i wr => ∃ k : Nat, k ≤ 5 ∧ i = .int .i64 k ∧ Hid (Lim wr h (List.replicate 5 0)) ∧ Hid (Lim wr q (tabN 5 (cutN f k))) ∧ Hid (IntsAt wr .i64 (some ⟨g, 0, none⟩) 5 (wT f 5)) ∧ Below h w wr) (fun i _ => 5 - (intOf i).toNat)
  case atStart => exact ⟨0, Nat.zero_le _, rfl, N0, N1, N2, NB⟩
  case round =>
    clear N0 N1 N2 NB
    obtain ⟨k, hk', rfl, HA0, HA1, HI, hbl⟩ := hrel
    by_cases hlt : k < 5
    · obtain ⟨X, hX⟩ : ∃ x, x = f k := ⟨_, rfl⟩
      have lX : X < 4294967296 := by rw [hX]; exact HL.out k hlt
      have c0 := HI.out.cellAt k hlt
      rw [wT_getD _ _ _ hlt, ← hX] at c0
      have c1 := HA1.out.cell k (by rw [tabN_length]; exact hlt)
      have hf := HA1.out.free k
      have HO := HA1.out.set k X
      rw [hX, cutN_set, ← hX] at HO
      have HA0' : Hid (Lim _ h _) := HA0.out.other ⟨q, k, none⟩ (by simp; omega) (Value.int .u64 (X : Int))
      have HI' : Hid (IntsAt _ .i64 (some ⟨g, 0, none⟩) 5 (wT f 5)) := HI.out.other ⟨q, k, none⟩ (by simp; omega) (Value.int .u64 (X : Int))
      have HO' : Hid (Lim _ q _) := HO
      have HBl := hbl.setCell (p := ⟨q, k, none⟩) (by simp; omega) (Value.int .u64 (X : Int))
      have b0 : (k : Int) < 5 := by omega
      clear hX HO HA0 HA1 HI
      go_wp2
      go_roundw
      case rel => exact ⟨k + 1, by omega, by go_num, HA0', HO', HI', HBl⟩
      case measure => simp [intOf]; omega
    · have hk5 : k = 5 := by omega
      subst hk5
      have hA1 := HA1.out
      rw [cutN_all, HEf.out] at hA1
      have HA1' : Hid (Lim wr q E) := hA1
      clear HA1 hA1 HI
      go_wp2_with (first
        | (with_reducible refine wpList_loadLim rfl _ rfl q E ?hx HA1'.out hE5 ?_)
        | (with_reducible refine wpList_storeLim rfl _ _ rfl h (List.replicate 5 0) E ?hx2 ?hy HA0.out rfl hE5 ?_))
      try (case hx => rfl)
      try (case hx2 => rfl)
      try (case hy => rfl)
      exact bodyPost_lim rfl h E rfl rfl (HA0.out.setRow E) hE5 ⟨rfl, below_setRow hbl (Nat.le_refl _) _⟩
end Go.Proofs.YtglgppeloolbhaaGreatDoor

/- The program's put. -/
namespace Go.Proofs.YtglgppeloolbhaaGreatDoor
open Go.RowKit
set_option maxRecDepth 100000
set_option linter.unusedSimpArgs false

/-- A number's lowest 128 bits as bytes. -/
def lowB (v : Nat) : ByteArray := ⟨(bytesOf 16 (fun i => v / 256 ^ i % 256)).toArray⟩
theorem byte_of (x k : Nat) (hk : k < 4) : x % 4294967296 / 256 ^ k % 256 = x / 256 ^ k % 256 := by
  rcases (show k = 0 ∨ k = 1 ∨ k = 2 ∨ k = 3 by omega) with h | h | h | h <;> subst h <;> simp only [Nat.pow_zero, Nat.pow_one, Nat.reducePow] <;> omega
theorem put_lim (v : Nat) : (⟨(putL (wT (limF v) 4) ssh).toArray⟩ : ByteArray) = lowB v := by
  unfold putL lowB
  rw [wT_length]
  rw [bytesOf_congr (4 * 4) (pb (wT (limF v) 4) ssh) (fun i => v / 256 ^ i % 256) (fun j hj => ?_)]
  have h := pb_int (wT (limF v) 4) ssh j
  rw [wT_getD _ _ _ (show j / 4 < 4 by omega)] at h
  have e1 : ((2 ^ ssh j : Nat) : Int) = ((256 ^ (j % 4) : Nat) : Int) := by
    unfold ssh; rw [Nat.pow_mul]
  rw [e1] at h
  have e2 : pb (wT (limF v) 4) ssh j = limF v (j / 4) / 256 ^ (j % 4) % 256 := by
    have : ((pb (wT (limF v) 4) ssh j : Nat) : Int) = ((limF v (j / 4) / 256 ^ (j % 4) % 256 : Nat) : Int) := by
      rw [h]; simp
    exact_mod_cast this
  rw [e2]
  unfold limF
  rw [if_pos (by omega), byte_of _ _ (by omega), Nat.div_div_eq_div_mul, show (4294967296 : Nat) ^ (j / 4) * 256 ^ (j % 4) = 256 ^ j by
    rw [show (4294967296 : Nat) = 256 ^ 4 by decide, ← Nat.pow_mul, ← Nat.pow_add, show 4 * (j / 4) + j % 4 = j by omega]]

set_option maxRecDepth 100000 in
set_option maxHeartbeats 4000000 in
theorem pput_any (v : Nat) (w : World) :
    Calls Tryz.prog 26 #[.agg (v64 (limN v))] w fun e w' => e = .returned (.string (lowB v)) ∧ Below w.heap.size w w' := by
  obtain ⟨f, Hf⟩ : ∃ f, Hid (f = limF v) := ⟨_, rfl⟩
  obtain ⟨E, HE⟩ : ∃ E, Hid (E = lowB v) := ⟨_, rfl⟩
  have HL : Hid (∀ i, i < 4 → f i < 4294967296) := by
    show ∀ i, _
    intro i hi
    rw [Hf.out]; unfold limF; rw [if_pos hi]; exact Nat.mod_lt _ (by decide)
  have HP : Hid ((⟨(putL (wT f 4) ssh).toArray⟩ : ByteArray) = E) := by show _ = _; rw [Hf.out, HE.out]; exact put_lim v
  obtain ⟨l, Hl⟩ : ∃ l, Hid (l = limN v) := ⟨_, rfl⟩
  have hl5 : l.length = 5 := by rw [Hl.out]; exact limN_length _
  have Hlf : Hid (∀ i, i < 5 → l.getD i 0 = f i) := by show ∀ i, _; rw [Hl.out, Hf.out]; exact limN_getD v
  rw [← HE.out, ← Hl.out]
  obtain ⟨i0, hi, hz0, hz1, hz2⟩ := info_parts Tryz.info3
  clear HE Hf Hl
  generalize hh : w.heap.size = h at *
  have A0 : Hid (Lim (w.alloc (.cells (v64 l) 39)) h l) := Lim.new' w l _ h hh rfl
  have AB : Below h w (w.alloc (.cells (v64 l) 39)) := by rw [← hh]; exact below_new w _
  have hsz : (w.alloc (.cells (v64 l) 39)).heap.size = h + 1 := by simp [hh]
  go_enter Tryz.func26, Tryz.ntmps26
  go_wp2_with (at_make; refine wpList_make_full _ rfl _ _ 47 rfl (h + 1) 3 i0 (.int .i64 0) 1 Tryz.underlying47 hi hz0 hz1 _ _ _ _ 4 rfl rfl ?b4 ?b5 ?b1 ?b2 ?b3 ?_)
  case b1 => rw [hz2]; omega
  case b2 => unfold maxLen; omega
  case b3 => omega
  case b4 => first | omega | rfl
  case b5 => first | omega | rfl
  intro w1 hown0 hgrow
  have hown : Own w1 (h + 1) 3 .i64 (h + 1) 4 (wT (cutN f 0) 4) := Own.made' _ (fun i _ => by unfold cutN; rw [if_neg (by omega)]; rfl) hown0
  have hb1 : Below (h + 1) (w.alloc (.cells (v64 l) 39)) w1 := (Below.refl _ _).grown hgrow (by rw [hsz]; exact Nat.le_refl _) (fun k hk => by cases hk)
  have hB1 : Below h w w1 := AB.trans (hb1.mono (by omega))
  have D0 : Hid (Lim w1 h l) := A0.out.below hb1 (by omega)
  clear hown0 hgrow hi hz0 hz1 hz2 A0 AB hb1 hsz
  go_wp2
  go_loopw [8] (fun i wr => ∃ k : Nat, k ≤ 4 ∧ i = .int .i64 k ∧ Own wr (h + 1) 3 .i64 (h + 1) 4 (wT (cutN f k) 4) ∧ Hid (Lim wr h l) ∧ Below h w wr) (fun i _ => 4 - (intOf i).toNat)
  case atStart => exact ⟨0, Nat.zero_le _, rfl, hown, D0, hB1⟩
  case round =>
    clear hown D0 hB1
    obtain ⟨k, hk, rfl, hown, D0, hbl⟩ := hrel
    by_cases hlt : k < 4
    · have c0 := D0.out.cell k (by omega)
      rw [Hlf.out k (by omega)] at c0
      have lX := HL.out k hlt
      have c2 := hown.cell k hlt
      have f2 := hown.free k
      have HO := hown.set k ((f k : Nat) : Int)
      rw [wT_cut_set] at HO
      have D0' : Hid (Lim (wr.setCell ⟨h + 1, k, none⟩ (.int .i64 ((f k : Nat) : Int))) h l) := D0.out.other _ (by simp) _
      have hbl' := hbl.setCell (p := ⟨h + 1, k, none⟩) (by simp) (.int .i64 ((f k : Nat) : Int))
      generalize hX : f k = X at c0 lX HO D0' hbl'
      have b0 : (k : Int) < 4 := by omega
      have b1 : (k : Int) < 5 := by omega
      clear hown D0 hbl hX
      go_wp2
      go_roundw
      case rel => exact ⟨k + 1, by omega, by go_num, HO, D0', hbl'⟩
      case measure => simp [intOf]; omega
    · have hk4 : k = 4 := by omega
      subst hk4
      rw [wT_cut_all] at hown
      have CP : Hid (∀ w, IntsAt w .i64 (some ⟨h + 1, 0, none⟩) 4 (wT f 4) → _) := fun w hI => putSmall_any (some ⟨h + 1, 0, none⟩) 4 4 (wT f 4) w (by omega) hI
      rw [HP.out] at CP
      have HI : Hid (IntsAt wr .i64 (some ⟨h + 1, 0, none⟩) 4 (wT f 4)) := hown.ints
      clear hown D0
      go_wp2_with fail
      refine (CP.out _ HI.out).mono ?_
      rintro e w7 ⟨rfl, hb7⟩
      have hB7 := below_step hbl (by have := hbl.size; omega) hb7
      clear hb7 CP
      go_wp2_with fail
      go_ret
      exact ⟨rfl, hB7⟩
end Go.Proofs.YtglgppeloolbhaaGreatDoor

/- The program's Clamp. -/
namespace Go.Proofs.YtglgppeloolbhaaGreatDoor
open Go.RowKit
set_option maxRecDepth 100000
set_option linter.unusedSimpArgs false

/-- The package's table, as it lies. -/
def keptL : List Nat := [255, 255, 255, 15, 252, 255, 255, 15, 252, 255, 255, 15, 252, 255, 255, 15]
def GlobY (w : World) : Prop := ∀ i, i < 16 → w.cell? ⟨0, i, none⟩ = some (.int .u8 ((keptL.getD i 0 : Nat) : Int))
theorem GlobY.below {w w' : World} (h : GlobY w) (hb : Below w.heap.size w w') : GlobY w' := fun j hj => by
  have h0 := h j hj
  rw [hb.cell (p := ⟨0, j, none⟩) (World.block_lt_of_cell? w _ h0)]; exact h0
theorem GlobY.lt {w : World} (h : GlobY w) : 0 < w.heap.size := World.block_lt_of_cell? w _ (h 0 (by decide))
theorem kept_and : ∀ i : Fin 16, ∀ x : Fin 256, x.1 &&& keptL.getD i.1 0 = (if i.1 % 4 = 3 then x.1 % 16 else if i.1 % 4 = 0 ∧ 0 < i.1 then x.1 / 4 * 4 else x.1) := by decide +kernel
theorem kept_lt : ∀ i : Fin 16, keptL.getD i.1 0 < 256 := by decide
theorem clamp_bit (f : Nat → Nat) (i : Nat) (hi : i < 16) (hf : f i < 256) : bits .and .u8 ((f i : Nat) : Int) ((keptL.getD i 0 : Nat) : Int) = ((clampF f i : Nat) : Int) := by
  rw [u8_and_nat _ _ hf (kept_lt ⟨i, hi⟩), kept_and ⟨i, hi⟩ ⟨f i, hf⟩]; rfl

set_option maxRecDepth 100000 in
set_option maxHeartbeats 4000000 in
theorem clamp_yes (s : ByteArray) (w : World) (h : s.size = 16) (hY : GlobY w) :
    Calls Tryz.prog 22 #[.string s] w fun e w' => e = .returned (.tuple #[.string (clampB s), .int .i64 0]) ∧ Below w.heap.size w w' := by
  have g0 : (((s.size : Int) != 16)) = false := by rw [bne_eq_false_iff_eq]; omega
  obtain ⟨E, HE⟩ : ∃ E, Hid (E = clampB s) := ⟨_, rfl⟩
  obtain ⟨F, HF⟩ : ∃ F, Hid (F = clampF (bt s)) := ⟨_, rfl⟩
  have HEF : Hid ((⟨(bytesOf 16 F).toArray⟩ : ByteArray) = E) := by show _ = _; rw [HE.out, HF.out]; rfl
  have HFl : Hid (∀ i, F i < 256) := by show ∀ i, _; rw [HF.out]; exact clampF_lt _ (bt_lt s)
  have HB : Hid (∀ i, i < 16 → bits .and .u8 ((bt s i : Nat) : Int) ((keptL.getD i 0 : Nat) : Int) = ((F i : Nat) : Int)) := by
    show ∀ i, _
    intro i hi
    rw [HF.out]; exact clamp_bit (bt s) i hi (bt_lt s i)
  have HY : Hid (GlobY w) := hY
  have hgl := hY.lt
  rw [← HE.out]
  clear HE HF hY
  generalize hh : w.heap.size = g at *
  have R0 : Hid (Row8 (w.alloc (.cells #[.int .u8 0, .int .u8 0, .int .u8 0, .int .u8 0, .int .u8 0, .int .u8 0, .int .u8 0, .int .u8 0, .int .u8 0, .int .u8 0, .int .u8 0, .int .u8 0, .int .u8 0, .int .u8 0, .int .u8 0, .int .u8 0] 52)) g 16 (cutN F 0)) := by
    show Row8 _ _ _ _
    rw [← cutN_nil, ← hh]
    exact ⟨_, _, (0, 0), heap_alloc_last w _, Or.inr rfl, fun j hj => by
      have : ∀ j : Fin 16, (#[.int .u8 0, .int .u8 0, .int .u8 0, .int .u8 0, .int .u8 0, .int .u8 0, .int .u8 0, .int .u8 0, .int .u8 0, .int .u8 0, .int .u8 0, .int .u8 0, .int .u8 0, .int .u8 0, .int .u8 0, .int .u8 0] : Array Value)[j.1]? = some (.int .u8 0) := by intro j; match j with | ⟨j, hj⟩ => (repeat (cases j with | zero => rfl | succ j => _)); omega
      exact this ⟨j, hj⟩⟩
  have B0 : Below g w (w.alloc (.cells #[.int .u8 0, .int .u8 0, .int .u8 0, .int .u8 0, .int .u8 0, .int .u8 0, .int .u8 0, .int .u8 0, .int .u8 0, .int .u8 0, .int .u8 0, .int .u8 0, .int .u8 0, .int .u8 0, .int .u8 0, .int .u8 0] 52)) := by rw [← hh]; exact below_new w _
  go_enter Tryz.func22, Tryz.ntmps22
  go_wp2_with fail
  go_loopw [9] (fun i wr => ∃ k : Nat, k ≤ 16 ∧ i = .int .i64 k ∧ Hid (Row8 wr g 16 (cutN F k)) ∧ Below g w wr) (fun i _ => 16 - (intOf i).toNat)
  case atStart => exact ⟨0, Nat.zero_le _, rfl, R0, B0⟩
  case round =>
    clear R0 B0
    obtain ⟨k, hk, rfl, HR, hbl⟩ := hrel
    by_cases hlt : k < 16
    · have cK : wr.cell? ⟨0, k, none⟩ = some (.int .u8 ((keptL.getD k 0 : Nat) : Int)) := by
        rw [hbl.cell (p := ⟨0, k, none⟩) (by simpa using hgl)]; exact HY.out k hlt
      have cB := HR.out.cell k hlt
      have fB := HR.out.free k hlt
      have HN : Hid (Row8 (wr.setCell ⟨g, k, none⟩ (.int .u8 ((F k : Nat) : Int))) g 16 (cutN F (k + 1))) := by
        show Row8 _ _ _ _
        exact (HR.out.set k (F k)).cast (cutN_put F k)
      have NB := hbl.setCell (p := ⟨g, k, none⟩) (Nat.le_refl _) (.int .u8 ((F k : Nat) : Int))
      have VB := HB.out k hlt
      have hsk : k < s.size := by omega
      have hbt := bt_get s k hsk
      have b0 : (k : Int) < 16 := by omega
      have b1 : (0 : Int) ≤ (k : Int) := by omega
      generalize keptL.getD k 0 = K at *
      generalize F k = Z at *
      obtain ⟨w1, hw1⟩ : ∃ v, Hid (v = wr.setCell ⟨g, k, none⟩ (.int .u8 (Z : Int))) := ⟨_, rfl⟩
      rw [← hw1.out] at HN NB
      have SS : Hid ((wr.setCell ⟨g, k, none⟩ (.int .u8 (Z : Int))).cell? ⟨0, k, none⟩ = some (.int .u8 (K : Int))) := by
        show _ = _
        rw [World.cell?_setCell_far _ _ _ _ (show g ≠ 0 by omega)]; exact cK
      clear HR hbl
      go_wp2_with fail
      refine wp_region_noPanic ?_
      refine wp_region_held_drew (S := fun w' => w'.cell? ⟨0, k, none⟩ = some (.int .u8 (K : Int))) (by kernel_rfl) (by first | exact trivial | assumption | exact ⟨by assumption, by assumption⟩) (fun hHeld => ?_)
      refine take_at (i := 0) (v := ?_) rfl rfl (by kernel_rfl) (by kernel_rfl) (by kernel_rfl) (fun _ _ _ h => h) (Or.inl ⟨by rfl, ?_⟩) (by assumption) ?_
      rotate_left
      · intro w hSw; (try dsimp only at hSw); go_simp; try with_reducible rfl
      try simp only [Act.put, List.setIfInBounds_toArray, List.set_cons_zero, List.set_cons_succ]
      refine take_at (i := 1) (v := ?_) rfl rfl (by kernel_rfl) (by kernel_rfl) (by kernel_rfl) (fun _ _ _ h => h) (Or.inl ⟨by rfl, ?_⟩) (by assumption) ?_
      rotate_left
      · intro w hSw; (try dsimp only at hSw); go_simp; try with_reducible rfl
      try simp only [Act.put, List.setIfInBounds_toArray, List.set_cons_zero, List.set_cons_succ]
      refine take_at (i := 2) (v := ?_) rfl rfl (by kernel_rfl) (by kernel_rfl) (by kernel_rfl) (fun _ _ _ h => h) (Or.inl ⟨by rfl, ?_⟩) (by assumption) ?_
      rotate_left
      · intro w hSw; (try dsimp only at hSw); go_simp; try with_reducible rfl
      try simp only [Act.put, List.setIfInBounds_toArray, List.set_cons_zero, List.set_cons_succ]
      refine take_at (i := 3) (v := ?_) rfl rfl (by kernel_rfl) (by kernel_rfl) (by kernel_rfl) (fun _ _ _ h => h) (Or.inl ⟨by rfl, ?_⟩) (by assumption) ?_
      rotate_left
      · intro w hSw; (try dsimp only at hSw); go_simp; try with_reducible rfl
      try simp only [Act.put, List.setIfInBounds_toArray, List.set_cons_zero, List.set_cons_succ]
      refine take_at (i := 4) (v := ?_) rfl rfl (by kernel_rfl) (by kernel_rfl) (by kernel_rfl) (fun _ _ _ h => h) (Or.inl ⟨by rfl, ?_⟩) (by assumption) ?_
      rotate_left
      · intro w hSw; (try dsimp only at hSw); go_simp; try with_reducible rfl
      try simp only [Act.put, List.setIfInBounds_toArray, List.set_cons_zero, List.set_cons_succ]
      refine take_at (i := 5) (v := ?_) rfl rfl (by kernel_rfl) (by kernel_rfl) (by kernel_rfl) (fun _ _ _ h => h) (Or.inl ⟨by rfl, ?_⟩) (by assumption) ?_
      rotate_left
      · intro w hSw; (try dsimp only at hSw); go_simp; try with_reducible rfl
      try simp only [Act.put, List.setIfInBounds_toArray, List.set_cons_zero, List.set_cons_succ]
      refine take_at (i := 6) (v := ?_) rfl rfl (by kernel_rfl) (by kernel_rfl) (by kernel_rfl) (fun _ _ _ h => h) (Or.inl ⟨by rfl, ?_⟩) (by assumption) ?_
      rotate_left
      · intro w hSw; (try dsimp only at hSw); go_simp; try with_reducible rfl
      try simp only [Act.put, List.setIfInBounds_toArray, List.set_cons_zero, List.set_cons_succ]
      refine take_at (i := 7) (v := ?_) rfl rfl (by kernel_rfl) (by kernel_rfl) (by kernel_rfl) (fun _ _ _ h => h) (Or.inl ⟨by rfl, ?_⟩) (by assumption) ?_
      rotate_left
      · intro w hSw; (try dsimp only at hSw); go_simp; try with_reducible rfl
      try simp only [Act.put, List.setIfInBounds_toArray, List.set_cons_zero, List.set_cons_succ]
      refine take_at (i := 8) (v := ?_) rfl rfl (by kernel_rfl) (by kernel_rfl) (by kernel_rfl) (fun _ _ _ h => h) (Or.inl ⟨by rfl, ?_⟩) (by assumption) ?_
      rotate_left
      · intro w hSw; (try dsimp only at hSw); go_simp; try with_reducible rfl
      try simp only [Act.put, List.setIfInBounds_toArray, List.set_cons_zero, List.set_cons_succ]
      refine wpAnyH_ready (rs := [9]) (by kernel_rfl) (by simp) ?_
      refine AllReadyH.cons rfl (fun K hK => ?_) AllReadyH.nil
      go_simp
      refine hK.out _ _ SS.out (fun hHeld => ?_)
      clear hK K
      refine wpAnyH_done (by kernel_rfl) (NoPanic.normal ?_) _
      rw [← hw1.out]
      clear cK cB fB SS hw1
      go_wp2
      go_roundw
      case rel => exact ⟨k + 1, by omega, by go_num, HN, NB.drew⟩
      case measure => simp [intOf]; omega
    · have hk16 : k = 16 := by omega
      subst hk16
      have hcv := HR.out.conv (P := Tryz.prog) (fun i => by unfold cutN; split; exact HFl.out i; decide) 16 16 (Nat.le_refl _) 35 9 Tryz.underlying35 Tryz.underlying5 Tryz.underlying9
      rw [bytesOf_cut, HEF.out] at hcv
      clear HR HEF
      go_wp2
      go_ret2
      exact ⟨rfl, hbl⟩
end Go.Proofs.YtglgppeloolbhaaGreatDoor

/- The program's Mac: plain facts. -/
namespace Go.Proofs.YtglgppeloolbhaaGreatDoor
open Go.RowKit
set_option maxRecDepth 100000
set_option linter.unusedSimpArgs false

/-- A whole array of limbs read, and written, in a region that draws its order. -/
theorem exec_loadLim {o : Oper} {ρ : Operand → Value} {w : World} (x : Operand) (ho : o.op = .load 39 x) (g : Nat) (l : List Nat) (hx : ρ x = .pointer (some ⟨g, 0, none⟩)) (h : Lim w g l) (hl : l.length = 5) :
    (execOp ρ o).run Tryz.prog w = .ok (.value (.agg (v64 l))) w := by
  unfold execOp
  simp only [ho, hx, Instr.loadAt, Instr.sureAddr, Sem.run_bind, Sem.run_pure, Result.andThen_ok, run_loadBlk 39 g (v64 l) h 5 37 Tryz.underlying39 (Lim.num hl)]
theorem step_storeLim {ops : Array Oper} {o : Oper} {a : Act} {w : World} {K' : Act → World → Prop} {Q : Exit → Act → World → Prop} {E : Prop} (hgd : o.guard = none) (hd : o.dst = none) (x y : Operand) (ho : o.op = .store 39 x y) (g : Nat) (l l' : List Nat)
    (hx : a.eval x = .pointer (some ⟨g, 0, none⟩)) (hy : a.eval y = .agg (v64 l')) (h : Lim w g l) (hl : l.length = 5) (hl' : l'.length = 5) (hk : K' (a.put none undef) (w.setRow g (v64 l'))) :
    if Region.wanted o (yielded ops a.tmps) = true then Oper.wp Tryz.prog o a w K' Q else E := by
  rw [if_pos (by simp [Region.wanted, hgd])]
  unfold Oper.wp execOp
  have := run_storeVar_row (P := Tryz.prog) w g 39 39 (v64 l) (v64 l') h (Lim.num hl') (by rw [v64_size, v64_size, hl, hl']) (v64_one l')
  simp only [ho, hx, hy, Instr.storeAt, Instr.sureAddr, Sem.run_bind, Sem.run_pure, Result.andThen_ok, this]
  show K' (a.put o.dst _) _
  rw [hd]; exact hk

theorem limb_clamp (f : Nat → Nat) (hf : ∀ i, f i < 256) (i : Nat) (hi : i < 4) :
    limF (valF (clampF f) 16) i = clampF f (4 * i + 3) * 16777216 + clampF f (4 * i + 2) * 65536 + clampF f (4 * i + 1) * 256 + clampF f (4 * i) := by
  have h := four_digits (valF (clampF f) 16) i
  rw [← dig_of (clampF f) 16 (4 * i + 3) (fun i _ => clampF_lt f hf i) (by omega), ← dig_of (clampF f) 16 (4 * i + 2) (fun i _ => clampF_lt f hf i) (by omega), ← dig_of (clampF f) 16 (4 * i + 1) (fun i _ => clampF_lt f hf i) (by omega), ← dig_of (clampF f) 16 (4 * i) (fun i _ => clampF_lt f hf i) (by omega)] at h
  unfold limF
  rw [if_pos hi, ← h]
theorem clamped_N (key : ByteArray) : Clamped (clampN key) := by
  have hf := bt_lt key
  have hlt : clampN key < 256 ^ 16 := valF_lt _ _ (fun i _ => clampF_lt _ hf i)
  have h4 : ∀ i, ¬ i < 4 → limF (clampN key) i = 0 := fun i hi => by
    unfold limF; rw [if_neg hi]; exact Nat.div_eq_of_lt hlt
  refine ⟨fun i => ?_, h4 4 (by decide), ?_, ?_, ?_⟩
  · by_cases hi : i < 4
    · have h := limb_clamp (bt key) hf i hi
      have h3 : clampF (bt key) (4 * i + 3) < 16 := by
        unfold clampF; rw [if_pos (by omega)]; omega
      have e2 := clampF_lt _ hf (4 * i + 2)
      have e1 := clampF_lt _ hf (4 * i + 1)
      have e0 := clampF_lt _ hf (4 * i)
      show limF (valF (clampF (bt key)) 16) i ≤ _
      omega
    · rw [h4 i hi]; exact Nat.zero_le _
  all_goals
    show limF (valF (clampF (bt key)) 16) _ % 4 = 0
    rw [limb_clamp (bt key) hf _ (by decide)]
    have h0 : ∀ i, 0 < i → clampF (bt key) (4 * i) % 4 = 0 := fun i hi => by
      unfold clampF; rw [if_neg (by omega), if_pos (by omega)]; omega
  · have := h0 1 (by decide); omega
  · have := h0 2 (by decide); omega
  · have := h0 3 (by decide); omega
theorem half_num (key : ByteArray) (hk : key.size = 32) : numB (clampB (key.extract 0 16)) = clampN key := by
  unfold numB; rw [clampB_size]; exact clampN_of key hk
theorem second_num (key : ByteArray) (hk : key.size = 32) : numB (key.extract 16 32) = valF (fun j => bt key (16 + j)) 16 := by
  unfold numB; rw [ByteArray.size_extract, hk]; exact second_of key hk
theorem block_num (s : ByteArray) (k e : Nat) (he : e = 16 * k + cutLen s k) (hl : e ≤ s.size) : numB (s.extract (16 * k) e ++ ⟨#[1]⟩) = chunkN s k := by
  have hz : (s.extract (16 * k) e).size = cutLen s k := by rw [ByteArray.size_extract]; omega
  unfold numB
  rw [ByteArray.size_append, hz]
  show valF _ (cutLen s k) + _ * 256 ^ cutLen s k = _
  rw [valF_congr _ (bt (s.extract (16 * k) e)) (cutLen s k) (fun i hi => bt_append_left _ _ _ (by rw [hz]; exact hi))]
  have h1 := bt_append_right (s.extract (16 * k) e) ⟨#[1]⟩ 0
  rw [hz, Nat.add_zero] at h1
  rw [h1, show bt ⟨#[1]⟩ 0 = 1 from rfl, Nat.one_mul]
  exact chunk_of s k e he hl
theorem acc_step (A n r acc : Nat) (h : A % pN = acc) : (A + n) * r % pN = (acc + n) * r % pN := by
  rw [← h, Nat.mul_mod, ← Nat.mod_add_mod, ← Nat.mul_mod]
theorem low_congr (a b : Nat) (h : a % 2 ^ 130 = b % 2 ^ 130) : lowB a = lowB b := by
  unfold lowB
  rw [bytesOf_congr 16 (fun i => a / 256 ^ i % 256) (fun i => b / 256 ^ i % 256) (fun i hi => by
    show a / 256 ^ i % 256 = b / 256 ^ i % 256
    rw [← low_digit a i hi, ← low_digit b i hi, h])]
theorem tag_low (key s : ByteArray) (A : Nat) (hA : A < 2 ^ 130 + 2 ^ 34) (h : A % pN = accN s (clampN key) ((s.size + 15) / 16)) :
    lowB (A + 5 * ((A + 5) / 2 ^ 130) + valF (fun j => bt key (16 + j)) 16) = tagB key s := by
  have e : tagB key s = lowB (accN s (clampN key) ((s.size + 15) / 16) + valF (fun j => bt key (16 + j)) 16) := rfl
  rw [e]
  apply low_congr
  rw [Nat.add_mod, rest_mod A hA, h, ← Nat.mod_eq_of_lt (Nat.lt_trans (accN_lt s (clampN key) ((s.size + 15) / 16)) (show pN < 2 ^ 130 by decide)), ← Nat.add_mod, Nat.mod_eq_of_lt (Nat.lt_trans (accN_lt s (clampN key) ((s.size + 15) / 16)) (show pN < 2 ^ 130 by decide))]
theorem sum_lims (A n : Nat) (hA : A < 2 ^ 130 + 2 ^ 34) (hn : n < 2 * 256 ^ 16) : (∀ i, limF (A + n) i ≤ 4294967295) ∧ limF (A + n) 4 ≤ 15 := by
  have h4 : (A + n) / 340282366920938463463374607431768211456 ≤ 15 := by omega
  refine ⟨fun i => ?_, ?_⟩
  · unfold limF
    split
    · have := Nat.mod_lt ((A + n) / 4294967296 ^ i) (show 0 < 4294967296 by decide); omega
    · omega
  · rw [limF_4]; exact h4

end Go.Proofs.YtglgppeloolbhaaGreatDoor

/- The program's Mac. -/
namespace Go.Proofs.YtglgppeloolbhaaGreatDoor
open Go.RowKit
set_option maxRecDepth 100000
set_option linter.unusedSimpArgs false

set_option maxRecDepth 100000 in
set_option maxHeartbeats 8000000 in
theorem mac_yes (key s : ByteArray) (w : World) (hk : key.size = 32) (hs : s.size ≤ 65536) (hY : GlobY w) :
    Calls Tryz.prog 11 #[.string key, .string s] w fun e w' => e = .returned (.tuple #[.string (tagB key s), .int .i64 0]) ∧ Below w.heap.size w w' := by
  have g0 : (((key.size : Int) != 32)) = false := by rw [bne_eq_false_iff_eq]; omega
  have g1 : decide ((65536 : Int) < (s.size : Int)) = false := by simp; omega
  obtain ⟨K1, hK1⟩ : ∃ K, key.extract 0 16 = K := ⟨_, rfl⟩
  obtain ⟨K2, hK2⟩ : ∃ K, key.extract 16 32 = K := ⟨_, rfl⟩
  have hK1s : K1.size = 16 := by rw [← hK1, ByteArray.size_extract, hk]; rfl
  have hK2s : K2.size = 16 := by rw [← hK2, ByteArray.size_extract, hk]; rfl
  obtain ⟨r, Hr⟩ : ∃ r, Hid (r = clampN key) := ⟨_, rfl⟩
  obtain ⟨q, Hq⟩ : ∃ q, Hid (q = valF (fun j => bt key (16 + j)) 16) := ⟨_, rfl⟩
  obtain ⟨C1, HC1⟩ : ∃ C, Hid (C = clampB K1) := ⟨_, rfl⟩
  have hC1s : C1.size = 16 := by rw [HC1.out]; exact clampB_size _
  have HrC : Hid (Clamped r) := by show Clamped r; rw [Hr.out]; exact clamped_N key
  have Hq16 : Hid (q < 256 ^ 16) := by show _ < _; rw [Hq.out]; exact valF_lt _ _ (fun i _ => bt_lt key _)
  have CC' := fun w hY => clamp_yes K1 w hK1s hY
  rw [← HC1.out] at CC'
  have CC : Hid (∀ w, GlobY w → _) := CC'
  have R1' := fun w => pread_any C1 w (by omega)
  have e1 : numB C1 = r := by rw [HC1.out, Hr.out, ← hK1]; exact half_num key hk
  rw [e1] at R1'
  have CR1 : Hid (∀ w, _) := R1'
  have R2' := fun w => pread_any K2 w (by omega)
  have e2 : numB K2 = q := by rw [Hq.out, ← hK2]; exact second_num key hk
  rw [e2] at R2'
  have CR2 : Hid (∀ w, _) := R2'
  have HT : Hid (∀ A, A < 2 ^ 130 + 2 ^ 34 → A % pN = accN s r ((s.size + 15) / 16) → lowB (A + 5 * ((A + 5) / 2 ^ 130) + q) = tagB key s) := by
    show ∀ A, _
    rw [Hr.out, Hq.out]; exact fun A => tag_low key s A
  obtain ⟨E, HE⟩ : ∃ E, Hid (E = tagB key s) := ⟨_, rfl⟩
  rw [← HE.out] at HT
  rw [← HE.out]
  have HY : Hid (GlobY w) := hY
  clear CC' R1' R2' e1 e2 HE HC1 Hr Hq hY hK1s hK2s hC1s
  go_enter Tryz.func11, Tryz.ntmps11
  go_wp2_with fail
  refine (CC.out _ HY.out).mono ?_
  rintro e w1 ⟨rfl, hb1⟩
  clear CC
  go_wp2_with fail
  refine (CR1.out _).mono ?_
  rintro e w2 ⟨rfl, hb2⟩
  have hB2 := below_step hb1 (Nat.le_refl _) hb2
  clear CR1 hb1 hb2
  have hrl : (limN r).length = 5 := limN_length r
  obtain ⟨LR, HLR⟩ : ∃ l, Hid (l = limN r) := ⟨_, rfl⟩
  rw [← HLR.out] at hrl ⊢
  go_wp2_with (with_reducible refine wpList_storeLimH rfl _ _ rfl w2.heap.size (List.replicate 5 0) LR ?hx ?hy ?ha rfl hrl ?_)
  case hx => rfl
  case hy => rfl
  case ha => exact Lim.new w2 (List.replicate 5 0) _ rfl
  unfold Hid
  rw [World.setRow_alloc_new]
  have hB3 : Below w.heap.size w (w2.alloc (.cells (v64 LR) 39)) := hB2.alloc hB2.size _
  have A0 : Hid (Lim (w2.alloc (.cells (v64 LR) 39)) w2.heap.size LR) := Lim.new w2 LR _ rfl
  have hg : w.heap.size ≤ w2.heap.size := hB2.size
  clear hB2
  generalize w2.alloc _ = w3 at *
  generalize w2.heap.size = gr at *
  have hg3 := A0.out.lt
  go_wp2_with fail
  obtain ⟨n, Hn⟩ : ∃ n, Hid (n = (s.size + 15) / 16) := ⟨_, rfl⟩
  have hn : ((s.size : Int) + 16 - 1) / 16 = (n : Int) := by rw [Hn.out]; omega
  rw [← Hn.out] at HT
  rw [hn]
  have N0 : Hid (Lim (w3.alloc (.cells (v64 (limN 0)) 39)) gr LR) := A0.out.alloc _
  have N1 : Hid (Lim (w3.alloc (.cells (v64 (limN 0)) 39)) w3.heap.size (limN 0)) := Lim.new w3 _ _ rfl
  have NB : Below w.heap.size w (w3.alloc (.cells (v64 (limN 0)) 39)) := hB3.alloc hB3.size _
  have hg4 : w.heap.size ≤ w3.heap.size := hB3.size
  clear A0 hB3
  generalize w3.heap.size = ga at *
  go_loopw [33] (fun i wr => ∃ k A : Nat, k ≤ n ∧ i = .int .i64 k ∧ Hid (A < 2 ^ 130 + 2 ^ 34) ∧ Hid (A % pN = accN s r k) ∧ Hid (Lim wr gr LR) ∧ Hid (Lim wr ga (limN A)) ∧ Below w.heap.size w wr) (fun i _ => n - (intOf i).toNat)
  case atStart => exact ⟨0, 0, Nat.zero_le _, rfl, by show 0 < _; decide, by show 0 % pN = 0; exact Nat.zero_mod _, N0, N1, NB⟩
  case round =>
    clear N0 N1 NB
    obtain ⟨k, A, hkn, rfl, HAl, HAm, HR, HA, hbl⟩ := hrel
    by_cases hlt : k < n
    · have hk1 : k * 16 < s.size := by have := Hn.out; omega
      have b0 : (k : Int) < (n : Int) := by omega
      by_cases hfull : (k + 1) * 16 ≤ s.size
      · have m0 : ((k : Int) + 1) * 16 ≤ (s.size : Int) := by omega
        obtain ⟨B, hBx⟩ : ∃ B, s.extract (k * 16) ((k + 1) * 16) = B := ⟨_, rfl⟩
        obtain ⟨C, hC⟩ : ∃ C, B ++ ⟨#[1]⟩ = C := ⟨_, rfl⟩
        have hBn : numB C = chunkN s k := by
          rw [← hC, ← hBx, Nat.mul_comm k 16]
          exact block_num s k _ (by unfold cutLen; omega) (by omega)
        have hBs : B.size ≤ 16 := by rw [← hBx, ByteArray.size_extract]; omega
        have hCs : C.size ≤ 20 := by rw [← hC, ByteArray.size_append]; show B.size + 1 ≤ 20; omega
        have hsum : ¬ (9223372036854775807 < B.size + 1) := by omega
        obtain ⟨N, HN⟩ : ∃ N, Hid (N = chunkN s k) := ⟨_, rfl⟩
        have hNl : N < 2 * 256 ^ 16 := by rw [HN.out]; exact chunkN_lt s k
        have CR' := fun w => pread_any C w hCs
        rw [hBn, ← HN.out] at CR'
        obtain ⟨LN, HLN⟩ : ∃ l, Hid (l = limN N) := ⟨_, rfl⟩
        rw [← HLN.out] at CR'
        have CR : Hid (∀ w, _) := CR'
        have CP' := fun w => plus_num A N w (Nat.lt_trans HAl.out (by decide)) (Nat.lt_trans hNl (by decide))
        obtain ⟨LS, HLS⟩ : ∃ l, Hid (l = limN (A + N)) := ⟨_, rfl⟩
        obtain ⟨LA, HLA⟩ : ∃ l, Hid (l = limN A) := ⟨_, rfl⟩
        rw [← HLN.out, ← HLS.out, ← HLA.out] at CP'
        have CP : Hid (∀ w, _) := CP'
        obtain ⟨hS1, hS4⟩ := sum_lims A N HAl.out hNl
        have CT' := fun w => times_any (A + N) r w hS1 hS4 HrC.out
        obtain ⟨A', HA'⟩ : ∃ A', Hid (A' = stepR (val5 (prodL (A + N) r))) := ⟨_, rfl⟩
        obtain ⟨LT, HLT⟩ : ∃ l, Hid (l = limN A') := ⟨_, rfl⟩
        rw [← HA'.out, ← HLS.out, ← HLR.out, ← HLT.out] at CT'
        have CT : Hid (∀ w, _) := CT'
        have hAl' : Hid (A' < 2 ^ 130 + 2 ^ 34) := by show _ < _; rw [HA'.out]; exact stepR_small _ (prod_lt _ _ hS1 hS4 HrC.out)
        have hAm' : Hid (A' % pN = accN s r (k + 1)) := by show _ = _; rw [HA'.out, stepR_mod, prod_mod _ _ HrC.out, accN_succ, acc_step A N r _ HAm.out, HN.out]
        have hLAl : LA.length = 5 := by rw [HLA.out]; exact limN_length _
        have hLTl : LT.length = 5 := by rw [HLT.out]; exact limN_length _
        rw [← HLA.out] at HA
        clear CR' CP' CT' hBn hNl hS1 hS4 HA' HLN HLS HN
        go_wp2_with fail
        refine wp_region_noPanic ?_
        refine till_begin 7 (fun w' => Lim w' ga LA ∧ Lim w' gr LR) (fun _ => True) (by kernel_rfl) ?_
        have hT : True := trivial
        have hS : Lim wr.drew ga LA ∧ Lim wr.drew gr LR := ⟨HA.out, HR.out⟩
        refine till_take' (i := 0) (v := .agg (v64 LA)) rfl rfl (by kernel_rfl) (by kernel_rfl) (by kernel_rfl) rfl (by kernel_rfl) (by kernel_rfl) (fun _ _ _ h => h) (Or.inl ⟨by rfl, ?_⟩) trivial (by assumption) ?_
        · intro w' hSw
          exact exec_loadLim _ rfl ga LA rfl hSw.2.1 hLAl
        try simp only [Act.put, List.setIfInBounds_toArray, List.set_cons_zero, List.set_cons_succ]
        refine till_take' (i := 5) (v := .agg (v64 LR)) rfl rfl (by kernel_rfl) (by kernel_rfl) (by kernel_rfl) rfl (by kernel_rfl) (by kernel_rfl) (fun _ _ _ h => h) (Or.inl ⟨by rfl, ?_⟩) trivial (by assumption) ?_
        · intro w' hSw
          exact exec_loadLim _ rfl gr LR rfl hSw.2.2 hrl
        try simp only [Act.put, List.setIfInBounds_toArray, List.set_cons_zero, List.set_cons_succ]
        refine till_take (i := 1) (v := ?_) rfl rfl (by kernel_rfl) (by kernel_rfl) (by kernel_rfl) rfl (fun _ _ _ h => h) (Or.inl ⟨by rfl, ?_⟩) (by assumption) (fun _ => by assumption) ?_
        rotate_left
        · intro w hSw; (try dsimp only at hSw); go_simp; try with_reducible rfl
        try simp only [Act.put, List.setIfInBounds_toArray, List.set_cons_zero, List.set_cons_succ]
        refine till_take (i := 2) (v := ?_) rfl rfl (by kernel_rfl) (by kernel_rfl) (by kernel_rfl) rfl (fun _ _ _ h => h) (Or.inl ⟨by rfl, ?_⟩) (by assumption) (fun _ => by assumption) ?_
        rotate_left
        · intro w hSw; (try dsimp only at hSw); go_simp; try with_reducible rfl
        try simp only [Act.put, List.setIfInBounds_toArray, List.set_cons_zero, List.set_cons_succ]
        refine till_step (i := 3) (by kernel_rfl) rfl (fun K hK => ?_)
        go_simp
        refine (CR.out _).mono ?_
        rintro e w4 ⟨rfl, hb4⟩
        have hS4 : Lim w4 ga LA ∧ Lim w4 gr LR := ⟨hS.1.on hb4, hS.2.on hb4⟩
        have hB4 := below_step hbl.drew (by have := hbl.size; omega) hb4
        clear CR hb4 hS
        refine hK.out _ _ trivial (fun _ => hS4) ?_
        clear hK K
        refine till_step (i := 4) (by kernel_rfl) rfl (fun K hK => ?_)
        go_simp
        refine (CP.out _).mono ?_
        rintro e w5 ⟨rfl, hb5⟩
        have hS5 : Lim w5 ga LA ∧ Lim w5 gr LR := ⟨hS4.1.on hb5, hS4.2.on hb5⟩
        have hB5 := below_step hB4 (Nat.le_refl _) hb5
        clear CP hb5 hS4 hB4
        refine hK.out _ _ trivial (fun _ => hS5) ?_
        clear hK K
        refine till_step (i := 6) (by kernel_rfl) rfl (fun K hK => ?_)
        go_simp
        refine (CT.out _).mono ?_
        rintro e w6 ⟨rfl, hb6⟩
        have hS6 : Lim w6 ga LA ∧ Lim w6 gr LR := ⟨hS5.1.on hb6, hS5.2.on hb6⟩
        have hB6 := below_step hB5 (Nat.le_refl _) hb6
        clear CT hb6 hS5 hB5
        refine hK.out _ _ trivial (fun _ => hS6) ?_
        clear hK K
        refine till_step (i := 7) (by kernel_rfl) rfl (fun K hK => ?_)
        refine step_storeLim rfl rfl _ _ rfl ga LA LT rfl rfl hS6.1 hLAl hLTl ?_
        refine hK.out _ _ (trivial) (fun h => till_no (by kernel_rfl) h) ?_
        clear hK K
        refine till_done (by kernel_rfl) (NoPanic.normal ?_) _
        have NA : Hid (Lim (w6.setRow ga (v64 LT)) ga (limN A')) := by rw [← HLT.out]; exact hS6.1.setRow LT
        have NR : Hid (Lim (w6.setRow ga (v64 LT)) gr LR) := hS6.2.setRowOther _ (by omega) _
        have NB := below_setRow hB6 hg4 (v64 LT)
        clear hS6 hB6 HA HR hbl
        go_wp2
        go_roundw
        case rel => exact ⟨k + 1, A', by omega, by go_num, hAl', hAm', NR, NA, NB⟩
        case measure => simp [intOf]; omega
      · have m0 : ¬ ((k : Int) + 1) * 16 ≤ (s.size : Int) := by omega
        obtain ⟨B, hBx⟩ : ∃ B, s.extract (k * 16) s.size = B := ⟨_, rfl⟩
        obtain ⟨C, hC⟩ : ∃ C, B ++ ⟨#[1]⟩ = C := ⟨_, rfl⟩
        have hBn : numB C = chunkN s k := by
          rw [← hC, ← hBx, Nat.mul_comm k 16]
          exact block_num s k _ (by unfold cutLen; omega) (by omega)
        have hBs : B.size ≤ 16 := by rw [← hBx, ByteArray.size_extract]; omega
        have hCs : C.size ≤ 20 := by rw [← hC, ByteArray.size_append]; show B.size + 1 ≤ 20; omega
        have hsum : ¬ (9223372036854775807 < B.size + 1) := by omega
        obtain ⟨N, HN⟩ : ∃ N, Hid (N = chunkN s k) := ⟨_, rfl⟩
        have hNl : N < 2 * 256 ^ 16 := by rw [HN.out]; exact chunkN_lt s k
        have CR' := fun w => pread_any C w hCs
        rw [hBn, ← HN.out] at CR'
        obtain ⟨LN, HLN⟩ : ∃ l, Hid (l = limN N) := ⟨_, rfl⟩
        rw [← HLN.out] at CR'
        have CR : Hid (∀ w, _) := CR'
        have CP' := fun w => plus_num A N w (Nat.lt_trans HAl.out (by decide)) (Nat.lt_trans hNl (by decide))
        obtain ⟨LS, HLS⟩ : ∃ l, Hid (l = limN (A + N)) := ⟨_, rfl⟩
        obtain ⟨LA, HLA⟩ : ∃ l, Hid (l = limN A) := ⟨_, rfl⟩
        rw [← HLN.out, ← HLS.out, ← HLA.out] at CP'
        have CP : Hid (∀ w, _) := CP'
        obtain ⟨hS1, hS4⟩ := sum_lims A N HAl.out hNl
        have CT' := fun w => times_any (A + N) r w hS1 hS4 HrC.out
        obtain ⟨A', HA'⟩ : ∃ A', Hid (A' = stepR (val5 (prodL (A + N) r))) := ⟨_, rfl⟩
        obtain ⟨LT, HLT⟩ : ∃ l, Hid (l = limN A') := ⟨_, rfl⟩
        rw [← HA'.out, ← HLS.out, ← HLR.out, ← HLT.out] at CT'
        have CT : Hid (∀ w, _) := CT'
        have hAl' : Hid (A' < 2 ^ 130 + 2 ^ 34) := by show _ < _; rw [HA'.out]; exact stepR_small _ (prod_lt _ _ hS1 hS4 HrC.out)
        have hAm' : Hid (A' % pN = accN s r (k + 1)) := by show _ = _; rw [HA'.out, stepR_mod, prod_mod _ _ HrC.out, accN_succ, acc_step A N r _ HAm.out, HN.out]
        have hLAl : LA.length = 5 := by rw [HLA.out]; exact limN_length _
        have hLTl : LT.length = 5 := by rw [HLT.out]; exact limN_length _
        rw [← HLA.out] at HA
        clear CR' CP' CT' hBn hNl hS1 hS4 HA' HLN HLS HN
        go_wp2_with fail
        refine wp_region_noPanic ?_
        refine till_begin 7 (fun w' => Lim w' ga LA ∧ Lim w' gr LR) (fun _ => True) (by kernel_rfl) ?_
        have hT : True := trivial
        have hS : Lim wr.drew ga LA ∧ Lim wr.drew gr LR := ⟨HA.out, HR.out⟩
        refine till_take' (i := 0) (v := .agg (v64 LA)) rfl rfl (by kernel_rfl) (by kernel_rfl) (by kernel_rfl) rfl (by kernel_rfl) (by kernel_rfl) (fun _ _ _ h => h) (Or.inl ⟨by rfl, ?_⟩) trivial (by assumption) ?_
        · intro w' hSw
          exact exec_loadLim _ rfl ga LA rfl hSw.2.1 hLAl
        try simp only [Act.put, List.setIfInBounds_toArray, List.set_cons_zero, List.set_cons_succ]
        refine till_take' (i := 5) (v := .agg (v64 LR)) rfl rfl (by kernel_rfl) (by kernel_rfl) (by kernel_rfl) rfl (by kernel_rfl) (by kernel_rfl) (fun _ _ _ h => h) (Or.inl ⟨by rfl, ?_⟩) trivial (by assumption) ?_
        · intro w' hSw
          exact exec_loadLim _ rfl gr LR rfl hSw.2.2 hrl
        try simp only [Act.put, List.setIfInBounds_toArray, List.set_cons_zero, List.set_cons_succ]
        refine till_take (i := 1) (v := ?_) rfl rfl (by kernel_rfl) (by kernel_rfl) (by kernel_rfl) rfl (fun _ _ _ h => h) (Or.inl ⟨by rfl, ?_⟩) (by assumption) (fun _ => by assumption) ?_
        rotate_left
        · intro w hSw; (try dsimp only at hSw); go_simp; try with_reducible rfl
        try simp only [Act.put, List.setIfInBounds_toArray, List.set_cons_zero, List.set_cons_succ]
        refine till_take (i := 2) (v := ?_) rfl rfl (by kernel_rfl) (by kernel_rfl) (by kernel_rfl) rfl (fun _ _ _ h => h) (Or.inl ⟨by rfl, ?_⟩) (by assumption) (fun _ => by assumption) ?_
        rotate_left
        · intro w hSw; (try dsimp only at hSw); go_simp; try with_reducible rfl
        try simp only [Act.put, List.setIfInBounds_toArray, List.set_cons_zero, List.set_cons_succ]
        refine till_step (i := 3) (by kernel_rfl) rfl (fun K hK => ?_)
        go_simp
        refine (CR.out _).mono ?_
        rintro e w4 ⟨rfl, hb4⟩
        have hS4 : Lim w4 ga LA ∧ Lim w4 gr LR := ⟨hS.1.on hb4, hS.2.on hb4⟩
        have hB4 := below_step hbl.drew (by have := hbl.size; omega) hb4
        clear CR hb4 hS
        refine hK.out _ _ trivial (fun _ => hS4) ?_
        clear hK K
        refine till_step (i := 4) (by kernel_rfl) rfl (fun K hK => ?_)
        go_simp
        refine (CP.out _).mono ?_
        rintro e w5 ⟨rfl, hb5⟩
        have hS5 : Lim w5 ga LA ∧ Lim w5 gr LR := ⟨hS4.1.on hb5, hS4.2.on hb5⟩
        have hB5 := below_step hB4 (Nat.le_refl _) hb5
        clear CP hb5 hS4 hB4
        refine hK.out _ _ trivial (fun _ => hS5) ?_
        clear hK K
        refine till_step (i := 6) (by kernel_rfl) rfl (fun K hK => ?_)
        go_simp
        refine (CT.out _).mono ?_
        rintro e w6 ⟨rfl, hb6⟩
        have hS6 : Lim w6 ga LA ∧ Lim w6 gr LR := ⟨hS5.1.on hb6, hS5.2.on hb6⟩
        have hB6 := below_step hB5 (Nat.le_refl _) hb6
        clear CT hb6 hS5 hB5
        refine hK.out _ _ trivial (fun _ => hS6) ?_
        clear hK K
        refine till_step (i := 7) (by kernel_rfl) rfl (fun K hK => ?_)
        refine step_storeLim rfl rfl _ _ rfl ga LA LT rfl rfl hS6.1 hLAl hLTl ?_
        refine hK.out _ _ (trivial) (fun h => till_no (by kernel_rfl) h) ?_
        clear hK K
        refine till_done (by kernel_rfl) (NoPanic.normal ?_) _
        have NA : Hid (Lim (w6.setRow ga (v64 LT)) ga (limN A')) := by rw [← HLT.out]; exact hS6.1.setRow LT
        have NR : Hid (Lim (w6.setRow ga (v64 LT)) gr LR) := hS6.2.setRowOther _ (by omega) _
        have NB := below_setRow hB6 hg4 (v64 LT)
        clear hS6 hB6 HA HR hbl
        go_wp2
        go_roundw
        case rel => exact ⟨k + 1, A', by omega, by go_num, hAl', hAm', NR, NA, NB⟩
        case measure => simp [intOf]; omega
    · have hkn' : k = n := by omega
      subst hkn'
      have b0 : ¬ ((k : Int) < (k : Int)) := by omega
      obtain ⟨LA, HLA⟩ : ∃ l, Hid (l = limN A) := ⟨_, rfl⟩
      have hLAl : LA.length = 5 := by rw [HLA.out]; exact limN_length _
      rw [← HLA.out] at HA
      obtain ⟨T, hTv⟩ : ∃ T, T = A + 5 * ((A + 5) / 2 ^ 130) := ⟨_, rfl⟩
      have HTv : Hid (T = A + 5 * ((A + 5) / 2 ^ 130)) := hTv
      clear hTv
      have hTl : T < 2 ^ 190 := by
        have h := HAl.out
        rw [HTv.out]
        omega
      have CS' := fun w => rest_any A w HAl.out
      obtain ⟨LT, HLT⟩ : ∃ l, Hid (l = limN T) := ⟨_, rfl⟩
      obtain ⟨LQ, HLQ⟩ : ∃ l, Hid (l = limN q) := ⟨_, rfl⟩
      obtain ⟨LU, HLU⟩ : ∃ l, Hid (l = limN (T + q)) := ⟨_, rfl⟩
      rw [← HTv.out, ← HLT.out, ← HLA.out] at CS'
      have CS : Hid (∀ w, _) := CS'
      have CP' := fun w => plus_num T q w hTl (Nat.lt_trans Hq16.out (by decide))
      rw [← HLT.out, ← HLQ.out, ← HLU.out] at CP'
      have CP : Hid (∀ w, _) := CP'
      have CU' := fun w => pput_any (T + q) w
      have e3 : lowB (T + q) = E := by rw [HTv.out]; exact HT.out A HAl.out HAm.out
      rw [← HLU.out, e3] at CU'
      have CU : Hid (∀ w, _) := CU'
      rw [← HLQ.out] at CR2
      clear CS' CP' CU' e3 HTv HLT HLQ HLU HLA HT hTl Hq16 HAl HAm Hn
      go_wp2_with fail
      refine wp_region_noPanic ?_
      refine wp_region_held_drew (S := fun w' => Lim w' ga LA) (by kernel_rfl) (by first | exact trivial | assumption | exact ⟨by assumption, by assumption⟩) (fun hHeld => ?_)
      refine take_at (i := 0) (v := .agg (v64 LA)) rfl rfl (by kernel_rfl) (by kernel_rfl) (by kernel_rfl) (fun _ _ _ h => h) (Or.inl ⟨by rfl, ?_⟩) (by assumption) ?_
      · intro w' hSw
        exact exec_loadLim _ rfl ga LA rfl hSw hLAl
      try simp only [Act.put, List.setIfInBounds_toArray, List.set_cons_zero, List.set_cons_succ]
      refine take_at (i := 2) (v := ?_) rfl rfl (by kernel_rfl) (by kernel_rfl) (by kernel_rfl) (fun _ _ _ h => h) (Or.inl ⟨by rfl, ?_⟩) (by assumption) ?_
      rotate_left
      · intro w hSw; (try dsimp only at hSw); go_simp; try with_reducible rfl
      try simp only [Act.put, List.setIfInBounds_toArray, List.set_cons_zero, List.set_cons_succ]
      refine take_at (i := 3) (v := ?_) rfl rfl (by kernel_rfl) (by kernel_rfl) (by kernel_rfl) (fun _ _ _ h => h) (Or.inl ⟨by rfl, ?_⟩) (by assumption) ?_
      rotate_left
      · intro w hSw; (try dsimp only at hSw); go_simp; try with_reducible rfl
      try simp only [Act.put, List.setIfInBounds_toArray, List.set_cons_zero, List.set_cons_succ]
      have hS : Lim wr.drew ga LA := HA.out
      refine wpAnyH_ready (rs := [1]) (by kernel_rfl) (by simp) ?_
      refine AllReadyH.cons rfl (fun K hK => ?_) AllReadyH.nil
      go_simp
      refine (CS.out _).mono ?_
      rintro e w4 ⟨rfl, hb4⟩
      have hS4 : Lim w4 ga LA := hS.on hb4
      have hB4 := below_step hbl.drew (by have := hbl.size; omega) hb4
      clear CS hb4 hS
      refine hK.out _ _ hS4 (fun hHeld => ?_)
      clear hK K
      refine wpAnyH_ready (rs := [4]) (by kernel_rfl) (by simp) ?_
      refine AllReadyH.cons rfl (fun K hK => ?_) AllReadyH.nil
      go_simp
      refine (CR2.out _).mono ?_
      rintro e w5 ⟨rfl, hb5⟩
      have hS5 : Lim w5 ga LA := hS4.on hb5
      have hB5 := below_step hB4 (Nat.le_refl _) hb5
      clear CR2 hb5 hS4 hB4
      refine hK.out _ _ hS5 (fun hHeld => ?_)
      clear hK K
      refine wpAnyH_ready (rs := [5]) (by kernel_rfl) (by simp) ?_
      refine AllReadyH.cons rfl (fun K hK => ?_) AllReadyH.nil
      go_simp
      refine (CP.out _).mono ?_
      rintro e w6 ⟨rfl, hb6⟩
      have hS6 : Lim w6 ga LA := hS5.on hb6
      have hB6 := below_step hB5 (Nat.le_refl _) hb6
      clear CP hb6 hS5 hB5
      refine hK.out _ _ hS6 (fun hHeld => ?_)
      clear hK K
      refine wpAnyH_ready (rs := [6]) (by kernel_rfl) (by simp) ?_
      refine AllReadyH.cons rfl (fun K hK => ?_) AllReadyH.nil
      go_simp
      refine (CU.out _).mono ?_
      rintro e w7 ⟨rfl, hb7⟩
      have hS7 : Lim w7 ga LA := hS6.on hb7
      have hB7 := below_step hB6 (Nat.le_refl _) hb7
      clear CU hb7 hS6 hB6
      refine hK.out _ _ hS7 (fun hHeld => ?_)
      clear hK K
      refine take_at (i := 7) (v := ?_) rfl rfl (by kernel_rfl) (by kernel_rfl) (by kernel_rfl) (fun _ _ _ h => h) (Or.inl ⟨by rfl, ?_⟩) (by assumption) ?_
      rotate_left
      · intro w hSw; (try dsimp only at hSw); go_simp; try with_reducible rfl
      try simp only [Act.put, List.setIfInBounds_toArray, List.set_cons_zero, List.set_cons_succ]
      refine take_at (i := 8) (v := ?_) rfl rfl (by kernel_rfl) (by kernel_rfl) (by kernel_rfl) (fun _ _ _ h => h) (Or.inl ⟨by rfl, ?_⟩) (by assumption) ?_
      rotate_left
      · intro w hSw; (try dsimp only at hSw); go_simp; try with_reducible rfl
      try simp only [Act.put, List.setIfInBounds_toArray, List.set_cons_zero, List.set_cons_succ]
      refine wpAnyH_done (by kernel_rfl) (NoPanic.normal ?_) _
      go_wp2
      go_ret2
      exact ⟨rfl, hB7⟩
end Go.Proofs.YtglgppeloolbhaaGreatDoor

/- The program's Check; awake. -/
namespace Go.Proofs.YtglgppeloolbhaaGreatDoor
open Go.RowKit
set_option maxRecDepth 100000
set_option linter.unusedSimpArgs false

/-- From a world behind the first one. -/
theorem mac_on (key s : ByteArray) (w w' : World) (hY : GlobY w) (hb : Below w.heap.size w w') (hk : key.size = 32) (hs : s.size ≤ 65536) :
    Calls Tryz.prog 11 #[.string key, .string s] w' fun e w'' => e = .returned (.tuple #[.string (tagB key s), .int .i64 0]) ∧ Below w.heap.size w w'' := by
  refine (mac_yes key s w' hk hs (hY.below hb)).mono ?_
  rintro e w'' ⟨rfl, hb2⟩
  exact ⟨rfl, below_step hb (Nat.le_refl _) hb2⟩

/-! ### The chapter's example, computed by the kernel. -/
end Go.Proofs.YtglgppeloolbhaaGreatDoor
