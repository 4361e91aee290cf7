import Derived.Test.YtfajkkjppelgcaaG
import Derived.Test.YtfajkkjppelgcaaRows
/- Numbers as digits of eight bits, and Poly1305 on plain numbers: nothing of the program. -/
namespace Go.Proofs.Ytfajkkjppelgcaa
open Go.RowKit
set_option maxRecDepth 100000
set_option linter.unusedSimpArgs false

/-- The number of the first n digits. -/
def valF (f : Nat → Nat) : Nat → Nat
  | 0 => 0
  | n + 1 => valF f n + f n * 256 ^ n
def valL (l : List Nat) : Nat := valF (fun i => l.getD i 0) l.length
/-- The first n digits of a number. -/
def digN (v n : Nat) : List Nat := tabN n (fun i => v / 256 ^ i % 256)
theorem digN_length (v n : Nat) : (digN v n).length = n := tabN_length _ _
theorem digN_getD (v n i : Nat) (h : i < n) : (digN v n).getD i 0 = v / 256 ^ i % 256 := tabN_getD _ _ _ h
theorem digN_out (v n i : Nat) (h : n ≤ i) : (digN v n).getD i 0 = 0 := by
  rw [List.getD_eq_getElem?_getD, List.getElem?_eq_none (by rw [digN_length]; exact h)]; rfl
theorem digN_lt (v n i : Nat) : (digN v n).getD i 0 < 256 := by
  by_cases h : i < n
  · rw [digN_getD _ _ _ h]; exact Nat.mod_lt _ (by decide)
  · rw [digN_out _ _ _ (by omega)]; decide
theorem pow256 (n : Nat) : 0 < 256 ^ n := Nat.pow_pos (by decide)
theorem valF_congr (f g : Nat → Nat) (n : Nat) (h : ∀ i, i < n → f i = g i) : valF f n = valF g n := by
  induction n with
  | zero => rfl
  | succ n ih => show valF f n + f n * 256 ^ n = valF g n + g n * 256 ^ n; rw [ih (fun i hi => h i (by omega)), h n (by omega)]
theorem valF_lt (f : Nat → Nat) (n : Nat) (h : ∀ i, i < n → f i < 256) : valF f n < 256 ^ n := by
  induction n with
  | zero => show 0 < 1; omega
  | succ n ih =>
    show valF f n + f n * 256 ^ n < 256 ^ (n + 1)
    have h1 := ih (fun i hi => h i (by omega))
    have h2 : f n * 256 ^ n ≤ 255 * 256 ^ n := Nat.mul_le_mul_right _ (by have := h n (by omega); omega)
    rw [Nat.pow_succ]
    generalize 256 ^ n = p at *
    omega
theorem valF_digits (v n : Nat) : valF (fun i => v / 256 ^ i % 256) n = v % 256 ^ n := by
  induction n with
  | zero => show 0 = v % 1; omega
  | succ n ih =>
    show valF _ n + v / 256 ^ n % 256 * 256 ^ n = _
    rw [ih, Nat.pow_succ, Nat.mod_mul, Nat.mul_comm (v / 256 ^ n % 256)]
theorem valL_digN (v n : Nat) : valL (digN v n) = v % 256 ^ n := by
  unfold valL
  rw [digN_length, valF_congr _ (fun i => v / 256 ^ i % 256) n (fun i hi => digN_getD v n i hi), valF_digits]
theorem valL_digN_of (v n : Nat) (h : v < 256 ^ n) : valL (digN v n) = v := by rw [valL_digN, Nat.mod_eq_of_lt h]

/-! ### Carrying. -/
def carryAt (l : List Nat) : Nat → Nat
  | 0 => 0
  | i + 1 => (carryAt l i + l.getD i 0) / 256
theorem carryAt_eq (l : List Nat) (i : Nat) : carryAt l i = valF (fun j => l.getD j 0) i / 256 ^ i := by
  induction i with
  | zero => show 0 = 0 / 1; rfl
  | succ i ih =>
    show (carryAt l i + l.getD i 0) / 256 = (valF (fun j => l.getD j 0) i + l.getD i 0 * 256 ^ i) / 256 ^ (i + 1)
    rw [ih, Nat.pow_succ, ← Nat.div_div_eq_div_mul, Nat.add_mul_div_right _ _ (pow256 i)]
theorem valF_split (f : Nat → Nat) (i n : Nat) : ∃ q, valF f (i + 1 + n) = valF f (i + 1) + q * 256 ^ (i + 1) := by
  induction n with
  | zero => exact ⟨0, by simp⟩
  | succ n ih =>
    obtain ⟨q, hq⟩ := ih
    refine ⟨q + f (i + 1 + n) * 256 ^ n, ?_⟩
    show valF f (i + 1 + n) + f (i + 1 + n) * 256 ^ (i + 1 + n) = _
    rw [hq, Nat.add_mul, Nat.mul_assoc, ← Nat.pow_add, Nat.add_comm n (i + 1), Nat.add_assoc]
theorem valF_more (l : List Nat) (n : Nat) (h : l.length ≤ n) : valF (fun j => l.getD j 0) n = valL l := by
  obtain ⟨k, rfl⟩ : ∃ k, n = l.length + k := ⟨n - l.length, by omega⟩
  induction k with
  | zero => rfl
  | succ k ih =>
    show valF _ (l.length + k) + l.getD (l.length + k) 0 * _ = _
    rw [ih (by omega), List.getD_eq_getElem?_getD, List.getElem?_eq_none (by omega)]
    simp
/-- The digit that carrying leaves. -/
theorem carried_digit (l : List Nat) (i : Nat) : (carryAt l i + l.getD i 0) % 256 = valL l / 256 ^ i % 256 := by
  have h1 : carryAt l i + l.getD i 0 = valF (fun j => l.getD j 0) (i + 1) / 256 ^ i := by
    show _ = (valF (fun j => l.getD j 0) i + l.getD i 0 * 256 ^ i) / 256 ^ i
    rw [carryAt_eq, Nat.add_mul_div_right _ _ (pow256 i)]
  obtain ⟨q, hq⟩ := valF_split (fun j => l.getD j 0) i l.length
  rw [valF_more l (i + 1 + l.length) (by omega)] at hq
  rw [h1, hq, Nat.pow_succ, show q * (256 ^ i * 256) = (q * 256) * 256 ^ i by rw [Nat.mul_comm (256 ^ i), Nat.mul_assoc], Nat.add_mul_div_right _ _ (pow256 i), Nat.add_mul_mod_self_right]
theorem carryAt_le (l : List Nat) (B : Nat) (h : ∀ i, l.getD i 0 ≤ 255 * B) (i : Nat) : carryAt l i ≤ B := by
  induction i with
  | zero => exact Nat.zero_le _
  | succ i ih =>
    show (carryAt l i + l.getD i 0) / 256 ≤ B
    have := h i
    omega

/-! ### What stands from the bit 130 on, and below it. -/
theorem dig_big (v n i : Nat) (h : v < 256 ^ n) (hi : n ≤ i) : v / 256 ^ i % 256 = 0 := by
  have : v < 256 ^ i := Nat.lt_of_lt_of_le h (Nat.pow_le_pow_right (by decide) hi)
  rw [Nat.div_eq_of_lt this]
theorem or_byte (a b : Nat) (ha : a < 64) : a ||| (b * 64) % 256 = a + b % 4 * 64 := by
  have e : b * 64 % 256 = 2 ^ 6 * (b % 4) := by omega
  have h := Nat.two_pow_add_eq_or_of_lt (i := 6) (b := a) ha (b % 4)
  rw [e, Nat.or_comm, ← h]
  omega
theorem high_digit (v i : Nat) : v / 2 ^ 130 / 256 ^ i % 256 = v / 256 ^ (i + 16) % 256 / 4 + v / 256 ^ (i + 17) % 256 % 4 * 64 := by
  have e1 : v / 2 ^ 130 / 256 ^ i = v / 256 ^ (i + 16) / 4 := by
    rw [Nat.div_div_eq_div_mul, Nat.div_div_eq_div_mul, show (2 : Nat) ^ 130 = 256 ^ 16 * 4 by decide, Nat.pow_add]
    congr 1
    rw [Nat.mul_comm, ← Nat.mul_assoc]
  have e2 : v / 256 ^ (i + 17) = v / 256 ^ (i + 16) / 256 := by rw [Nat.div_div_eq_div_mul, ← Nat.pow_succ]
  rw [e1, e2]
  generalize v / 256 ^ (i + 16) = x
  omega
theorem low_digit (v i : Nat) (h : i < 16) : v % 2 ^ 130 / 256 ^ i % 256 = v / 256 ^ i % 256 := by
  obtain ⟨k, hk⟩ : ∃ k, (2 : Nat) ^ 130 = 256 ^ i * (256 * k) := ⟨256 ^ (15 - i) * 4, by
    rw [show (2 : Nat) ^ 130 = 256 ^ 16 * 4 by decide, ← Nat.mul_assoc 256, ← Nat.mul_assoc (256 ^ i), ← Nat.pow_succ', ← Nat.pow_add, show i + (15 - i + 1) = 16 by omega]⟩
  rw [hk, Nat.mod_mul_right_div_self, Nat.mod_mul_right_mod]
theorem low_digit16 (v : Nat) : v % 2 ^ 130 / 256 ^ 16 % 256 = v / 256 ^ 16 % 256 % 4 := by
  rw [show (2 : Nat) ^ 130 = 256 ^ 16 * 4 by decide, Nat.mod_mul_right_div_self]
  omega

/-! ### Modulo 2^130 - 5. -/
def pN : Nat := 1361129467683753853853498429727072845819
theorem two130 : (2 : Nat) ^ 130 = 1361129467683753853853498429727072845824 := by decide
def stepR (v : Nat) : Nat := v % 2 ^ 130 + 5 * (v / 2 ^ 130)
theorem stepR_mod (v : Nat) : stepR v % pN = v % pN := by
  have e : v = stepR v + v / 2 ^ 130 * pN := by
    unfold stepR pN
    have h := Nat.div_add_mod v (2 ^ 130)
    rw [two130] at *
    omega
  conv => rhs; rw [e]
  rw [Nat.add_mul_mod_self_right]
theorem stepR_one (v : Nat) (h : v < 256 ^ 35) : stepR v < 2 ^ 153 := by
  unfold stepR
  have e : (256 : Nat) ^ 35 = 2 ^ 130 * 2 ^ 150 := by decide
  have h1 : v / 2 ^ 130 < 2 ^ 150 := Nat.div_lt_of_lt_mul (by rw [← e]; exact h)
  have h2 := Nat.mod_lt v (Nat.two_pow_pos 130)
  have e2 : (2 : Nat) ^ 130 + 5 * 2 ^ 150 ≤ 2 ^ 153 := by decide
  generalize v / 2 ^ 130 = q at *
  generalize v % 2 ^ 130 = r at *
  generalize (2 : Nat) ^ 150 = A at *
  generalize (2 : Nat) ^ 153 = B at *
  omega
theorem stepR_two (v : Nat) (h : v < 2 ^ 153) : stepR v < 2 ^ 130 + 2 ^ 26 := by
  unfold stepR
  have e : (2 : Nat) ^ 153 = 2 ^ 130 * 2 ^ 23 := by decide
  have h1 : v / 2 ^ 130 < 2 ^ 23 := Nat.div_lt_of_lt_mul (by rw [← e]; exact h)
  have h2 := Nat.mod_lt v (Nat.two_pow_pos 130)
  generalize v / 2 ^ 130 = q at *
  generalize v % 2 ^ 130 = r at *
  omega
theorem stepR_three (v : Nat) (h : v < 2 ^ 130 + 2 ^ 26) : stepR v < 2 ^ 130 := by
  unfold stepR
  rw [two130] at *
  omega
/-- The last step: what is behind a number below 2^130. -/
theorem last_more (v : Nat) (h : v < 2 ^ 130) (h5 : 2 ^ 130 ≤ v + 5) : (v + 5) % 2 ^ 130 = v % pN := by
  unfold pN
  rw [two130] at *
  omega
theorem last_less (v : Nat) (h5 : v + 5 < 2 ^ 130) : v % 2 ^ 130 = v % pN := by
  unfold pN
  rw [two130] at *
  omega

/-! ### The tag. -/
/-- The number of bytes, the first one the lowest. -/
def numB (s : ByteArray) : Nat := valF (bt s) s.size
theorem numB_lt (s : ByteArray) : numB s < 256 ^ s.size := valF_lt _ _ (fun i _ => bt_lt s i)
def clampF (f : Nat → Nat) (i : Nat) : Nat := if i % 4 = 3 then f i % 16 else if i % 4 = 0 ∧ 0 < i then f i / 4 * 4 else f i
theorem clampF_lt (f : Nat → Nat) (h : ∀ i, f i < 256) (i : Nat) : clampF f i < 256 := by
  have := h i
  unfold clampF
  split
  · omega
  · split <;> omega
theorem clampF_twice (f : Nat → Nat) : clampF (clampF f) = clampF f := by
  funext i
  unfold clampF
  by_cases h1 : i % 4 = 3
  · rw [if_pos h1, if_pos h1]; omega
  · by_cases h2 : i % 4 = 0 ∧ 0 < i
    · rw [if_neg h1, if_pos h2, if_neg h1, if_pos h2]; omega
    · rw [if_neg h1, if_neg h2, if_neg h1, if_neg h2]
def clampB (s : ByteArray) : ByteArray := ⟨(bytesOf 16 (clampF (bt s))).toArray⟩
def clampN (s : ByteArray) : Nat := valF (clampF (bt s)) 16
/-- Sixteen bytes of a text, the last ones perhaps fewer, with a byte 1 behind them. -/
def cutLen (s : ByteArray) (i : Nat) : Nat := min 16 (s.size - 16 * i)
def chunkN (s : ByteArray) (i : Nat) : Nat := valF (fun j => bt s (16 * i + j)) (cutLen s i) + 256 ^ cutLen s i
theorem chunkN_lt (s : ByteArray) (i : Nat) : chunkN s i < 2 * 256 ^ 16 := by
  unfold chunkN
  have h1 := valF_lt (fun j => bt s (16 * i + j)) (cutLen s i) (fun j _ => bt_lt s _)
  have h2 : 256 ^ cutLen s i ≤ 256 ^ 16 := Nat.pow_le_pow_right (by decide) (Nat.min_le_left _ _)
  generalize 256 ^ cutLen s i = a at *
  generalize (256 : Nat) ^ 16 = b at *
  omega
def accN (s : ByteArray) (r : Nat) : Nat → Nat
  | 0 => 0
  | i + 1 => (accN s r i + chunkN s i) * r % pN
theorem accN_succ (s : ByteArray) (r i : Nat) : accN s r (i + 1) = (accN s r i + chunkN s i) * r % pN := rfl
theorem accN_lt (s : ByteArray) (r i : Nat) : accN s r i < pN := by
  cases i with
  | zero => show 0 < pN; decide
  | succ i => exact Nat.mod_lt _ (by decide)
def tagB (key s : ByteArray) : ByteArray := ⟨(bytesOf 16 (fun i => (accN s (clampN key) ((s.size + 15) / 16) + valF (fun j => bt key (16 + j)) 16) / 256 ^ i % 256)).toArray⟩
end Go.Proofs.Ytfajkkjppelgcaa

/- The document's digits, carried. -/
namespace Go.Proofs.Ytfajkkjppelgcaa
open Go.RowKit
set_option maxRecDepth 100000
set_option linter.unusedSimpArgs false

def byteL (s : ByteArray) : List Nat := tabN s.size (bt s)
theorem ints_tabN (n : Nat) (f : Nat → Nat) : ints (tabN n f) = wT f n := wT_first _ _ _ (tabN_length _ _) (fun _ hi => (tabN_getD _ _ _ hi).symm)

theorem ret_val {a b : Int} (h : a = b) : Value.int .i64 a = Value.int .i64 b := by rw [h]
theorem and255_nat (n : Nat) : bits .and .i64 (n : Int) 255 = ((n % 256 : Nat) : Int) := by rw [i64_and255]; omega

end Go.Proofs.Ytfajkkjppelgcaa

/- The document's add, times. -/
namespace Go.Proofs.Ytfajkkjppelgcaa
open Go.RowKit
set_option maxRecDepth 100000
set_option linter.unusedSimpArgs false

theorem valF_add (f g : Nat → Nat) (n : Nat) : valF (fun i => f i + g i) n = valF f n + valF g n := by
  induction n with
  | zero => rfl
  | succ n ih =>
    show valF (fun i => f i + g i) n + (f n + g n) * 256 ^ n = valF f n + f n * 256 ^ n + (valF g n + g n * 256 ^ n)
    rw [ih, Nat.add_mul]; omega
theorem valL_tabN (f : Nat → Nat) (n : Nat) : valL (tabN n f) = valF f n := by
  unfold valL
  rw [tabN_length]
  exact valF_congr _ _ _ (fun i hi => tabN_getD _ _ _ hi)
theorem sum_tab (a b : List Nat) (n : Nat) (ha : a.length ≤ n) (hb : b.length ≤ n) : valL (tabN n (fun i => a.getD i 0 + b.getD i 0)) = valL a + valL b := by
  rw [valL_tabN, valF_add, valF_more a n ha, valF_more b n hb]
theorem valF_digN (x m n : Nat) (h1 : x < 256 ^ m) (h2 : x < 256 ^ n) : valF (fun i => (digN x m).getD i 0) n = valL (digN x m) := by
  by_cases h : m ≤ n
  · exact valF_more _ _ (by rw [digN_length]; exact h)
  · rw [valL_digN_of x m h1, valF_congr _ (fun i => x / 256 ^ i % 256) n (fun i hi => digN_getD x m i (by omega)), valF_digits, Nat.mod_eq_of_lt h2]
theorem getD_none (l : List Nat) (i : Nat) (h : l.length ≤ i) : l.getD i 0 = 0 := by
  rw [List.getD_eq_getElem?_getD, List.getElem?_eq_none h]; rfl

end Go.Proofs.Ytfajkkjppelgcaa

/- The document's times. -/
namespace Go.Proofs.Ytfajkkjppelgcaa
open Go.RowKit
set_option maxRecDepth 100000
set_option linter.unusedSimpArgs false

/-- The digits of a product, not carried: behind i rows; and in the midst of a row. -/
def rowT (a b : List Nat) : Nat → Nat → Nat
  | 0, _ => 0
  | i + 1, m => rowT a b i m + (if i ≤ m ∧ m - i < b.length then a.getD i 0 * b.getD (m - i) 0 else 0)
def midT (a b : List Nat) (i k m : Nat) : Nat := rowT a b i m + (if i ≤ m ∧ m - i < k then a.getD i 0 * b.getD (m - i) 0 else 0)
theorem midT_zero (a b : List Nat) (i : Nat) : midT a b i 0 = rowT a b i := by
  funext m; unfold midT; rw [if_neg (by omega)]; rfl
theorem midT_all (a b : List Nat) (i : Nat) : midT a b i b.length = rowT a b (i + 1) := rfl
theorem midT_here (a b : List Nat) (i k : Nat) : midT a b i (k + 1) (i + k) = midT a b i k (i + k) + a.getD i 0 * b.getD k 0 := by
  unfold midT
  rw [if_pos (by omega), if_neg (by omega), show i + k - i = k by omega]; omega
theorem midT_other (a b : List Nat) (i k m : Nat) (h : m ≠ i + k) : midT a b i (k + 1) m = midT a b i k m := by
  unfold midT
  by_cases h1 : i ≤ m ∧ m - i < k
  · rw [if_pos h1, if_pos (by omega)]
  · rw [if_neg h1, if_neg (by omega)]
theorem valF_upd (f g : Nat → Nat) (m d n : Nat) (h1 : ∀ j, j ≠ m → g j = f j) (h2 : g m = f m + d) (hm : m < n) : valF g n = valF f n + d * 256 ^ m := by
  induction n with
  | zero => omega
  | succ n ih =>
    show valF g n + g n * 256 ^ n = valF f n + f n * 256 ^ n + d * 256 ^ m
    by_cases e : m = n
    · subst e
      rw [valF_congr g f m (fun i hi => h1 i (by omega)), h2, Nat.add_mul]; omega
    · rw [ih (by omega), h1 n (by omega)]; omega
theorem midT_val (a b : List Nat) (i n : Nat) (hn : i + b.length ≤ n) (k : Nat) (hk : k ≤ b.length) : valF (midT a b i k) n = valF (rowT a b i) n + a.getD i 0 * 256 ^ i * valF (fun j => b.getD j 0) k := by
  induction k with
  | zero => rw [midT_zero]; rfl
  | succ k ih =>
    rw [valF_upd (midT a b i k) (midT a b i (k + 1)) (i + k) _ n (midT_other a b i k) (midT_here a b i k) (by omega), ih (by omega)]
    show _ = _ + _ * (valF (fun j => b.getD j 0) k + b.getD k 0 * 256 ^ k)
    rw [Nat.mul_add, Nat.pow_add]
    generalize 256 ^ i = p
    generalize 256 ^ k = q
    rw [show a.getD i 0 * p * (b.getD k 0 * q) = a.getD i 0 * b.getD k 0 * (p * q) by
      rw [Nat.mul_assoc, Nat.mul_assoc, Nat.mul_left_comm p]]
    omega
theorem rowT_val (a b : List Nat) (i n : Nat) (hn : i + b.length ≤ n + 1) : valF (rowT a b i) n = valF (fun j => a.getD j 0) i * valL b := by
  induction i with
  | zero =>
    show valF (fun _ => 0) n = 0 * _
    rw [Nat.zero_mul]
    clear hn
    induction n with
    | zero => rfl
    | succ n ih => show valF _ n + 0 * _ = 0; rw [ih]; omega
  | succ i ih =>
    have h := midT_val a b i n (by omega) b.length (Nat.le_refl _)
    rw [midT_all, ih (by omega)] at h
    rw [h]
    show _ = (valF (fun j => a.getD j 0) i + a.getD i 0 * 256 ^ i) * valL b
    rw [Nat.add_mul]; rfl
theorem rowT_le (a b : List Nat) (ha : ∀ i, a.getD i 0 ≤ 255) (hb : ∀ i, b.getD i 0 ≤ 255) (i m : Nat) : rowT a b i m ≤ i * 65025 := by
  induction i with
  | zero => exact Nat.le_refl _
  | succ i ih =>
    show rowT a b i m + (if i ≤ m ∧ m - i < b.length then a.getD i 0 * b.getD (m - i) 0 else 0) ≤ _
    have h : a.getD i 0 * b.getD (m - i) 0 ≤ 65025 := Nat.mul_le_mul (ha i) (hb (m - i))
    generalize a.getD i 0 * b.getD (m - i) 0 = P at *
    generalize rowT a b i m = Q at *
    rw [Nat.add_mul, Nat.one_mul]
    generalize i * 65025 = I at *
    split <;> omega
theorem midT_le (a b : List Nat) (ha : ∀ i, a.getD i 0 ≤ 255) (hb : ∀ i, b.getD i 0 ≤ 255) (i k m : Nat) : midT a b i k m ≤ (i + 1) * 65025 := by
  unfold midT
  have h : a.getD i 0 * b.getD (m - i) 0 ≤ 65025 := Nat.mul_le_mul (ha i) (hb (m - i))
  have h2 := rowT_le a b ha hb i m
  generalize a.getD i 0 * b.getD (m - i) 0 = P at *
  generalize rowT a b i m = Q at *
  rw [Nat.add_mul, Nat.one_mul]
  generalize i * 65025 = I at *
  split <;> omega
theorem times_tab (a b : List Nat) : valL (tabN (a.length + b.length + 1) (rowT a b a.length)) = valL a * valL b := by
  rw [valL_tabN, rowT_val a b a.length _ (by omega)]; rfl

end Go.Proofs.Ytfajkkjppelgcaa

/- The document's high, low, zero. -/
namespace Go.Proofs.Ytfajkkjppelgcaa
open Go.RowKit
set_option maxRecDepth 100000
set_option linter.unusedSimpArgs false

theorem wT_cut_enough (f : Nat → Nat) (n k : Nat) (h : ∀ i, k ≤ i → i < n → f i = 0) : wT (cutN f k) n = wT f n := by
  unfold wT
  refine tab_congr _ _ _ (fun i hi => ?_)
  unfold cutN
  by_cases h1 : i < k
  · rw [if_pos h1]
  · rw [if_neg h1, h i (by omega) hi]
theorem high_out (v n i : Nat) (hv : v < 256 ^ n) (hn : 16 ≤ n) (hi : n - 16 ≤ i) : v / 2 ^ 130 / 256 ^ i % 256 = 0 := by
  rw [high_digit, dig_big v n (i + 16) hv (by omega), dig_big v n (i + 17) hv (by omega)]
def hiF (v i : Nat) : Nat := v / 2 ^ 130 / 256 ^ i % 256
def loF (v i : Nat) : Nat := v / 256 ^ i % 256
theorem or_int (a e : Nat) (ha : a < 64) (he : e < 256) : bits .or .i64 (a : Int) (bits .and .i64 (IntKind.i64.wrap ((e : Int) * 64)) 255) = ((a + e % 4 * 64 : Nat) : Int) := by
  rw [show IntKind.i64.wrap ((e : Int) * 64) = ((e * 64 : Nat) : Int) by rw [i64_small _ (by omega) (by omega)]; omega, and255_nat, i64_or_nat _ _ (by omega) (by omega), or_byte a e ha]

end Go.Proofs.Ytfajkkjppelgcaa

/- The document's low, zero. -/
namespace Go.Proofs.Ytfajkkjppelgcaa
open Go.RowKit
set_option maxRecDepth 100000
set_option linter.unusedSimpArgs false

theorem i64_and3 (n : Int) : bits .and .i64 n 3 = n % 4 := i64_mask n 2 (by decide) 3 (by decide)

end Go.Proofs.Ytfajkkjppelgcaa

/- The document's reduced. -/
namespace Go.Proofs.Ytfajkkjppelgcaa
open Go.RowKit
set_option maxRecDepth 100000
set_option linter.unusedSimpArgs false

end Go.Proofs.Ytfajkkjppelgcaa

/- The document's reduced. -/
namespace Go.Proofs.Ytfajkkjppelgcaa
open Go.RowKit
set_option maxRecDepth 100000
set_option linter.unusedSimpArgs false

theorem e5 : ints (digN 5 1) = [5] := by decide
theorem five_at (w : World) : IntsAt (w.alloc (.cells #[.int .i64 5] 3)) .i64 (some ⟨w.heap.size, 0, none⟩) 1 (ints (digN 5 1)) := by rw [e5]; exact ints_lit w .i64 5 3
theorem stepR_lt40 (u : Nat) (h : u < 256 ^ 35) : stepR u < 256 ^ 40 := Nat.lt_of_lt_of_le (stepR_one u h) (by decide)
theorem mod130_lt (u : Nat) : u % 2 ^ 130 < 256 ^ 17 := Nat.lt_of_lt_of_le (Nat.mod_lt _ (Nat.two_pow_pos 130)) (by decide)
theorem lt_pow (u a b : Nat) (h : u < 256 ^ a) (hab : a ≤ b) : u < 256 ^ b := Nat.lt_of_lt_of_le h (Nat.pow_le_pow_right (by decide) hab)

theorem five_lt (x m : Nat) (h : x < 256 ^ m) : 5 * x < 256 ^ (1 + m + 1) := by
  have e : 256 ^ (1 + m + 1) = 256 ^ m * 65536 := by rw [show 1 + m + 1 = m + 2 by omega, Nat.pow_add]
  rw [e]
  revert h
  generalize 256 ^ m = y
  intro h
  omega

end Go.Proofs.Ytfajkkjppelgcaa

/- The document's Clamp. -/
namespace Go.Proofs.Ytfajkkjppelgcaa
open Go.RowKit
set_option maxRecDepth 100000
set_option linter.unusedSimpArgs false

def cl1 (f : Nat → Nat) (k i : Nat) : Nat := if i % 4 = 3 ∧ i < 4 * k + 3 then f i % 16 else f i
def cl2 (f : Nat → Nat) (k i : Nat) : Nat := if i % 4 = 0 ∧ 0 < i ∧ i < 4 * k + 4 then cl1 f 4 i / 4 * 4 else cl1 f 4 i
theorem cl1_zero (f : Nat → Nat) : f = cl1 f 0 := by
  funext i; unfold cl1; rw [if_neg (by omega)]
theorem cl1_put (f : Nat → Nat) (k : Nat) : (fun i => if i = 4 * k + 3 then f (4 * k + 3) % 16 else cl1 f k i) = cl1 f (k + 1) := by
  funext i
  unfold cl1
  by_cases h : i = 4 * k + 3
  · rw [if_pos h, if_pos (by omega), h]
  · rw [if_neg h]
    by_cases h2 : i % 4 = 3 ∧ i < 4 * k + 3
    · rw [if_pos h2, if_pos (by omega)]
    · rw [if_neg h2, if_neg (by omega)]
theorem cl2_zero (f : Nat → Nat) : cl1 f 4 = cl2 f 0 := by
  funext i; unfold cl2; rw [if_neg (by omega)]
theorem cl2_put (f : Nat → Nat) (k : Nat) : (fun i => if i = 4 * k + 4 then cl1 f 4 (4 * k + 4) / 4 * 4 else cl2 f k i) = cl2 f (k + 1) := by
  funext i
  unfold cl2
  by_cases h : i = 4 * k + 4
  · rw [if_pos h, if_pos (by omega), h]
  · rw [if_neg h]
    by_cases h2 : i % 4 = 0 ∧ 0 < i ∧ i < 4 * k + 4
    · rw [if_pos h2, if_pos (by omega)]
    · rw [if_neg h2, if_neg (by omega)]
theorem cl2_end (f : Nat → Nat) (i : Nat) (h : i < 16) : cl2 f 3 i = clampF f i := by
  unfold cl2 cl1 clampF
  by_cases h1 : i % 4 = 3
  · rw [if_neg (by omega), if_pos (by omega), if_pos h1]
  · by_cases h2 : i % 4 = 0 ∧ 0 < i
    · rw [if_pos (by omega), if_neg (by omega), if_neg h1, if_pos h2]
    · rw [if_neg (by omega), if_neg (by omega), if_neg h1, if_neg h2]
theorem cl1_here (f : Nat → Nat) (k : Nat) : cl1 f k (4 * k + 3) = f (4 * k + 3) := by unfold cl1; rw [if_neg (by omega)]
theorem cl2_here (f : Nat → Nat) (k : Nat) : cl2 f k (4 * k + 4) = cl1 f 4 (4 * k + 4) := by unfold cl2; rw [if_neg (by omega)]
theorem cl1_lt (f : Nat → Nat) (h : ∀ i, f i < 256) (k i : Nat) : cl1 f k i < 256 := by
  have := h i
  unfold cl1; split <;> omega
theorem cl2_lt (f : Nat → Nat) (h : ∀ i, f i < 256) (k i : Nat) : cl2 f k i < 256 := by
  have := cl1_lt f h 4 i
  unfold cl2; split <;> omega
theorem and252 : ∀ x : Fin 256, x.1 &&& 252 = x.1 / 4 * 4 := by decide +kernel
theorem u8_and15 (x : Nat) (h : x < 256) : bits .and .u8 (x : Int) 15 = ((x % 16 : Nat) : Int) := by
  rw [show (15 : Int) = ((15 : Nat) : Int) from rfl, u8_and_nat x 15 h (by decide), show (15 : Nat) = 2 ^ 4 - 1 from rfl, Nat.and_two_pow_sub_one_eq_mod]
theorem u8_and252 (x : Nat) (h : x < 256) : bits .and .u8 (x : Int) 252 = ((x / 4 * 4 : Nat) : Int) := by
  rw [show (252 : Int) = ((252 : Nat) : Int) from rfl, u8_and_nat x 252 h (by decide), and252 ⟨x, h⟩]

end Go.Proofs.Ytfajkkjppelgcaa

/- The document's Mac. -/
namespace Go.Proofs.Ytfajkkjppelgcaa
open Go.RowKit
set_option maxRecDepth 100000
set_option linter.unusedSimpArgs false

theorem carry_none (l : List Nat) (h : ∀ i, l.getD i 0 < 256) (i : Nat) : carryAt l i = 0 := by
  induction i with
  | zero => rfl
  | succ i ih => show (carryAt l i + l.getD i 0) / 256 = 0; rw [ih]; have := h i; omega
/-- Digits are those of their number. -/
theorem wT_digN (f : Nat → Nat) (n : Nat) (h : ∀ i, i < n → f i < 256) : wT f n = ints (digN (valF f n) n) := by
  rw [show ints (digN (valF f n) n) = wT (fun i => valF f n / 256 ^ i % 256) n from ints_tabN _ _]
  unfold wT
  refine tab_congr _ _ _ (fun i hi => ?_)
  have hl : ∀ j, (tabN n f).getD j 0 < 256 := fun j => by
    by_cases hj : j < n
    · rw [tabN_getD _ _ _ hj]; exact h j hj
    · rw [getD_none _ _ (by rw [tabN_length]; omega)]; decide
  have h1 := carried_digit (tabN n f) i
  rw [carry_none _ hl, Nat.zero_add, tabN_getD _ _ _ hi, valL_tabN, Nat.mod_eq_of_lt (h i hi)] at h1
  rw [h1]
/-- A chunk's digits, and a 1 behind them. -/
theorem chunk_digits (f : Nat → Nat) (n : Nat) (h : ∀ i, f i < 256) : wT f n ++ [1] = ints (digN (valF f n + 256 ^ n) (n + 1)) := by
  have e1 : wT f n ++ [1] = wT (fun i => if i < n then f i else 1) (n + 1) := by
    rw [← wT_snoc (fun i => if i < n then f i else 1) n 1 (by simp)]
    congr 1
    unfold wT
    exact tab_congr _ _ _ (fun i hi => by simp [hi])
  rw [e1, wT_digN _ _ (fun i _ => by have := h i; by_cases hi : i < n <;> simp [hi]; exact this)]
  congr 2
  show valF (fun i => if i < n then f i else 1) n + (if n < n then f n else 1) * 256 ^ n = _
  rw [valF_congr _ f n (fun i hi => by simp [hi])]
  simp
theorem bt_clampB (s : ByteArray) (i : Nat) (hi : i < 16) : bt (clampB s) i = clampF (bt s) i := bt_bytesOf 16 _ i hi (clampF_lt _ (bt_lt s) i)
theorem clampB_size (s : ByteArray) : (clampB s).size = 16 := by
  show (bytesOf 16 _).toArray.size = 16
  rw [List.size_toArray, bytesOf_length]
theorem clampN_of (key : ByteArray) (hk : key.size = 32) : valF (bt (clampB (key.extract 0 16))) 16 = clampN key := by
  unfold clampN
  refine valF_congr _ _ _ (fun i hi => ?_)
  rw [bt_clampB _ i hi]
  have e : bt (key.extract 0 16) i = bt key i := by rw [bt_extract key 0 16 i (by omega) (by omega), Nat.zero_add]
  unfold clampF
  rw [e]
theorem second_of (key : ByteArray) (hk : key.size = 32) : valF (bt (key.extract 16 32)) 16 = valF (fun j => bt key (16 + j)) 16 :=
  valF_congr _ _ _ (fun i hi => by rw [bt_extract key 16 32 i (by omega) (by omega)])
theorem chunk_of (s : ByteArray) (k e : Nat) (he : e = 16 * k + cutLen s k) (hl : e ≤ s.size) : valF (bt (s.extract (16 * k) e)) (cutLen s k) + 256 ^ cutLen s k = chunkN s k := by
  unfold chunkN
  rw [valF_congr (bt (s.extract (16 * k) e)) (fun j => bt s (16 * k + j)) (cutLen s k) (fun i hi => by rw [bt_extract s (16 * k) e i (by omega) hl])]
theorem pN_lt : pN < 256 ^ 17 := by decide
theorem acc_lt (s : ByteArray) (r k : Nat) : accN s r k < 256 ^ 17 := Nat.lt_trans (accN_lt s r k) pN_lt
theorem chunk_lt17 (s : ByteArray) (k : Nat) : chunkN s k < 256 ^ 17 := Nat.lt_of_lt_of_le (chunkN_lt s k) (by decide)
theorem chunk_lt_cut (s : ByteArray) (k : Nat) : chunkN s k < 256 ^ (cutLen s k + 1) := by
  unfold chunkN
  have h1 := valF_lt (fun j => bt s (16 * k + j)) (cutLen s k) (fun j _ => bt_lt s _)
  rw [Nat.pow_succ]
  generalize valF _ (cutLen s k) = a at *
  generalize 256 ^ cutLen s k = b at *
  omega
theorem sum18 (a b : Nat) (ha : a < 256 ^ 17) (hb : b < 256 ^ 17) : a + b < 256 ^ 18 := by
  have : (256 : Nat) ^ 17 + 256 ^ 17 ≤ 256 ^ 18 := by decide
  omega
theorem prod35 (a b : Nat) (ha : a < 256 ^ 18) (hb : b < 256 ^ 16) : a * b < 256 ^ 35 := by
  have h1 : a * b ≤ 256 ^ 18 * 256 ^ 16 := Nat.mul_le_mul (Nat.le_of_lt ha) (Nat.le_of_lt hb)
  have h2 : (256 : Nat) ^ 18 * 256 ^ 16 < 256 ^ 35 := by decide
  omega
def tagF (key s : ByteArray) (i : Nat) : Nat := (accN s (clampN key) ((s.size + 15) / 16) + valF (fun j => bt key (16 + j)) 16) / 256 ^ i % 256
theorem tagB_eq (key s : ByteArray) : tagB key s = ⟨(bytesOf 16 (tagF key s)).toArray⟩ := rfl

end Go.Proofs.Ytfajkkjppelgcaa

/- The document's Mac, Check. -/
namespace Go.Proofs.Ytfajkkjppelgcaa
open Go.RowKit
set_option maxRecDepth 100000
set_option linter.unusedSimpArgs false

end Go.Proofs.Ytfajkkjppelgcaa

/- The document's Check; what follows of tags: plain facts. -/
namespace Go.Proofs.Ytfajkkjppelgcaa
open Go.RowKit
set_option maxRecDepth 100000
set_option linter.unusedSimpArgs false

theorem tagB_size (key s : ByteArray) : (tagB key s).size = 16 := by
  rw [tagB_eq]
  show (bytesOf 16 _).toArray.size = 16
  rw [List.size_toArray, bytesOf_length]
theorem bt_tagB (key s : ByteArray) (i : Nat) (h : i < 16) : bt (tagB key s) i = tagF key s i := bt_bytesOf 16 _ i h (Nat.mod_lt _ (by decide))

/-! ### What follows of tags. -/
theorem accN_zero (s : ByteArray) (k : Nat) : accN s 0 k = 0 := by
  cases k with
  | zero => rfl
  | succ k => rw [accN_succ, Nat.mul_zero, Nat.zero_mod]
theorem clampN_congr (a b : ByteArray) (h : ∀ i, i < 16 → clampF (bt a) i = clampF (bt b) i) : clampN a = clampN b := valF_congr _ _ _ h
/-- A key's first half is noughts: the tag is its second half. -/
theorem tag_noughts (k2 s : ByteArray) (h : k2.size = 16) : tagB (zeroB 16 ++ k2) s = k2 := by
  have hr : clampN (zeroB 16 ++ k2) = 0 := by
    unfold clampN
    rw [valF_congr _ (fun _ => 0) 16 (fun i hi => ?_)]
    · decide
    · unfold clampF
      rw [bt_append_left _ _ _ (by rw [zeroB_size]; exact hi), bt_zeroB]
      split
      · rfl
      · split <;> rfl
  have hq : valF (fun j => bt (zeroB 16 ++ k2) (16 + j)) 16 = valF (bt k2) 16 :=
    valF_congr _ _ _ (fun i _ => by
      have := bt_append_right (zeroB 16) k2 i
      rw [zeroB_size] at this; exact this)
  apply bt_ext
  · rw [tagB_size, h]
  · intro i hi
    rw [tagB_size] at hi
    rw [bt_tagB _ _ _ hi]
    unfold tagF
    rw [hr, accN_zero, hq, Nat.zero_add]
    have h1 := carried_digit (tabN 16 (bt k2)) i
    rw [carry_none _ (fun j => by
      by_cases hj : j < 16
      · rw [tabN_getD _ _ _ hj]; exact bt_lt k2 j
      · rw [getD_none _ _ (by rw [tabN_length]; omega)]; decide), Nat.zero_add, tabN_getD _ _ _ hi, valL_tabN, Nat.mod_eq_of_lt (bt_lt k2 i)] at h1
    exact h1.symm
/-- The bits of the first half that are cleared do not matter. -/
theorem tag_clamped (key s : ByteArray) (h : key.size = 32) : tagB (clampB (key.extract 0 16) ++ key.extract 16 32) s = tagB key s := by
  have hc : ∀ i, i < 16 → bt (clampB (key.extract 0 16) ++ key.extract 16 32) i = clampF (bt key) i := fun i hi => by
    rw [bt_append_left _ _ _ (by rw [clampB_size]; exact hi), bt_clampB _ i hi]
    unfold clampF
    rw [bt_extract key 0 16 i (by omega) (by omega), Nat.zero_add]
  have hr : clampN (clampB (key.extract 0 16) ++ key.extract 16 32) = clampN key := by
    refine clampN_congr _ _ (fun i hi => ?_)
    have h2 := congrFun (clampF_twice (bt key)) i
    rw [← h2]
    unfold clampF
    rw [hc i hi]
    rfl
  have hq : valF (fun j => bt (clampB (key.extract 0 16) ++ key.extract 16 32) (16 + j)) 16 = valF (fun j => bt key (16 + j)) 16 :=
    valF_congr _ _ _ (fun i hi => by
      have := bt_append_right (clampB (key.extract 0 16)) (key.extract 16 32) i
      rw [clampB_size, bt_extract key 16 32 i (by omega) (by omega)] at this; exact this)
  rw [tagB_eq, tagB_eq]
  have : tagF (clampB (key.extract 0 16) ++ key.extract 16 32) s = tagF key s := by
    funext i; unfold tagF; rw [hr, hq]
  rw [this]
/-- Of a key whose first half is the number 1 the tag of a short text is the text, a byte 1 behind it, and the second half, added. -/
theorem acc_one (s : ByteArray) (h0 : 0 < s.size) (h : s.size ≤ 15) : accN s 1 ((s.size + 15) / 16) = valF (bt s) s.size + 256 ^ s.size := by
  rw [show (s.size + 15) / 16 = 0 + 1 by omega, accN_succ]
  have e : cutLen s 0 = s.size := by unfold cutLen; omega
  have ec : chunkN s 0 = valF (bt s) s.size + 256 ^ s.size := by
    unfold chunkN
    rw [e, valF_congr _ (bt s) s.size (fun i _ => by rw [Nat.mul_zero, Nat.zero_add])]
  show (0 + chunkN s 0) * 1 % pN = _
  rw [Nat.zero_add, Nat.mul_one, ec]
  refine Nat.mod_eq_of_lt ?_
  have h1 := valF_lt (bt s) s.size (fun i _ => bt_lt s i)
  have h2 : 256 ^ s.size ≤ 256 ^ 15 := Nat.pow_le_pow_right (by decide) h
  have h3 : (256 : Nat) ^ 15 + 256 ^ 15 < pN := by decide
  generalize 256 ^ s.size = a at *
  generalize valF (bt s) s.size = b at *
  omega
end Go.Proofs.Ytfajkkjppelgcaa
