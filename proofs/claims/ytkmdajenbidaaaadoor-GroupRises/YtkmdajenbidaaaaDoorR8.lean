import Derived.Test.YtkmdajenbidaaaaDoorG
/- Runes on plain bytes: nothing of the program. -/
namespace Go.Proofs.YtkmdajenbidaaaaDoor
open Go.RowKit
set_option maxRecDepth 100000
set_option linter.unusedSimpArgs false

/-- Does a byte go on a rune? -/
abbrev contB (s : ByteArray) (i : Nat) : Prop := i < s.size ∧ 128 ≤ bt s i ∧ bt s i ≤ 191

abbrev contAll (s : ByteArray) (n : Nat) : Prop := ∀ i, i < n → contB s (i + 1)

/-- The number of a rune's bits so far. -/
def accR (s : ByteArray) (x : Nat) : Nat → Nat
  | 0 => x
  | k + 1 => accR s x k * 64 + bt s (k + 1) % 64

theorem accR_succ (s : ByteArray) (x k : Nat) : accR s x (k + 1) = accR s x k * 64 + bt s (k + 1) % 64 := rfl

abbrev goodR (x least : Nat) : Prop := least ≤ x ∧ x ≤ 1114111 ∧ ¬ (55296 ≤ x ∧ x ≤ 57343)

def oneTail (s : ByteArray) (n least x : Nat) : Option (Nat × Nat) := if contAll s n ∧ goodR (accR s x n) least then some (accR s x n, n + 1) else none

/-- The rune that a text begins with, and how many bytes it has; none: it is none of UTF-8. -/
def oneP (s : ByteArray) : Option (Nat × Nat) :=
  if bt s 0 < 128 then some (bt s 0, 1)
  else if 194 ≤ bt s 0 ∧ bt s 0 ≤ 223 then oneTail s 1 128 (bt s 0 % 32)
  else if 224 ≤ bt s 0 ∧ bt s 0 ≤ 239 then oneTail s 2 2048 (bt s 0 % 16)
  else if 240 ≤ bt s 0 ∧ bt s 0 ≤ 244 then oneTail s 3 65536 (bt s 0 % 8)
  else none

def runeX (o : Option (Nat × Nat)) : Int := match o with | some (x, _) => (x : Int) | none => -1

def runeK (o : Option (Nat × Nat)) : Nat := match o with | some (_, k) => k | none => 1

theorem accR_le (s : ByteArray) (x k : Nat) (hx : x ≤ 31) (hk : k ≤ 3) : accR s x k ≤ 8388607 := by
  have h1 : bt s 1 % 64 < 64 := Nat.mod_lt _ (by decide)
  have h2 : bt s 2 % 64 < 64 := Nat.mod_lt _ (by decide)
  have h3 : bt s 3 % 64 < 64 := Nat.mod_lt _ (by decide)
  match k, hk with
  | 0, _ => show x ≤ _; omega
  | 1, _ => show x * 64 + bt s 1 % 64 ≤ _; omega
  | 2, _ => show (x * 64 + bt s 1 % 64) * 64 + bt s 2 % 64 ≤ _; omega
  | 3, _ => show ((x * 64 + bt s 1 % 64) * 64 + bt s 2 % 64) * 64 + bt s 3 % 64 ≤ _; omega

theorem contAll_succ (s : ByteArray) (k : Nat) : contAll s (k + 1) ↔ contAll s k ∧ contB s (k + 1) := by
  unfold contAll
  constructor
  · intro h; exact ⟨fun i hi => h i (by omega), h k (by omega)⟩
  · rintro ⟨h1, h2⟩ i hi
    by_cases e : i = k
    · subst e; exact h2
    · exact h1 i (by omega)

theorem contAll_mono (s : ByteArray) (k n : Nat) (h : k ≤ n) (hc : contAll s n) : contAll s k := fun i hi => hc i (by omega)

theorem oneP_pos (s : ByteArray) : 1 ≤ runeK (oneP s) := by
  unfold oneP oneTail
  split
  · exact Nat.le_refl _
  all_goals (try (repeat' split))
  all_goals (first | exact Nat.le_refl _ | (show 1 ≤ _ + 1; omega))

theorem oneP_le (s : ByteArray) (h : 0 < s.size) : runeK (oneP s) ≤ s.size := by
  have ht : ∀ n least x, runeK (oneTail s n least x) ≤ s.size := by
    intro n least x
    unfold oneTail
    split
    · rename_i hc
      show n + 1 ≤ s.size
      cases n with
      | zero => exact h
      | succ n => exact (hc.1 n (by omega)).1
    · exact h
  unfold oneP
  split
  · exact h
  · split
    · exact ht _ _ _
    · split
      · exact ht _ _ _
      · split
        · exact ht _ _ _
        · exact h

theorem oneP_four (s : ByteArray) : runeK (oneP s) ≤ 4 := by
  have ht : ∀ n least x, n ≤ 3 → runeK (oneTail s n least x) ≤ 4 := by
    intro n least x hn
    unfold oneTail
    split
    · show n + 1 ≤ 4; omega
    · decide
  unfold oneP
  split
  · show 1 ≤ 4; decide
  · split
    · exact ht _ _ _ (by decide)
    · split
      · exact ht _ _ _ (by decide)
      · split
        · exact ht _ _ _ (by decide)
        · decide

end Go.Proofs.YtkmdajenbidaaaaDoor

/- The document's one: of one byte, of two. -/
namespace Go.Proofs.YtkmdajenbidaaaaDoor
open Go.RowKit
set_option maxRecDepth 100000
set_option linter.unusedSimpArgs false

theorem or64 (X y : Nat) (hX : X ≤ 8388607) (hy : y < 64) : bits .or .i64 ((X : Int) * 64) (y : Int) = ((X * 64 + y : Nat) : Int) := by
  have e : (X : Int) * 64 = ((X * 64 : Nat) : Int) := by simp
  rw [e, i64_or_nat _ _ (by omega) (by omega)]
  have h := Nat.two_pow_add_eq_or_of_lt (i := 6) (b := y) (by omega) X
  rw [show X * 64 = 2 ^ 6 * X by omega, ← h]

theorem u8_and63 (x : Nat) (h : x < 256) : bits .and .u8 (x : Int) 63 = ((x % 64 : Nat) : Int) := by
  rw [show (63 : Int) = ((63 : Nat) : Int) from rfl, u8_and_nat x 63 h (by decide), show (63 : Nat) = 2 ^ 6 - 1 from rfl, Nat.and_two_pow_sub_one_eq_mod]

theorem i64_and31n (x : Nat) : bits .and .i64 (x : Int) 31 = ((x % 32 : Nat) : Int) := by rw [i64_mask (x : Int) 5 (by decide) 31 (by decide)]; simp

theorem i64_and15n (x : Nat) : bits .and .i64 (x : Int) 15 = ((x % 16 : Nat) : Int) := by rw [i64_mask (x : Int) 4 (by decide) 15 (by decide)]; simp

theorem i64_and7n (x : Nat) : bits .and .i64 (x : Int) 7 = ((x % 8 : Nat) : Int) := by rw [i64_mask (x : Int) 3 (by decide) 7 (by decide)]; simp

end Go.Proofs.YtkmdajenbidaaaaDoor

/- The document's one: of three bytes, of four; of any. -/
namespace Go.Proofs.YtkmdajenbidaaaaDoor
open Go.RowKit
set_option maxRecDepth 100000
set_option linter.unusedSimpArgs false

end Go.Proofs.YtkmdajenbidaaaaDoor

/- The runes of the language and those of the document: plain. -/
namespace Go.Proofs.YtkmdajenbidaaaaDoor
open Go.RowKit
set_option maxRecDepth 100000
set_option linter.unusedSimpArgs false

theorem bt_beyond (s : ByteArray) (j : Nat) (h : s.size ≤ j) : bt s j = 0 := by
  rw [bt_eq, Array.getElem?_eq_none h]; rfl

theorem get_bt (s : ByteArray) (j : Nat) : (s.get! j).toNat = bt s j := by
  rw [bt_eq]
  show (s.data[j]!).toNat = _
  by_cases h : j < s.data.size
  · rw [getElem!_pos s.data j h, Array.getElem?_eq_getElem h]; rfl
  · rw [getElem!_neg s.data j h, Array.getElem?_eq_none (by omega)]; rfl

theorem bt_rest (s : ByteArray) (i k : Nat) : bt (s.extract i s.size) k = bt s (i + k) := by
  by_cases hk : i + k < s.size
  · exact bt_extract s i s.size k hk (Nat.le_refl _)
  · rw [bt_beyond _ _ (by rw [ByteArray.size_extract]; omega), bt_beyond _ _ (by omega)]

/-- What ranging over a text gives at a place. -/
def runeOf (o : Option (Nat × Nat)) : Nat × Nat := match o with | some p => p | none => (65533, 1)

theorem tail_one (t : ByteArray) (least x : Nat) : oneTail t 1 least x = if (1 < t.size ∧ 128 ≤ bt t 1 ∧ bt t 1 ≤ 191) ∧ goodR (x * 64 + bt t 1 % 64) least then some (x * 64 + bt t 1 % 64, 2) else none := by
  unfold oneTail
  have e : contAll t 1 ↔ (1 < t.size ∧ 128 ≤ bt t 1 ∧ bt t 1 ≤ 191) := by
    rw [contAll_succ]
    exact ⟨fun h => h.2, fun h => ⟨fun i hi => absurd hi (Nat.not_lt_zero _), h⟩⟩
  simp only [e]
  rfl

theorem tail_two (t : ByteArray) (least x : Nat) : oneTail t 2 least x = if ((1 < t.size ∧ 128 ≤ bt t 1 ∧ bt t 1 ≤ 191) ∧ (2 < t.size ∧ 128 ≤ bt t 2 ∧ bt t 2 ≤ 191)) ∧ goodR ((x * 64 + bt t 1 % 64) * 64 + bt t 2 % 64) least then some ((x * 64 + bt t 1 % 64) * 64 + bt t 2 % 64, 3) else none := by
  unfold oneTail
  have e : contAll t 2 ↔ ((1 < t.size ∧ 128 ≤ bt t 1 ∧ bt t 1 ≤ 191) ∧ (2 < t.size ∧ 128 ≤ bt t 2 ∧ bt t 2 ≤ 191)) := by
    rw [contAll_succ, contAll_succ]
    exact ⟨fun h => ⟨h.1.2, h.2⟩, fun h => ⟨⟨fun i hi => absurd hi (Nat.not_lt_zero _), h.1⟩, h.2⟩⟩
  simp only [e]
  rfl

theorem tail_three (t : ByteArray) (least x : Nat) : oneTail t 3 least x = if (((1 < t.size ∧ 128 ≤ bt t 1 ∧ bt t 1 ≤ 191) ∧ (2 < t.size ∧ 128 ≤ bt t 2 ∧ bt t 2 ≤ 191)) ∧ (3 < t.size ∧ 128 ≤ bt t 3 ∧ bt t 3 ≤ 191)) ∧ goodR (((x * 64 + bt t 1 % 64) * 64 + bt t 2 % 64) * 64 + bt t 3 % 64) least then some (((x * 64 + bt t 1 % 64) * 64 + bt t 2 % 64) * 64 + bt t 3 % 64, 4) else none := by
  unfold oneTail
  have e : contAll t 3 ↔ (((1 < t.size ∧ 128 ≤ bt t 1 ∧ bt t 1 ≤ 191) ∧ (2 < t.size ∧ 128 ≤ bt t 2 ∧ bt t 2 ≤ 191)) ∧ (3 < t.size ∧ 128 ≤ bt t 3 ∧ bt t 3 ≤ 191)) := by
    rw [contAll_succ, contAll_succ, contAll_succ]
    exact ⟨fun h => ⟨⟨h.1.1.2, h.1.2⟩, h.2⟩, fun h => ⟨⟨⟨fun i hi => absurd hi (Nat.not_lt_zero _), h.1.1⟩, h.1.2⟩, h.2⟩⟩
  simp only [e]
  rfl

/-- The model's decoding, over letters. -/
def decF (a b c d n : Nat) : Nat × Nat :=
  if a < 128 then (a, 1)
  else if a / 32 = 6 ∧ (1 < n ∧ b / 64 = 2) then (if 128 ≤ a % 32 * 64 + b % 64 then (a % 32 * 64 + b % 64, 2) else (65533, 1))
  else if a / 16 = 14 ∧ (1 < n ∧ b / 64 = 2) ∧ (2 < n ∧ c / 64 = 2) then
    (if 2048 ≤ a % 16 * 4096 + b % 64 * 64 + c % 64 ∧ (a % 16 * 4096 + b % 64 * 64 + c % 64 < 55296 ∨ (57344 ≤ a % 16 * 4096 + b % 64 * 64 + c % 64 ∧ a % 16 * 4096 + b % 64 * 64 + c % 64 ≤ 1114111)) then (a % 16 * 4096 + b % 64 * 64 + c % 64, 3) else (65533, 1))
  else if a / 8 = 30 ∧ (1 < n ∧ b / 64 = 2) ∧ (2 < n ∧ c / 64 = 2) ∧ (3 < n ∧ d / 64 = 2) then
    (if 65536 ≤ a % 8 * 262144 + b % 64 * 4096 + c % 64 * 64 + d % 64 ∧ (a % 8 * 262144 + b % 64 * 4096 + c % 64 * 64 + d % 64 < 55296 ∨ (57344 ≤ a % 8 * 262144 + b % 64 * 4096 + c % 64 * 64 + d % 64 ∧ a % 8 * 262144 + b % 64 * 4096 + c % 64 * 64 + d % 64 ≤ 1114111)) then (a % 8 * 262144 + b % 64 * 4096 + c % 64 * 64 + d % 64, 4) else (65533, 1))
  else (65533, 1)

theorem decode_F (s : ByteArray) (i : Nat) (h : i ≤ s.size) : Utf8.decode s i = decF (bt s i) (bt s (i + 1)) (bt s (i + 2)) (bt s (i + 3)) (s.size - i) := by
  have e : ∀ k, (i + k < s.size) = (k < s.size - i) := fun k => propext (by omega)
  unfold Utf8.decode decF Utf8.valid Utf8.runeError
  have hv : ∀ x : Nat, ((0 ≤ (x : Int) ∧ (x : Int) < 55296) ∨ (57344 ≤ (x : Int) ∧ (x : Int) ≤ 1114111)) = (x < 55296 ∨ (57344 ≤ x ∧ x ≤ 1114111)) := fun x => propext (by omega)
  simp only [get_bt, Nat.add_zero, e, Bool.and_eq_true, beq_iff_eq, decide_eq_true_eq, Bool.or_eq_true, ge_iff_le, and_assoc, hv]

theorem decF_one (t : ByteArray) : decF (bt t 0) (bt t 1) (bt t 2) (bt t 3) t.size = runeOf (oneP t) := by
  have la := bt_lt t 0
  have lb := bt_lt t 1
  have lc := bt_lt t 2
  have ld := bt_lt t 3
  unfold oneP decF
  rw [tail_one, tail_two, tail_three]
  unfold goodR
  generalize bt t 0 = a at *
  generalize bt t 1 = b at *
  generalize bt t 2 = c at *
  generalize bt t 3 = d at *
  generalize t.size = n at *
  by_cases h0 : a < 128
  · rw [if_pos h0, if_pos h0]; rfl
  · rw [if_neg h0, if_neg h0]
    by_cases h1 : 194 ≤ a ∧ a ≤ 223
    · rw [if_pos h1]
      by_cases k1 : 1 < n ∧ 128 ≤ b ∧ b ≤ 191
      · rw [if_pos (show a / 32 = 6 ∧ 1 < n ∧ b / 64 = 2 by omega), if_pos (show 128 ≤ a % 32 * 64 + b % 64 by omega), if_pos ⟨k1, by omega⟩]; rfl
      · rw [if_neg (show ¬ (a / 32 = 6 ∧ 1 < n ∧ b / 64 = 2) by omega), if_neg (by omega), if_neg (by omega), if_neg (fun h => k1 h.1)]; rfl
    · rw [if_neg h1]
      by_cases h2 : 224 ≤ a ∧ a ≤ 239
      · rw [if_neg (by omega), if_pos h2]
        have ev : a % 16 * 4096 + b % 64 * 64 + c % 64 = (a % 16 * 64 + b % 64) * 64 + c % 64 := by omega
        by_cases k1 : (1 < n ∧ 128 ≤ b ∧ b ≤ 191) ∧ (2 < n ∧ 128 ≤ c ∧ c ≤ 191)
        · rw [if_pos (show a / 16 = 14 ∧ (1 < n ∧ b / 64 = 2) ∧ (2 < n ∧ c / 64 = 2) by omega), ev]
          by_cases k2 : 2048 ≤ (a % 16 * 64 + b % 64) * 64 + c % 64 ∧ (a % 16 * 64 + b % 64) * 64 + c % 64 ≤ 1114111 ∧ ¬ (55296 ≤ (a % 16 * 64 + b % 64) * 64 + c % 64 ∧ (a % 16 * 64 + b % 64) * 64 + c % 64 ≤ 57343)
          · rw [if_pos (by omega), if_pos ⟨k1, k2⟩]; rfl
          · rw [if_neg (by omega), if_neg (fun h => k2 h.2)]; rfl
        · rw [if_neg (by omega), if_neg (by omega), if_neg (fun h => k1 h.1)]; rfl
      · rw [if_neg h2]
        by_cases h3 : 240 ≤ a ∧ a ≤ 244
        · rw [if_neg (by omega), if_neg (by omega), if_pos h3]
          have ev : a % 8 * 262144 + b % 64 * 4096 + c % 64 * 64 + d % 64 = ((a % 8 * 64 + b % 64) * 64 + c % 64) * 64 + d % 64 := by omega
          by_cases k1 : ((1 < n ∧ 128 ≤ b ∧ b ≤ 191) ∧ (2 < n ∧ 128 ≤ c ∧ c ≤ 191)) ∧ (3 < n ∧ 128 ≤ d ∧ d ≤ 191)
          · rw [if_pos (show a / 8 = 30 ∧ (1 < n ∧ b / 64 = 2) ∧ (2 < n ∧ c / 64 = 2) ∧ (3 < n ∧ d / 64 = 2) by omega), ev]
            by_cases k2 : 65536 ≤ ((a % 8 * 64 + b % 64) * 64 + c % 64) * 64 + d % 64 ∧ ((a % 8 * 64 + b % 64) * 64 + c % 64) * 64 + d % 64 ≤ 1114111 ∧ ¬ (55296 ≤ ((a % 8 * 64 + b % 64) * 64 + c % 64) * 64 + d % 64 ∧ ((a % 8 * 64 + b % 64) * 64 + c % 64) * 64 + d % 64 ≤ 57343)
            · rw [if_pos (by omega), if_pos ⟨k1, k2⟩]; rfl
            · rw [if_neg (by omega), if_neg (fun h => k2 h.2)]; rfl
          · rw [if_neg (by omega), if_neg (fun h => k1 h.1)]; rfl
        · rw [if_neg h3]
          by_cases k1 : a / 32 = 6 ∧ 1 < n ∧ b / 64 = 2
          · rw [if_pos k1, if_neg (by omega)]; rfl
          · rw [if_neg k1, if_neg (by omega)]
            by_cases k2 : a / 8 = 30 ∧ (1 < n ∧ b / 64 = 2) ∧ (2 < n ∧ c / 64 = 2) ∧ (3 < n ∧ d / 64 = 2)
            · rw [if_pos k2, if_neg (by omega)]; rfl
            · rw [if_neg k2]; rfl

/-- Ranging over a text gives the document's runes. -/
theorem decode_one (s : ByteArray) (i : Nat) (h : i ≤ s.size) : Utf8.decode s i = runeOf (oneP (s.extract i s.size)) := by
  rw [decode_F s i h, ← decF_one, bt_rest, bt_rest, bt_rest, bt_rest, ByteArray.size_extract, Nat.min_self]
  rfl

end Go.Proofs.YtkmdajenbidaaaaDoor

/- The places of runes, and how many there are: plain. -/
namespace Go.Proofs.YtkmdajenbidaaaaDoor
open Go.RowKit
set_option maxRecDepth 100000
set_option linter.unusedSimpArgs false

/-- What is left of a text; its first rune; where the next one stands. -/
def restB (s : ByteArray) (p : Nat) : ByteArray := s.extract p s.size

theorem restB_size (s : ByteArray) (p : Nat) : (restB s p).size = s.size - p := by unfold restB; rw [ByteArray.size_extract, Nat.min_self]

def runeAt (s : ByteArray) (p : Nat) : Int := runeX (oneP (restB s p))

def nextR (s : ByteArray) (p : Nat) : Nat := p + runeK (oneP (restB s p))

theorem nextR_gt (s : ByteArray) (p : Nat) : p < nextR s p := by unfold nextR; have := oneP_pos (restB s p); omega

theorem nextR_le (s : ByteArray) (p : Nat) (h : p < s.size) : nextR s p ≤ s.size := by
  unfold nextR
  have := oneP_le (restB s p) (by rw [restB_size]; omega)
  rw [restB_size] at this; omega

/-- Where the rune k stands; the end, if there are no more. -/
def posR (s : ByteArray) : Nat → Nat
  | 0 => 0
  | k + 1 => if posR s k < s.size then nextR s (posR s k) else posR s k

theorem posR_zero (s : ByteArray) : posR s 0 = 0 := rfl

theorem posR_succ (s : ByteArray) (k : Nat) (h : posR s k < s.size) : posR s (k + 1) = nextR s (posR s k) := by
  show (if posR s k < s.size then _ else _) = _; rw [if_pos h]

theorem posR_stop (s : ByteArray) (k : Nat) (h : ¬ posR s k < s.size) : posR s (k + 1) = posR s k := by
  show (if posR s k < s.size then _ else _) = _; rw [if_neg h]

theorem posR_le (s : ByteArray) (k : Nat) : posR s k ≤ s.size := by
  induction k with
  | zero => exact Nat.zero_le _
  | succ k ih =>
    by_cases h : posR s k < s.size
    · rw [posR_succ s k h]; exact nextR_le s _ h
    · rw [posR_stop s k h]; exact ih

theorem posR_ge (s : ByteArray) (k : Nat) (h : posR s k < s.size) : k ≤ posR s k := by
  induction k with
  | zero => exact Nat.zero_le _
  | succ k ih =>
    by_cases h' : posR s k < s.size
    · rw [posR_succ s k h']
      have := ih h'
      have := nextR_gt s (posR s k)
      omega
    · rw [posR_stop s k h'] at h; exact absurd h h'

theorem posR_stay (s : ByteArray) (k j : Nat) (h : ¬ posR s k < s.size) : posR s (k + j) = posR s k := by
  induction j with
  | zero => rfl
  | succ j ih => rw [show k + (j + 1) = k + j + 1 by omega, posR_stop s (k + j) (by rw [ih]; exact h), ih]

/-- How many runes there are from a place on. -/
def cntF (s : ByteArray) : Nat → Nat → Nat
  | 0, _ => 0
  | f + 1, p => if p < s.size then 1 + cntF s f (nextR s p) else 0

theorem cntF_more (s : ByteArray) (f g p : Nat) (hf : s.size - p ≤ f) (hg : s.size - p ≤ g) : cntF s f p = cntF s g p := by
  induction f generalizing g p with
  | zero =>
    cases g with
    | zero => rfl
    | succ g => show 0 = if p < s.size then _ else 0; rw [if_neg (by omega)]
  | succ f ih =>
    cases g with
    | zero => show (if p < s.size then _ else 0) = 0; rw [if_neg (by omega)]
    | succ g =>
      show (if p < s.size then 1 + cntF s f (nextR s p) else 0) = if p < s.size then 1 + cntF s g (nextR s p) else 0
      by_cases h : p < s.size
      · have := nextR_gt s p
        rw [if_pos h, if_pos h, ih g (nextR s p) (by omega) (by omega)]
      · rw [if_neg h, if_neg h]

def leftR (s : ByteArray) (p : Nat) : Nat := cntF s s.size p

def countR (s : ByteArray) : Nat := leftR s 0

theorem leftR_step (s : ByteArray) (p : Nat) (h : p < s.size) : leftR s p = 1 + leftR s (nextR s p) := by
  unfold leftR
  have hn := nextR_gt s p
  rw [cntF_more s s.size (s.size + 1) p (by omega) (by omega)]
  show (if p < s.size then 1 + cntF s s.size (nextR s p) else 0) = _
  rw [if_pos h]

theorem leftR_end (s : ByteArray) (p : Nat) (h : ¬ p < s.size) : leftR s p = 0 := by
  unfold leftR
  rw [cntF_more s s.size 0 p (by omega) (by omega)]; rfl

/-- So many runes stand ahead of a place, and so many behind it. -/
theorem count_split (s : ByteArray) (k : Nat) (h : posR s k < s.size ∨ k = 0 ∨ posR s (k - 1) < s.size) : countR s = k + leftR s (posR s k) := by
  induction k with
  | zero => show leftR s 0 = 0 + leftR s 0; omega
  | succ k ih =>
    have hk : posR s k < s.size := by
      rcases h with h | h | h
      · by_cases h' : posR s k < s.size
        · exact h'
        · rw [posR_stop s k h'] at h; exact absurd h h'
      · omega
      · exact h
    have := ih (Or.inl hk)
    rw [this, leftR_step s _ hk, posR_succ s k hk]; omega

theorem pos_before (s : ByteArray) (k : Nat) (h : k < countR s) : posR s k < s.size := by
  by_cases hk : posR s k < s.size
  · exact hk
  · exfalso
    -- the first place at which the end is reached
    have : ∃ j, j ≤ k ∧ ¬ posR s j < s.size ∧ (j = 0 ∨ posR s (j - 1) < s.size) := by
      clear h
      induction k with
      | zero => exact ⟨0, Nat.le_refl _, hk, Or.inl rfl⟩
      | succ k ih =>
        by_cases h' : posR s k < s.size
        · exact ⟨k + 1, Nat.le_refl _, hk, Or.inr h'⟩
        · obtain ⟨j, h1, h2⟩ := ih h'
          exact ⟨j, by omega, h2⟩
    obtain ⟨j, h1, h2, h3⟩ := this
    have h4 := count_split s j (Or.inr h3)
    rw [leftR_end s _ h2] at h4
    omega

theorem pos_count (s : ByteArray) : posR s (countR s) = s.size := by
  by_cases h : posR s (countR s) < s.size
  · exfalso
    have h1 := count_split s (countR s) (Or.inl h)
    have h2 := leftR_step s _ h
    omega
  · have := posR_le s (countR s); omega

theorem count_le (s : ByteArray) : countR s ≤ s.size := by
  by_cases h : countR s = 0
  · omega
  · have h1 := posR_ge s (countR s - 1) (pos_before s _ (by omega))
    have h2 := pos_before s (countR s - 1) (by omega)
    omega

theorem restB_rest (s : ByteArray) (p k : Nat) (h : p + k ≤ s.size) : (restB s p).extract k (restB s p).size = restB s (p + k) := by
  rw [restB_size]
  apply bt_ext
  · rw [ByteArray.size_extract, restB_size, restB_size]; omega
  · intro i hi
    rw [ByteArray.size_extract, restB_size] at hi
    rw [bt_extract _ k (s.size - p) i (by omega) (by rw [restB_size]; exact Nat.le_refl _)]
    unfold restB
    rw [bt_rest, bt_rest, Nat.add_assoc]

theorem restB_zero (s : ByteArray) : restB s 0 = s := by
  apply bt_ext
  · rw [restB_size]; omega
  · intro i _; unfold restB; rw [bt_rest, Nat.zero_add]

/-- The first n runes. -/
def cutR (s : ByteArray) (n : Nat) : ByteArray := s.extract 0 (posR s n)

end Go.Proofs.YtkmdajenbidaaaaDoor

/- The document's Count, Cut. -/
namespace Go.Proofs.YtkmdajenbidaaaaDoor
open Go.RowKit
set_option maxRecDepth 100000
set_option linter.unusedSimpArgs false

def strLenV : Value → Nat
  | .string s => s.size
  | _ => 0

theorem isEmpty_yes (s : ByteArray) (h : s.size = 0) : s.toList.isEmpty = true := by
  rw [toList_data]
  have : s.data.size = 0 := h
  rw [Array.eq_empty_of_size_eq_zero this]; rfl

theorem isEmpty_no (s : ByteArray) (h : ¬ s.size = 0) : s.toList.isEmpty = false := by
  rw [toList_data]
  cases hq : s.data.toList with
  | nil =>
    have h2 : s.data.toList.length = 0 := by rw [hq]; rfl
    rw [Array.length_toList] at h2
    exact absurd h2 h
  | cons a l => rfl

end Go.Proofs.YtkmdajenbidaaaaDoor

/- The document's Check. -/
namespace Go.Proofs.YtkmdajenbidaaaaDoor
open Go.RowKit
set_option maxRecDepth 100000
set_option linter.unusedSimpArgs false

def goodX (x : Int) : Prop := 32 ≤ x ∧ x ≠ 47 ∧ ¬ (127 ≤ x ∧ x ≤ 159)

/-- A name. -/
def BaseP (s : ByteArray) : Prop := s.toList ≠ [46] ∧ s.toList ≠ [46, 46] ∧ 0 < s.size ∧ bt s 0 ≠ 32 ∧ bt s (s.size - 1) ≠ 32

def NameP (s : ByteArray) : Prop := BaseP s ∧ (∀ k, k < countR s → goodX (runeAt s (posR s k))) ∧ countR s ≤ 32

/-- What Check answers. -/
def NameE (s : ByteArray) (x : Int) : Prop := (x = 0 ∧ NameP s) ∨ (x = 80 ∧ ¬ NameP s)

theorem NameE.uniq {s : ByteArray} {x y : Int} (h1 : NameE s x) (h2 : NameE s y) : x = y := by
  rcases h1 with ⟨rfl, a⟩ | ⟨rfl, a⟩ <;> rcases h2 with ⟨rfl, b⟩ | ⟨rfl, b⟩ <;> first | rfl | exact absurd a b | exact absurd b a



end Go.Proofs.YtkmdajenbidaaaaDoor
