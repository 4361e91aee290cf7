import Derived.Test.YtfbgofbjbfidoaaDoorWords
namespace Go.Proofs.YtfbgofbjbfidoaaDoor
open Go.RowKit

theorem bigW_sum (a b c d : Nat) (hb : b < 256) (hc : c < 256) (hd : d < 256) : bigW a b c d = a * 16777216 + b * 65536 + c * 256 + d := by
  unfold bigW
  rw [nat_join 24 (a * 2 ^ 24) (b * 2 ^ 16) (Nat.mul_mod_left _ _) (by omega)]
  rw [nat_join 16 (a * 2 ^ 24 + b * 2 ^ 16) (c * 2 ^ 8) (by omega) (by omega)]
  rw [nat_join 8 (a * 2 ^ 24 + b * 2 ^ 16 + c * 2 ^ 8) d (by omega) (by omega)]

theorem bigW_xor (a b c d a' b' c' d' : Nat) (hb : b < 256) (hc : c < 256) (hd : d < 256) (hb' : b' < 256) (hc' : c' < 256) (hd' : d' < 256) :
    bigW (a ^^^ a') (b ^^^ b') (c ^^^ c') (d ^^^ d') = bigW a b c d ^^^ bigW a' b' c' d' := by
  apply Nat.eq_of_testBit_eq
  intro i
  have z : ∀ x : Nat, x < 256 → ∀ j, 8 ≤ j → x.testBit j = false := fun x hx j hj => Nat.testBit_lt_two_pow (Nat.lt_of_lt_of_le hx (Nat.pow_le_pow_right (n := 2) (by decide) hj))
  unfold bigW
  simp only [Nat.testBit_or, Nat.testBit_xor, Nat.testBit_mul_two_pow]
  by_cases h1 : i < 8
  · simp [show ¬ 24 ≤ i by omega, show ¬ 16 ≤ i by omega, show ¬ 8 ≤ i by omega]
  · by_cases h2 : i < 16
    · simp [show ¬ 24 ≤ i by omega, show ¬ 16 ≤ i by omega, show 8 ≤ i by omega, z d hd i (by omega), z d' hd' i (by omega)]
    · by_cases h3 : i < 24
      · simp [show ¬ 24 ≤ i by omega, show 16 ≤ i by omega, show 8 ≤ i by omega, z d hd i (by omega), z d' hd' i (by omega), z c hc (i - 8) (by omega), z c' hc' (i - 8) (by omega)]
      · simp [show 24 ≤ i by omega, show 16 ≤ i by omega, show 8 ≤ i by omega, z d hd i (by omega), z d' hd' i (by omega), z c hc (i - 8) (by omega), z c' hc' (i - 8) (by omega), z b hb (i - 16) (by omega), z b' hb' (i - 16) (by omega)]

theorem or4 (a b c d : Nat) : ((a ||| b) ||| c) ||| d = ((d ||| c) ||| b) ||| a := by
  apply Nat.eq_of_testBit_eq
  intro j
  simp only [Nat.testBit_or]
  generalize a.testBit j = A
  generalize b.testBit j = B
  generalize c.testBit j = C
  generalize d.testBit j = D
  cases A <;> cases B <;> cases C <;> cases D <;> rfl

theorem part_full (s : ByteArray) (sh : Nat → Nat) (j : Nat) (h : j < s.size) : part s sh s.size j = bt s j * 2 ^ sh j := by unfold part; rw [if_pos h]
theorem wAt_big (s : ByteArray) (i : Nat) (h : 4 * i + 3 < s.size) : wAt s bsh s.size i = bigW (bt s (4 * i)) (bt s (4 * i + 1)) (bt s (4 * i + 2)) (bt s (4 * i + 3)) := by
  unfold wAt bigW
  rw [part_full _ _ _ (by omega), part_full _ _ _ (by omega), part_full _ _ _ (by omega), part_full _ _ _ (by omega)]
  rw [show bsh (4 * i) = 24 by unfold bsh; omega, show bsh (4 * i + 1) = 16 by unfold bsh; omega, show bsh (4 * i + 2) = 8 by unfold bsh; omega, show bsh (4 * i + 3) = 0 by unfold bsh; omega, Nat.pow_zero, Nat.mul_one]
theorem wAt_small (s : ByteArray) (i : Nat) (h : 4 * i + 3 < s.size) : wAt s ssh s.size i = bigW (bt s (4 * i + 3)) (bt s (4 * i + 2)) (bt s (4 * i + 1)) (bt s (4 * i)) := by
  unfold wAt bigW
  rw [part_full _ _ _ (by omega), part_full _ _ _ (by omega), part_full _ _ _ (by omega), part_full _ _ _ (by omega)]
  rw [show ssh (4 * i) = 0 by unfold ssh; omega, show ssh (4 * i + 1) = 8 by unfold ssh; omega, show ssh (4 * i + 2) = 16 by unfold ssh; omega, show ssh (4 * i + 3) = 24 by unfold ssh; omega, Nat.pow_zero, Nat.mul_one]
  exact or4 _ _ _ _

theorem wordsL_length (s : ByteArray) (sh : Nat → Nat) : (wordsL s sh).length = s.size / 4 := by unfold wordsL; rw [tab_length]
theorem wordsL_getD (s : ByteArray) (sh : Nat → Nat) (i : Nat) (h : i < s.size / 4) : (wordsL s sh).getD i 0 = (wAt s sh s.size i : Int) := by unfold wordsL; rw [tab_getD _ _ _ h]

theorem putL_length (l : List Int) (sh : Nat → Nat) : (putL l sh).length = 4 * l.length := by unfold putL; rw [bytesOf_length]

theorem bt_mk (l : List UInt8) (j : Nat) : bt ⟨l.toArray⟩ j = (l.getD j 0).toNat := rfl
theorem putL_bt (l : List Int) (sh : Nat → Nat) (j : Nat) (h : j < 4 * l.length) : bt ⟨(putL l sh).toArray⟩ j = pb l sh j := by
  rw [bt_mk]
  unfold putL bytesOf
  simp [List.getD, List.getElem?_map, List.getElem?_range h, Nat.mod_eq_of_lt (pb_lt l sh j)]

theorem bytes_eq (l : List UInt8) (s : ByteArray) (hl : l.length = s.size) (h : ∀ j, j < s.size → (l.getD j 0).toNat = bt s j) : (⟨l.toArray⟩ : ByteArray) = s := by
  apply bytes_ext
  show l = s.data.toList
  apply List.ext_getElem (by rw [hl]; simp)
  intro i h1 h2
  have hi := h i (by omega)
  unfold bt at hi
  have e1 : l.getD i 0 = l[i] := by simp [List.getD, List.getElem?_eq_getElem h1]
  have e2 : s.data.toList.getD i 0 = s.data.toList[i] := by simp [List.getD, List.getElem?_eq_getElem h2]
  rw [e1, e2] at hi
  exact UInt8.toNat_inj.1 hi

theorem byte24 (a b c d : Nat) (ha : a < 256) (hb : b < 256) (hc : c < 256) (hd : d < 256) : (((a * 16777216 + b * 65536 + c * 256 + d : Nat) : Int) / ((2 ^ 24 : Nat) : Int) % 256).toNat = a := by
  rw [show (2 ^ 24 : Nat) = 16777216 from rfl]; omega
theorem byte16 (a b c d : Nat) (hb : b < 256) (hc : c < 256) (hd : d < 256) : (((a * 16777216 + b * 65536 + c * 256 + d : Nat) : Int) / ((2 ^ 16 : Nat) : Int) % 256).toNat = b := by
  rw [show (2 ^ 16 : Nat) = 65536 from rfl]; omega
theorem byte8 (a b c d : Nat) (hc : c < 256) (hd : d < 256) : (((a * 16777216 + b * 65536 + c * 256 + d : Nat) : Int) / ((2 ^ 8 : Nat) : Int) % 256).toNat = c := by
  rw [show (2 ^ 8 : Nat) = 256 from rfl]; omega
theorem byte0 (a b c d : Nat) (hd : d < 256) : (((a * 16777216 + b * 65536 + c * 256 + d : Nat) : Int) / ((2 ^ 0 : Nat) : Int) % 256).toNat = d := by
  rw [show (2 ^ 0 : Nat) = 1 from rfl]; omega

theorem four (j : Nat) : (bsh j = 24 ∧ ssh j = 0 ∧ j = 4 * (j / 4)) ∨ (bsh j = 16 ∧ ssh j = 8 ∧ j = 4 * (j / 4) + 1) ∨ (bsh j = 8 ∧ ssh j = 16 ∧ j = 4 * (j / 4) + 2) ∨ (bsh j = 0 ∧ ssh j = 24 ∧ j = 4 * (j / 4) + 3) := by
  unfold bsh ssh; omega

/-- The bytes of words, put again, are the bytes. -/
theorem pb_big (s : ByteArray) (h : s.size % 4 = 0) (j : Nat) (hj : j < s.size) : pb (wordsL s bsh) bsh j = bt s j := by
  unfold pb
  have hi : 4 * (j / 4) + 3 < s.size := by omega
  rw [wordsL_getD _ _ _ (by omega), wAt_big s (j / 4) hi, bigW_sum _ _ _ _ (bt_lt _ _) (bt_lt _ _) (bt_lt _ _)]
  rcases four j with ⟨e, _, e'⟩ | ⟨e, _, e'⟩ | ⟨e, _, e'⟩ | ⟨e, _, e'⟩
  · rw [e, byte24 _ _ _ _ (bt_lt _ _) (bt_lt _ _) (bt_lt _ _) (bt_lt _ _), ← e']
  · rw [e, byte16 _ _ _ _ (bt_lt _ _) (bt_lt _ _) (bt_lt _ _), ← e']
  · rw [e, byte8 _ _ _ _ (bt_lt _ _) (bt_lt _ _), ← e']
  · rw [e, byte0 _ _ _ _ (bt_lt _ _), ← e']
theorem pb_small (s : ByteArray) (h : s.size % 4 = 0) (j : Nat) (hj : j < s.size) : pb (wordsL s ssh) ssh j = bt s j := by
  unfold pb
  have hi : 4 * (j / 4) + 3 < s.size := by omega
  rw [wordsL_getD _ _ _ (by omega), wAt_small s (j / 4) hi, bigW_sum _ _ _ _ (bt_lt _ _) (bt_lt _ _) (bt_lt _ _)]
  rcases four j with ⟨_, e, e'⟩ | ⟨_, e, e'⟩ | ⟨_, e, e'⟩ | ⟨_, e, e'⟩
  · rw [e, byte0 _ _ _ _ (bt_lt _ _), ← e']
  · rw [e, byte8 _ _ _ _ (bt_lt _ _) (bt_lt _ _), ← e']
  · rw [e, byte16 _ _ _ _ (bt_lt _ _) (bt_lt _ _) (bt_lt _ _), ← e']
  · rw [e, byte24 _ _ _ _ (bt_lt _ _) (bt_lt _ _) (bt_lt _ _) (bt_lt _ _), ← e']
theorem put_words_big (s : ByteArray) (h : s.size % 4 = 0) : (⟨(putL (wordsL s bsh) bsh).toArray⟩ : ByteArray) = s := by
  apply bytes_eq
  · rw [putL_length, wordsL_length]; omega
  · intro j hj
    have h1 := putL_bt (wordsL s bsh) bsh j (by rw [wordsL_length]; omega)
    rw [bt_mk] at h1
    rw [h1, pb_big s h j hj]
theorem put_words_small (s : ByteArray) (h : s.size % 4 = 0) : (⟨(putL (wordsL s ssh) ssh).toArray⟩ : ByteArray) = s := by
  apply bytes_eq
  · rw [putL_length, wordsL_length]; omega
  · intro j hj
    have h1 := putL_bt (wordsL s ssh) ssh j (by rw [wordsL_length]; omega)
    rw [bt_mk] at h1
    rw [h1, pb_small s h j hj]
end Go.Proofs.YtfbgofbjbfidoaaDoor
