import Derived.Test.YtglgppeloolbhaaGreatDoorG
import Derived.Test.YtglgppeloolbhaaGreatDoorRows
/- Numbers as digits of eight bits, and Poly1305 on plain numbers: nothing of the program. -/
namespace Go.Proofs.YtglgppeloolbhaaGreatDoor
open Go.RowKit
set_option maxRecDepth 100000
set_option linter.unusedSimpArgs false

/-- The number of the first n digits. -/
def valF (f : Nat → Nat) : Nat → Nat
  | 0 => 0
  | n + 1 => valF f n + f n * 256 ^ n
def valL (l : List Nat) : Nat := valF (fun i => l.getD i 0) l.length
/-- The first n digits of a number. -/
def digN (v n : Nat) : List Nat := tabN n (fun i => v / 256 ^ i % 256)
theorem digN_length (v n : Nat) : (digN v n).length = n := tabN_length _ _
theorem digN_getD (v n i : Nat) (h : i < n) : (digN v n).getD i 0 = v / 256 ^ i % 256 := tabN_getD _ _ _ h
theorem digN_out (v n i : Nat) (h : n ≤ i) : (digN v n).getD i 0 = 0 := by
  rw [List.getD_eq_getElem?_getD, List.getElem?_eq_none (by rw [digN_length]; exact h)]; rfl
theorem digN_lt (v n i : Nat) : (digN v n).getD i 0 < 256 := by
  by_cases h : i < n
  · rw [digN_getD _ _ _ h]; exact Nat.mod_lt _ (by decide)
  · rw [digN_out _ _ _ (by omega)]; decide
theorem pow256 (n : Nat) : 0 < 256 ^ n := Nat.pow_pos (by decide)
theorem valF_congr (f g : Nat → Nat) (n : Nat) (h : ∀ i, i < n → f i = g i) : valF f n = valF g n := by
  induction n with
  | zero => rfl
  | succ n ih => show valF f n + f n * 256 ^ n = valF g n + g n * 256 ^ n; rw [ih (fun i hi => h i (by omega)), h n (by omega)]
theorem valF_lt (f : Nat → Nat) (n : Nat) (h : ∀ i, i < n → f i < 256) : valF f n < 256 ^ n := by
  induction n with
  | zero => show 0 < 1; omega
  | succ n ih =>
    show valF f n + f n * 256 ^ n < 256 ^ (n + 1)
    have h1 := ih (fun i hi => h i (by omega))
    have h2 : f n * 256 ^ n ≤ 255 * 256 ^ n := Nat.mul_le_mul_right _ (by have := h n (by omega); omega)
    rw [Nat.pow_succ]
    generalize 256 ^ n = p at *
    omega
theorem valF_digits (v n : Nat) : valF (fun i => v / 256 ^ i % 256) n = v % 256 ^ n := by
  induction n with
  | zero => show 0 = v % 1; omega
  | succ n ih =>
    show valF _ n + v / 256 ^ n % 256 * 256 ^ n = _
    rw [ih, Nat.pow_succ, Nat.mod_mul, Nat.mul_comm (v / 256 ^ n % 256)]
theorem valL_digN (v n : Nat) : valL (digN v n) = v % 256 ^ n := by
  unfold valL
  rw [digN_length, valF_congr _ (fun i => v / 256 ^ i % 256) n (fun i hi => digN_getD v n i hi), valF_digits]
theorem valL_digN_of (v n : Nat) (h : v < 256 ^ n) : valL (digN v n) = v := by rw [valL_digN, Nat.mod_eq_of_lt h]

/-! ### Carrying. -/
def carryAt (l : List Nat) : Nat → Nat
  | 0 => 0
  | i + 1 => (carryAt l i + l.getD i 0) / 256
theorem carryAt_eq (l : List Nat) (i : Nat) : carryAt l i = valF (fun j => l.getD j 0) i / 256 ^ i := by
  induction i with
  | zero => show 0 = 0 / 1; rfl
  | succ i ih =>
    show (carryAt l i + l.getD i 0) / 256 = (valF (fun j => l.getD j 0) i + l.getD i 0 * 256 ^ i) / 256 ^ (i + 1)
    rw [ih, Nat.pow_succ, ← Nat.div_div_eq_div_mul, Nat.add_mul_div_right _ _ (pow256 i)]
theorem valF_split (f : Nat → Nat) (i n : Nat) : ∃ q, valF f (i + 1 + n) = valF f (i + 1) + q * 256 ^ (i + 1) := by
  induction n with
  | zero => exact ⟨0, by simp⟩
  | succ n ih =>
    obtain ⟨q, hq⟩ := ih
    refine ⟨q + f (i + 1 + n) * 256 ^ n, ?_⟩
    show valF f (i + 1 + n) + f (i + 1 + n) * 256 ^ (i + 1 + n) = _
    rw [hq, Nat.add_mul, Nat.mul_assoc, ← Nat.pow_add, Nat.add_comm n (i + 1), Nat.add_assoc]
theorem valF_more (l : List Nat) (n : Nat) (h : l.length ≤ n) : valF (fun j => l.getD j 0) n = valL l := by
  obtain ⟨k, rfl⟩ : ∃ k, n = l.length + k := ⟨n - l.length, by omega⟩
  induction k with
  | zero => rfl
  | succ k ih =>
    show valF _ (l.length + k) + l.getD (l.length + k) 0 * _ = _
    rw [ih (by omega), List.getD_eq_getElem?_getD, List.getElem?_eq_none (by omega)]
    simp
/-- The digit that carrying leaves. -/
theorem carried_digit (l : List Nat) (i : Nat) : (carryAt l i + l.getD i 0) % 256 = valL l / 256 ^ i % 256 := by
  have h1 : carryAt l i + l.getD i 0 = valF (fun j => l.getD j 0) (i + 1) / 256 ^ i := by
    show _ = (valF (fun j => l.getD j 0) i + l.getD i 0 * 256 ^ i) / 256 ^ i
    rw [carryAt_eq, Nat.add_mul_div_right _ _ (pow256 i)]
  obtain ⟨q, hq⟩ := valF_split (fun j => l.getD j 0) i l.length
  rw [valF_more l (i + 1 + l.length) (by omega)] at hq
  rw [h1, hq, Nat.pow_succ, show q * (256 ^ i * 256) = (q * 256) * 256 ^ i by rw [Nat.mul_comm (256 ^ i), Nat.mul_assoc], Nat.add_mul_div_right _ _ (pow256 i), Nat.add_mul_mod_self_right]
theorem carryAt_le (l : List Nat) (B : Nat) (h : ∀ i, l.getD i 0 ≤ 255 * B) (i : Nat) : carryAt l i ≤ B := by
  induction i with
  | zero => exact Nat.zero_le _
  | succ i ih =>
    show (carryAt l i + l.getD i 0) / 256 ≤ B
    have := h i
    omega

/-! ### What stands from the bit 130 on, and below it. -/
theorem dig_big (v n i : Nat) (h : v < 256 ^ n) (hi : n ≤ i) : v / 256 ^ i % 256 = 0 := by
  have : v < 256 ^ i := Nat.lt_of_lt_of_le h (Nat.pow_le_pow_right (by decide) hi)
  rw [Nat.div_eq_of_lt this]
theorem or_byte (a b : Nat) (ha : a < 64) : a ||| (b * 64) % 256 = a + b % 4 * 64 := by
  have e : b * 64 % 256 = 2 ^ 6 * (b % 4) := by omega
  have h := Nat.two_pow_add_eq_or_of_lt (i := 6) (b := a) ha (b % 4)
  rw [e, Nat.or_comm, ← h]
  omega
theorem high_digit (v i : Nat) : v / 2 ^ 130 / 256 ^ i % 256 = v / 256 ^ (i + 16) % 256 / 4 + v / 256 ^ (i + 17) % 256 % 4 * 64 := by
  have e1 : v / 2 ^ 130 / 256 ^ i = v / 256 ^ (i + 16) / 4 := by
    rw [Nat.div_div_eq_div_mul, Nat.div_div_eq_div_mul, show (2 : Nat) ^ 130 = 256 ^ 16 * 4 by decide, Nat.pow_add]
    congr 1
    rw [Nat.mul_comm, ← Nat.mul_assoc]
  have e2 : v / 256 ^ (i + 17) = v / 256 ^ (i + 16) / 256 := by rw [Nat.div_div_eq_div_mul, ← Nat.pow_succ]
  rw [e1, e2]
  generalize v / 256 ^ (i + 16) = x
  omega
theorem low_digit (v i : Nat) (h : i < 16) : v % 2 ^ 130 / 256 ^ i % 256 = v / 256 ^ i % 256 := by
  obtain ⟨k, hk⟩ : ∃ k, (2 : Nat) ^ 130 = 256 ^ i * (256 * k) := ⟨256 ^ (15 - i) * 4, by
    rw [show (2 : Nat) ^ 130 = 256 ^ 16 * 4 by decide, ← Nat.mul_assoc 256, ← Nat.mul_assoc (256 ^ i), ← Nat.pow_succ', ← Nat.pow_add, show i + (15 - i + 1) = 16 by omega]⟩
  rw [hk, Nat.mod_mul_right_div_self, Nat.mod_mul_right_mod]
theorem low_digit16 (v : Nat) : v % 2 ^ 130 / 256 ^ 16 % 256 = v / 256 ^ 16 % 256 % 4 := by
  rw [show (2 : Nat) ^ 130 = 256 ^ 16 * 4 by decide, Nat.mod_mul_right_div_self]
  omega

/-! ### Modulo 2^130 - 5. -/
def pN : Nat := 1361129467683753853853498429727072845819
theorem two130 : (2 : Nat) ^ 130 = 1361129467683753853853498429727072845824 := by decide
def stepR (v : Nat) : Nat := v % 2 ^ 130 + 5 * (v / 2 ^ 130)
theorem stepR_mod (v : Nat) : stepR v % pN = v % pN := by
  have e : v = stepR v + v / 2 ^ 130 * pN := by
    unfold stepR pN
    have h := Nat.div_add_mod v (2 ^ 130)
    rw [two130] at *
    omega
  conv => rhs; rw [e]
  rw [Nat.add_mul_mod_self_right]
theorem stepR_one (v : Nat) (h : v < 256 ^ 35) : stepR v < 2 ^ 153 := by
  unfold stepR
  have e : (256 : Nat) ^ 35 = 2 ^ 130 * 2 ^ 150 := by decide
  have h1 : v / 2 ^ 130 < 2 ^ 150 := Nat.div_lt_of_lt_mul (by rw [← e]; exact h)
  have h2 := Nat.mod_lt v (Nat.two_pow_pos 130)
  have e2 : (2 : Nat) ^ 130 + 5 * 2 ^ 150 ≤ 2 ^ 153 := by decide
  generalize v / 2 ^ 130 = q at *
  generalize v % 2 ^ 130 = r at *
  generalize (2 : Nat) ^ 150 = A at *
  generalize (2 : Nat) ^ 153 = B at *
  omega
theorem stepR_two (v : Nat) (h : v < 2 ^ 153) : stepR v < 2 ^ 130 + 2 ^ 26 := by
  unfold stepR
  have e : (2 : Nat) ^ 153 = 2 ^ 130 * 2 ^ 23 := by decide
  have h1 : v / 2 ^ 130 < 2 ^ 23 := Nat.div_lt_of_lt_mul (by rw [← e]; exact h)
  have h2 := Nat.mod_lt v (Nat.two_pow_pos 130)
  generalize v / 2 ^ 130 = q at *
  generalize v % 2 ^ 130 = r at *
  omega
theorem stepR_three (v : Nat) (h : v < 2 ^ 130 + 2 ^ 26) : stepR v < 2 ^ 130 := by
  unfold stepR
  rw [two130] at *
  omega
/-- The last step: what is behind a number below 2^130. -/
theorem last_more (v : Nat) (h : v < 2 ^ 130) (h5 : 2 ^ 130 ≤ v + 5) : (v + 5) % 2 ^ 130 = v % pN := by
  unfold pN
  rw [two130] at *
  omega
theorem last_less (v : Nat) (h5 : v + 5 < 2 ^ 130) : v % 2 ^ 130 = v % pN := by
  unfold pN
  rw [two130] at *
  omega

/-! ### The tag. -/
/-- The number of bytes, the first one the lowest. -/
def numB (s : ByteArray) : Nat := valF (bt s) s.size
def clampF (f : Nat → Nat) (i : Nat) : Nat := if i % 4 = 3 then f i % 16 else if i % 4 = 0 ∧ 0 < i then f i / 4 * 4 else f i
theorem clampF_lt (f : Nat → Nat) (h : ∀ i, f i < 256) (i : Nat) : clampF f i < 256 := by
  have := h i
  unfold clampF
  split
  · omega
  · split <;> omega
def clampB (s : ByteArray) : ByteArray := ⟨(bytesOf 16 (clampF (bt s))).toArray⟩
def clampN (s : ByteArray) : Nat := valF (clampF (bt s)) 16
/-- Sixteen bytes of a text, the last ones perhaps fewer, with a byte 1 behind them. -/
def cutLen (s : ByteArray) (i : Nat) : Nat := min 16 (s.size - 16 * i)
def chunkN (s : ByteArray) (i : Nat) : Nat := valF (fun j => bt s (16 * i + j)) (cutLen s i) + 256 ^ cutLen s i
theorem chunkN_lt (s : ByteArray) (i : Nat) : chunkN s i < 2 * 256 ^ 16 := by
  unfold chunkN
  have h1 := valF_lt (fun j => bt s (16 * i + j)) (cutLen s i) (fun j _ => bt_lt s _)
  have h2 : 256 ^ cutLen s i ≤ 256 ^ 16 := Nat.pow_le_pow_right (by decide) (Nat.min_le_left _ _)
  generalize 256 ^ cutLen s i = a at *
  generalize (256 : Nat) ^ 16 = b at *
  omega
def accN (s : ByteArray) (r : Nat) : Nat → Nat
  | 0 => 0
  | i + 1 => (accN s r i + chunkN s i) * r % pN
theorem accN_succ (s : ByteArray) (r i : Nat) : accN s r (i + 1) = (accN s r i + chunkN s i) * r % pN := rfl
theorem accN_lt (s : ByteArray) (r i : Nat) : accN s r i < pN := by
  cases i with
  | zero => show 0 < pN; decide
  | succ i => exact Nat.mod_lt _ (by decide)
def tagB (key s : ByteArray) : ByteArray := ⟨(bytesOf 16 (fun i => (accN s (clampN key) ((s.size + 15) / 16) + valF (fun j => bt key (16 + j)) 16) / 256 ^ i % 256)).toArray⟩
end Go.Proofs.YtglgppeloolbhaaGreatDoor

/- The document's digits, carried. -/
namespace Go.Proofs.YtglgppeloolbhaaGreatDoor
open Go.RowKit
set_option maxRecDepth 100000
set_option linter.unusedSimpArgs false

theorem ints_tabN (n : Nat) (f : Nat → Nat) : ints (tabN n f) = wT f n := wT_first _ _ _ (tabN_length _ _) (fun _ hi => (tabN_getD _ _ _ hi).symm)

set_option maxHeartbeats 2000000 in
theorem rdigits_any (s : ByteArray) (w : World) (hs : s.size ≤ 1048576) :
    Calls Tryz.prog 52 #[.string s] w fun e w' => ∃ v, e = .returned v ∧ OwnV w' w.heap.size 3 .i64 v s.size (wT (bt s) s.size) ∧ Below w.heap.size w w' := by
  obtain ⟨i0, hi, hz0, hz1, hz2⟩ := info_parts Tryz.info3
  go_enter Tryz.func52, Tryz.ntmps52
  go_wp2
  go_loopw [3, 4] (fun v i wr => ∃ k : Nat, k ≤ s.size ∧ i = .int .i64 k ∧ OwnV wr w.heap.size 3 .i64 v k (wT (bt s) k) ∧ Below w.heap.size w wr) (fun _ i _ => s.size - (intOf i).toNat)
  case atStart => exact ⟨0, Nat.zero_le _, rfl, OwnV.nil _ _ _ _, Below.refl _ _⟩
  case round =>
    obtain ⟨k, hk, rfl, hown, hbl⟩ := hrel
    by_cases hlt : k < s.size
    · have hsz := hbl.size
      have hg := bt_get s k hlt
      have hb := bt_lt s k
      go_wp2_with (at_builtin; refine wpList_app1 rfl (.tmp 11) (.tmp 16) 47 rfl w.heap.size 3 i0 .i64 8 Tryz.underlying47 hi hz0 hz1 hz2 wr u3 k _ rfl hown _ rfl (by omega) (by omega) hsz ?_)
      intro v1 w1 hown1 hbx
      rw [wT_snoc _ _ _ (by rw [← hg])] at hown1
      have hbl1 := hbl.trans hbx
      clear hbx hown hbl hg hb
      go_wp2
      go_roundw
      case rel => exact ⟨k + 1, by omega, by go_num, hown1, hbl1⟩
      case measure => simp [intOf]; omega
    · have hk' : k = s.size := by omega
      subst hk'
      go_wp2
      go_ret
      exact ⟨u3, rfl, hown, hbl⟩

theorem ret_val {a b : Int} (h : a = b) : Value.int .i64 a = Value.int .i64 b := by rw [h]
theorem and255_nat (n : Nat) : bits .and .i64 (n : Int) 255 = ((n % 256 : Nat) : Int) := by rw [i64_and255]; omega

set_option maxHeartbeats 2000000 in
theorem rcarried_any (l : List Nat) (a : Option Addr) (n c many : Nat) (w : World) (hm : many ≤ 1048576) (hl : ∀ i, l.getD i 0 ≤ 1099511627775) (hI : IntsAt w .i64 a n (ints l)) :
    Calls Tryz.prog 74 #[.slice a n c, .int .i64 (many : Int)] w fun e w' => e = .returned (.slice (some ⟨w.heap.size, 0, none⟩) many many) ∧ Own w' w.heap.size 3 .i64 w.heap.size many (ints (digN (valL l) many)) ∧ Below w.heap.size w w' := by
  obtain ⟨f, Hf⟩ : ∃ f : Nat → Nat, Hid (f = fun i => valL l / 256 ^ i % 256) := ⟨_, rfl⟩
  have HD : Hid (ints (digN (valL l) many) = wT f many) := by show _ = _; rw [Hf.out]; exact ints_tabN _ _
  have Hd : Hid (∀ i, (carryAt l i + l.getD i 0) % 256 = f i) := by show ∀ i, _; intro i; rw [Hf.out]; exact carried_digit l i
  have Hc : Hid (∀ i, carryAt l i ≤ 4311810305) := fun i => carryAt_le l 4311810305 (fun i => Nat.le_trans (hl i) (by decide)) i
  have Hl : Hid (∀ i, l.getD i 0 ≤ 1099511627775) := hl
  have HI : Hid (IntsAt w .i64 a n (ints l)) := hI
  rw [HD.out]
  obtain ⟨i0, hi, hz0, hz1, hz2⟩ := info_parts Tryz.info3
  clear hl hI
  go_enter Tryz.func74, Tryz.ntmps74
  go_wp2_with (at_make; refine wpList_make_full _ rfl _ _ 47 rfl w.heap.size 3 i0 (.int .i64 0) 1 Tryz.underlying47 hi hz0 hz1 _ _ _ _ many rfl rfl ?b4 ?b5 ?b1 ?b2 ?b3 ?_)
  case b1 => rw [hz2]; omega
  case b2 => unfold maxLen; omega
  case b3 => omega
  case b4 => rfl
  case b5 => rfl
  intro w1 hown0 hgrow
  have hown : Own w1 w.heap.size 3 .i64 w.heap.size many (wT (cutN f 0) many) := Own.made' _ (fun i _ => by unfold cutN; rw [if_neg (by omega)]; rfl) hown0
  have hbl : Below w.heap.size w w1 := (Below.refl _ _).grown hgrow (Nat.le_refl _) (fun k hk => by cases hk)
  clear hown0 hgrow hi hz0 hz1 hz2
  go_wp2
  go_loopw [6, 7] (fun cr i wr => ∃ k : Nat, k ≤ many ∧ i = .int .i64 k ∧ cr = .int .i64 ((carryAt l k : Nat) : Int) ∧ Own wr w.heap.size 3 .i64 w.heap.size many (wT (cutN f k) many) ∧ Below w.heap.size w wr) (fun _ i _ => many - (intOf i).toNat)
  case atStart => exact ⟨0, Nat.zero_le _, rfl, rfl, hown, hbl⟩
  case round =>
    clear hown hbl
    obtain ⟨k, hk, rfl, rfl, hown, hbl⟩ := hrel
    by_cases hlt : k < many
    · have h1 := Hc.out k
      have h2 := Hl.out k
      have h3 := Hd.out k
      have h4 : carryAt l (k + 1) = (carryAt l k + l.getD k 0) / 256 := rfl
      have hc := hown.cell k hlt
      have hf := hown.free k
      have HO := hown.set k ((f k : Nat) : Int)
      rw [wT_cut_set] at HO
      have HB := hbl.setCell (p := ⟨w.heap.size, k, none⟩) (Nat.le_refl _) (Value.int .i64 ((f k : Nat) : Int))
      by_cases hn' : k < n
      · obtain ⟨b, off, rfl, hcl⟩ : ∃ b off, a = some ⟨b, off, none⟩ ∧ ∀ i, i < n → w.cell? ⟨b, off + i, none⟩ = some (.int .i64 ((ints l).getD i 0)) := by
          rcases HI.out.2 with h0 | h1
          · omega
          · exact h1
        have g0 := hcl k hn'
        rw [ints_getD] at g0
        have hlb := World.block_lt_of_cell? w _ g0
        have g1 : wr.cell? ⟨b, off + k, none⟩ = some (.int .i64 ((l.getD k 0 : Nat) : Int)) := by rw [hbl.cell (p := ⟨b, off + k, none⟩) hlb]; exact g0
        have HC4 : Hid (carryAt l (k + 1) = (carryAt l k + l.getD k 0) / 256) := h4
        generalize l.getD k 0 = Y at *
        generalize carryAt l k = X at *
        obtain ⟨S, hS⟩ : ∃ S : Nat, S = X + Y := ⟨_, rfl⟩
        have e1 : (X : Int) + (Y : Int) = (S : Int) := by omega
        have e2 : bits .and .i64 (S : Int) 255 = ((f k : Nat) : Int) := by rw [and255_nat, hS, h3]
        have hSb : S ≤ 1103823438081 := by omega
        have HS : Hid (S = X + Y) := hS
        have kb : (k : Int) < (n : Int) := by omega
        clear g0 hcl h4 hS hown hbl h3
        generalize f k = Z at *
        go_wp2
        go_roundw
        case rel =>
          refine ⟨k + 1, by omega, by go_num, ?_, HO, HB⟩
          rw [HC4.out, ← HS.out]
          exact ret_val (by omega)
        case measure => simp [intOf]; omega
      · have hz : l.getD k 0 = 0 := by
          rw [List.getD_eq_getElem?_getD, List.getElem?_eq_none (by have := HI.out.1; rw [ints_length] at this; omega)]; rfl
        rw [hz] at h3 h4
        have HC4 : Hid (carryAt l (k + 1) = (carryAt l k + 0) / 256) := h4
        have kb : (n : Int) ≤ (k : Int) := by omega
        generalize carryAt l k = X at *
        have e2 : bits .and .i64 (X : Int) 255 = ((f k : Nat) : Int) := by rw [and255_nat, ← h3, Nat.add_zero]
        clear h4 h3 hown hbl hz
        generalize f k = Z at *
        go_wp2
        go_roundw
        case rel =>
          refine ⟨k + 1, by omega, by go_num, ?_, HO, HB⟩
          rw [HC4.out]
          exact ret_val (by omega)
        case measure => simp [intOf]; omega
    · have hk' : k = many := by omega
      subst hk'
      rw [wT_cut_all] at hown
      go_wp2
      go_ret
      exact ⟨rfl, hown, hbl⟩
end Go.Proofs.YtglgppeloolbhaaGreatDoor

/- The document's add, times. -/
namespace Go.Proofs.YtglgppeloolbhaaGreatDoor
open Go.RowKit
set_option maxRecDepth 100000
set_option linter.unusedSimpArgs false

theorem valF_add (f g : Nat → Nat) (n : Nat) : valF (fun i => f i + g i) n = valF f n + valF g n := by
  induction n with
  | zero => rfl
  | succ n ih =>
    show valF (fun i => f i + g i) n + (f n + g n) * 256 ^ n = valF f n + f n * 256 ^ n + (valF g n + g n * 256 ^ n)
    rw [ih, Nat.add_mul]; omega
theorem valL_tabN (f : Nat → Nat) (n : Nat) : valL (tabN n f) = valF f n := by
  unfold valL
  rw [tabN_length]
  exact valF_congr _ _ _ (fun i hi => tabN_getD _ _ _ hi)
theorem valF_digN (x m n : Nat) (h1 : x < 256 ^ m) (h2 : x < 256 ^ n) : valF (fun i => (digN x m).getD i 0) n = valL (digN x m) := by
  by_cases h : m ≤ n
  · exact valF_more _ _ (by rw [digN_length]; exact h)
  · rw [valL_digN_of x m h1, valF_congr _ (fun i => x / 256 ^ i % 256) n (fun i hi => digN_getD x m i (by omega)), valF_digits, Nat.mod_eq_of_lt h2]
theorem getD_none (l : List Nat) (i : Nat) (h : l.length ≤ i) : l.getD i 0 = 0 := by
  rw [List.getD_eq_getElem?_getD, List.getElem?_eq_none h]; rfl

/-- A number of a slice is put to a place of a row of the call's own: the region 'out[i] = out[i] + a[i]'. -/
def sumF (a b : List Nat) (i : Nat) : Nat := a.getD i 0 + b.getD i 0
set_option maxRecDepth 100000 in
set_option maxHeartbeats 4000000 in
theorem radd_any (a b : List Nat) (aa ab : Option Addr) (na nb ca cb many : Nat) (w : World) (hm : many ≤ 1048576) (ha : ∀ i, a.getD i 0 ≤ 549755813887) (hb : ∀ i, b.getD i 0 ≤ 549755813887) (hs : valF (fun i => a.getD i 0) many = valL a) (hs' : valF (fun i => b.getD i 0) many = valL b) (hA : IntsAt w .i64 aa na (ints a)) (hB : IntsAt w .i64 ab nb (ints b)) :
    Calls Tryz.prog 55 #[.slice aa na ca, .slice ab nb cb, .int .i64 (many : Int)] w fun e w' => ∃ g, e = .returned (.slice (some ⟨g, 0, none⟩) many many) ∧ w.heap.size ≤ g ∧ Own w' g 3 .i64 g many (ints (digN (valL a + valL b) many)) ∧ Below w.heap.size w w' := by
  have HA : Hid (IntsAt w .i64 aa na (ints a)) := hA
  have HB : Hid (IntsAt w .i64 ab nb (ints b)) := hB
  have la : a.length = na := by have := hA.1; rw [ints_length] at this; exact this
  have lb : b.length = nb := by have := hB.1; rw [ints_length] at this; exact this
  have Ha : Hid (∀ i, a.getD i 0 ≤ 549755813887) := ha
  have Hb : Hid (∀ i, b.getD i 0 ≤ 549755813887) := hb
  have Hs : Hid (valL (tabN many (sumF a b)) = valL a + valL b) := by
    show _ = _
    rw [valL_tabN, ← hs, ← hs']
    exact valF_add _ _ _
  obtain ⟨i0, hi, hz0, hz1, hz2⟩ := info_parts Tryz.info3
  obtain ⟨f, Hf⟩ : ∃ f, Hid (f = sumF a b) := ⟨_, rfl⟩
  rw [← Hf.out] at Hs
  rw [← Hs.out]
  clear hA hB ha hb hs hs'
  go_enter Tryz.func55, Tryz.ntmps55
  go_wp2_with (at_make; refine wpList_make_full _ rfl _ _ 47 rfl w.heap.size 3 i0 (.int .i64 0) 1 Tryz.underlying47 hi hz0 hz1 _ _ _ _ many rfl rfl ?b4 ?b5 ?b1 ?b2 ?b3 ?_)
  case b1 => rw [hz2]; omega
  case b2 => unfold maxLen; omega
  case b3 => omega
  case b4 => rfl
  case b5 => rfl
  intro w1 hown0 hgrow
  have hown : Own w1 w.heap.size 3 .i64 w.heap.size many (wT (cutN f 0) many) := Own.made' _ (fun i _ => by unfold cutN; rw [if_neg (by omega)]; rfl) hown0
  have hbl : Below w.heap.size w w1 := (Below.refl _ _).grown hgrow (Nat.le_refl _) (fun k hk => by cases hk)
  clear hown0 hgrow hi hz0 hz1 hz2
  generalize hgv : w.heap.size = g at *
  go_wp2
  go_loopw [8] (fun i wr => ∃ k : Nat, k ≤ many ∧ i = .int .i64 k ∧ Own wr g 3 .i64 g many (wT (cutN f k) many) ∧ Below g w wr) (fun i _ => many - (intOf i).toNat)
  case atStart => exact ⟨0, Nat.zero_le _, rfl, hown, hbl⟩
  case round =>
    clear hown hbl
    obtain ⟨k, hk, rfl, hown, hbl⟩ := hrel
    by_cases hlt : k < many
    · have bA := Ha.out k
      have bB := Hb.out k
      have hO : (wT (cutN f k) many).getD k 0 = 0 := by rw [wT_getD _ _ _ hlt]; unfold cutN; rw [if_neg (by omega)]; rfl
      have hFk : f k = a.getD k 0 + b.getD k 0 := by rw [Hf.out]; rfl
      have HLs : Hid ((wT (cutN f k) many).set k ((f k : Nat) : Int) = wT (cutN f (k + 1)) many) := wT_cut_set f many k
      by_cases hka : k < na
      · have kA : (k : Int) < (na : Int) := by omega
        obtain ⟨ba, oa, rfl, hca⟩ : ∃ x o, aa = some ⟨x, o, none⟩ ∧ ∀ i, i < na → w.cell? ⟨x, o + i, none⟩ = some (.int .i64 ((ints a).getD i 0)) := by
          rcases HA.out.2 with h0 | h1
          · omega
          · exact h1
        have gA := hca k hka
        rw [ints_getD] at gA
        have lA : ba < g := by have := World.block_lt_of_cell? w _ gA; rw [hgv] at this; exact this
        have sA : wr.cell? ⟨ba, oa + k, none⟩ = some (.int .i64 ((a.getD k 0 : Nat) : Int)) := by rw [hbl.cell (p := ⟨ba, oa + k, none⟩) (by omega)]; exact gA
        by_cases hkb : k < nb
        · have kB : (k : Int) < (nb : Int) := by omega
          obtain ⟨bb, ob, rfl, hcb⟩ : ∃ x o, ab = some ⟨x, o, none⟩ ∧ ∀ i, i < nb → w.cell? ⟨x, o + i, none⟩ = some (.int .i64 ((ints b).getD i 0)) := by
            rcases HB.out.2 with h0 | h1
            · omega
            · exact h1
          have gB := hcb k hkb
          rw [ints_getD] at gB
          have lB : bb < g := by have := World.block_lt_of_cell? w _ gB; rw [hgv] at this; exact this
          have sB : wr.cell? ⟨bb, ob + k, none⟩ = some (.int .i64 ((b.getD k 0 : Nat) : Int)) := by rw [hbl.cell (p := ⟨bb, ob + k, none⟩) (by omega)]; exact gB
          clear gA gB hca hcb
          generalize a.getD k 0 = A at *
          generalize b.getD k 0 = B at *
          have hO1 := hO
          have cS1 := sA
          have cO1 : wr.cell? ⟨g, k, none⟩ = some (.int .i64 ((0 : Int) : Int)) := by have := hown.cell k hlt; rw [hO1] at this; exact this
          have fO1 := hown.free k
          have VN1 : Hid (IntKind.i64.wrap (A : Int) = (A : Int)) := by show _ = _; rw [i64_small _ (by omega) (by omega)]
          obtain ⟨v1, hw1⟩ : ∃ v, Hid (v = wr.setCell ⟨g, k, none⟩ (.int .i64 (A : Int))) := ⟨_, rfl⟩
          have SS1 : Hid ((wr.setCell ⟨g, k, none⟩ (.int .i64 (A : Int))).cell? ⟨ba, oa + k, none⟩ = some (.int .i64 (A : Int))) := by
            show _ = _
            rw [World.cell?_setCell_far _ _ _ _ (show g ≠ ba by omega)]; exact cS1
          have own1 : Own v1 g 3 .i64 g many ((wT (cutN f k) many).set k (A : Int)) := by rw [hw1.out]; exact hown.set k (A : Int)
          have bl1 : Below g w v1 := by rw [hw1.out]; exact hbl.setCell (p := ⟨g, k, none⟩) (Nat.le_refl _) _
          have cS2 : v1.drew.cell? ⟨bb, ob + k, none⟩ = some (.int .i64 (B : Int)) := by
            show v1.cell? _ = _
            rw [hw1.out, World.cell?_setCell_far _ _ _ _ (show g ≠ bb by omega)]; exact sB
          have own1' : Own v1.drew g 3 .i64 g many ((wT (cutN f k) many).set k (A : Int)) := World.ownsRow.drew own1
          have bl1' : Below g w v1.drew := bl1.drew
          have hO2 : ((wT (cutN f k) many).set k (A : Int)).getD k 0 = (A : Int) := by
            rw [List.getD_eq_getElem?_getD, List.getElem?_set, if_pos rfl, if_pos (by rw [wT_length]; exact hlt)]; rfl
          obtain ⟨Z, hZ⟩ : ∃ Z : Nat, Z = A + B := ⟨_, rfl⟩
          rw [hFk, ← hZ] at HLs
          have cO2 : v1.drew.cell? ⟨g, k, none⟩ = some (.int .i64 (A : Int)) := by have := own1'.cell k hlt; rw [hO2] at this; exact this
          have fO2 := own1'.free k
          have VN2 : Hid (IntKind.i64.wrap ((A : Int) + (B : Int)) = (Z : Int)) := by show _ = _; rw [i64_small _ (by omega) (by omega)]; omega
          obtain ⟨v2, hw2⟩ : ∃ v, Hid (v = v1.drew.setCell ⟨g, k, none⟩ (.int .i64 (Z : Int))) := ⟨_, rfl⟩
          have SS2 : Hid ((v1.drew.setCell ⟨g, k, none⟩ (.int .i64 (Z : Int))).cell? ⟨bb, ob + k, none⟩ = some (.int .i64 (B : Int))) := by
            show _ = _
            rw [World.cell?_setCell_far _ _ _ _ (show g ≠ bb by omega)]; exact cS2
          have own2 : Own v2 g 3 .i64 g many (((wT (cutN f k) many).set k (A : Int)).set k (Z : Int)) := by rw [hw2.out]; exact own1'.set k (Z : Int)
          have bl2 : Below g w v2 := by rw [hw2.out]; exact bl1'.setCell (p := ⟨g, k, none⟩) (Nat.le_refl _) _
          rw [List.set_set] at own2
          clear hown hbl own1 bl1 own1' bl1' sA sB hO hO1 hO2 hFk
          go_wp2_with fail
          refine wp_region_noPanic ?_
          refine wp_region_held_drew (S := fun w' => w'.cell? ⟨ba, oa + k, none⟩ = some (.int .i64 (A : Int))) (by kernel_rfl) (by first | exact trivial | assumption | exact ⟨by assumption, by assumption⟩) (fun hHeld => ?_)
          refine take_at (i := 0) (v := ?_) rfl rfl (by kernel_rfl) (by kernel_rfl) (by kernel_rfl) (fun _ _ _ h => h) (Or.inl ⟨by rfl, ?_⟩) (by assumption) ?_
          rotate_left
          · intro w hSw; (try dsimp only at hSw); go_simp; try with_reducible rfl
          try simp only [Act.put, List.setIfInBounds_toArray, List.set_cons_zero, List.set_cons_succ]
          refine take_at (i := 1) (v := ?_) rfl rfl (by kernel_rfl) (by kernel_rfl) (by kernel_rfl) (fun _ _ _ h => h) (Or.inl ⟨by rfl, ?_⟩) (by assumption) ?_
          rotate_left
          · intro w hSw; (try dsimp only at hSw); go_simp; try with_reducible rfl
          try simp only [Act.put, List.setIfInBounds_toArray, List.set_cons_zero, List.set_cons_succ]
          refine take_at (i := 2) (v := ?_) rfl rfl (by kernel_rfl) (by kernel_rfl) (by kernel_rfl) (fun _ _ _ h => h) (Or.inl ⟨by rfl, ?_⟩) (by assumption) ?_
          rotate_left
          · intro w hSw; (try dsimp only at hSw); go_simp; try with_reducible rfl
          try simp only [Act.put, List.setIfInBounds_toArray, List.set_cons_zero, List.set_cons_succ]
          refine take_at (i := 3) (v := ?_) rfl rfl (by kernel_rfl) (by kernel_rfl) (by kernel_rfl) (fun _ _ _ h => h) (Or.inl ⟨by rfl, ?_⟩) (by assumption) ?_
          rotate_left
          · intro w hSw; (try dsimp only at hSw); go_simp; try with_reducible rfl
          try simp only [Act.put, List.setIfInBounds_toArray, List.set_cons_zero, List.set_cons_succ]
          refine take_at (i := 4) (v := ?_) rfl rfl (by kernel_rfl) (by kernel_rfl) (by kernel_rfl) (fun _ _ _ h => h) (Or.inl ⟨by rfl, ?_⟩) (by assumption) ?_
          rotate_left
          · intro w hSw; (try dsimp only at hSw); go_simp; try with_reducible rfl
          try simp only [Act.put, List.setIfInBounds_toArray, List.set_cons_zero, List.set_cons_succ]
          refine take_at (i := 6) (v := ?_) rfl rfl (by kernel_rfl) (by kernel_rfl) (by kernel_rfl) (fun _ _ _ h => h) (Or.inl ⟨by rfl, ?_⟩) (by assumption) ?_
          rotate_left
          · intro w hSw; (try dsimp only at hSw); go_simp; try with_reducible rfl
          try simp only [Act.put, List.setIfInBounds_toArray, List.set_cons_zero, List.set_cons_succ]
          refine take_at (i := 7) (v := ?_) rfl rfl (by kernel_rfl) (by kernel_rfl) (by kernel_rfl) (fun _ _ _ h => h) (Or.inl ⟨by rfl, ?_⟩) (by assumption) ?_
          rotate_left
          · intro w hSw; (try dsimp only at hSw); go_simp; try with_reducible rfl
          try simp only [Act.put, List.setIfInBounds_toArray, List.set_cons_zero, List.set_cons_succ]
          refine take_at (i := 8) (v := ?_) rfl rfl (by kernel_rfl) (by kernel_rfl) (by kernel_rfl) (fun _ _ _ h => h) (Or.inl ⟨by rfl, ?_⟩) (by assumption) ?_
          rotate_left
          · intro w hSw; (try dsimp only at hSw); go_simp; try with_reducible rfl
          try simp only [Act.put, List.setIfInBounds_toArray, List.set_cons_zero, List.set_cons_succ]
          refine take_at (i := 9) (v := ?_) rfl rfl (by kernel_rfl) (by kernel_rfl) (by kernel_rfl) (fun _ _ _ h => h) (Or.inl ⟨by rfl, ?_⟩) (by assumption) ?_
          rotate_left
          · intro w hSw; (try dsimp only at hSw); go_simp; try with_reducible rfl
          try simp only [Act.put, List.setIfInBounds_toArray, List.set_cons_zero, List.set_cons_succ]
          refine wpAnyH_ready (rs := [5]) (by kernel_rfl) (by simp) ?_
          refine AllReadyH.cons rfl (fun K hK => ?_) AllReadyH.nil
          go_simp
          refine hK.out _ _ (by assumption) (fun hHeld => ?_)
          clear hK K
          refine take_at (i := 10) (v := ?_) rfl rfl (by kernel_rfl) (by kernel_rfl) (by kernel_rfl) (fun _ _ _ h => h) (Or.inl ⟨by rfl, ?_⟩) (by assumption) ?_
          rotate_left
          · intro w hSw; (try dsimp only at hSw); go_simp; try with_reducible rfl
          try simp only [Act.put, List.setIfInBounds_toArray, List.set_cons_zero, List.set_cons_succ]
          refine take_at (i := 11) (v := ?_) rfl rfl (by kernel_rfl) (by kernel_rfl) (by kernel_rfl) (fun _ _ _ h => h) (Or.inl ⟨by rfl, ?_⟩) (by assumption) ?_
          rotate_left
          · intro w hSw; (try dsimp only at hSw); go_simp; try with_reducible rfl
          try simp only [Act.put, List.setIfInBounds_toArray, List.set_cons_zero, List.set_cons_succ]
          refine wpAnyH_ready (rs := [12]) (by kernel_rfl) (by simp) ?_
          refine AllReadyH.cons rfl (fun K hK => ?_) AllReadyH.nil
          go_simp
          rw [VN1.out]
          refine hK.out _ _ SS1.out (fun hHeld => ?_)
          clear hK K
          refine wpAnyH_done (by kernel_rfl) (NoPanic.normal ?_) _
          rw [← hw1.out]
          clear cO1 fO1 cS1 VN1 SS1 hw1
          generalize v1.drew = v1' at *
          go_wp2_with fail
          refine wp_region_noPanic ?_
          refine wp_region_held_drew (S := fun w' => w'.cell? ⟨bb, ob + k, none⟩ = some (.int .i64 (B : Int))) (by kernel_rfl) (by first | exact trivial | assumption | exact ⟨by assumption, by assumption⟩) (fun hHeld => ?_)
          refine take_at (i := 0) (v := ?_) rfl rfl (by kernel_rfl) (by kernel_rfl) (by kernel_rfl) (fun _ _ _ h => h) (Or.inl ⟨by rfl, ?_⟩) (by assumption) ?_
          rotate_left
          · intro w hSw; (try dsimp only at hSw); go_simp; try with_reducible rfl
          try simp only [Act.put, List.setIfInBounds_toArray, List.set_cons_zero, List.set_cons_succ]
          refine take_at (i := 1) (v := ?_) rfl rfl (by kernel_rfl) (by kernel_rfl) (by kernel_rfl) (fun _ _ _ h => h) (Or.inl ⟨by rfl, ?_⟩) (by assumption) ?_
          rotate_left
          · intro w hSw; (try dsimp only at hSw); go_simp; try with_reducible rfl
          try simp only [Act.put, List.setIfInBounds_toArray, List.set_cons_zero, List.set_cons_succ]
          refine take_at (i := 2) (v := ?_) rfl rfl (by kernel_rfl) (by kernel_rfl) (by kernel_rfl) (fun _ _ _ h => h) (Or.inl ⟨by rfl, ?_⟩) (by assumption) ?_
          rotate_left
          · intro w hSw; (try dsimp only at hSw); go_simp; try with_reducible rfl
          try simp only [Act.put, List.setIfInBounds_toArray, List.set_cons_zero, List.set_cons_succ]
          refine take_at (i := 3) (v := ?_) rfl rfl (by kernel_rfl) (by kernel_rfl) (by kernel_rfl) (fun _ _ _ h => h) (Or.inl ⟨by rfl, ?_⟩) (by assumption) ?_
          rotate_left
          · intro w hSw; (try dsimp only at hSw); go_simp; try with_reducible rfl
          try simp only [Act.put, List.setIfInBounds_toArray, List.set_cons_zero, List.set_cons_succ]
          refine take_at (i := 4) (v := ?_) rfl rfl (by kernel_rfl) (by kernel_rfl) (by kernel_rfl) (fun _ _ _ h => h) (Or.inl ⟨by rfl, ?_⟩) (by assumption) ?_
          rotate_left
          · intro w hSw; (try dsimp only at hSw); go_simp; try with_reducible rfl
          try simp only [Act.put, List.setIfInBounds_toArray, List.set_cons_zero, List.set_cons_succ]
          refine take_at (i := 6) (v := ?_) rfl rfl (by kernel_rfl) (by kernel_rfl) (by kernel_rfl) (fun _ _ _ h => h) (Or.inl ⟨by rfl, ?_⟩) (by assumption) ?_
          rotate_left
          · intro w hSw; (try dsimp only at hSw); go_simp; try with_reducible rfl
          try simp only [Act.put, List.setIfInBounds_toArray, List.set_cons_zero, List.set_cons_succ]
          refine take_at (i := 7) (v := ?_) rfl rfl (by kernel_rfl) (by kernel_rfl) (by kernel_rfl) (fun _ _ _ h => h) (Or.inl ⟨by rfl, ?_⟩) (by assumption) ?_
          rotate_left
          · intro w hSw; (try dsimp only at hSw); go_simp; try with_reducible rfl
          try simp only [Act.put, List.setIfInBounds_toArray, List.set_cons_zero, List.set_cons_succ]
          refine take_at (i := 8) (v := ?_) rfl rfl (by kernel_rfl) (by kernel_rfl) (by kernel_rfl) (fun _ _ _ h => h) (Or.inl ⟨by rfl, ?_⟩) (by assumption) ?_
          rotate_left
          · intro w hSw; (try dsimp only at hSw); go_simp; try with_reducible rfl
          try simp only [Act.put, List.setIfInBounds_toArray, List.set_cons_zero, List.set_cons_succ]
          refine take_at (i := 9) (v := ?_) rfl rfl (by kernel_rfl) (by kernel_rfl) (by kernel_rfl) (fun _ _ _ h => h) (Or.inl ⟨by rfl, ?_⟩) (by assumption) ?_
          rotate_left
          · intro w hSw; (try dsimp only at hSw); go_simp; try with_reducible rfl
          try simp only [Act.put, List.setIfInBounds_toArray, List.set_cons_zero, List.set_cons_succ]
          refine wpAnyH_ready (rs := [5]) (by kernel_rfl) (by simp) ?_
          refine AllReadyH.cons rfl (fun K hK => ?_) AllReadyH.nil
          go_simp
          refine hK.out _ _ (by assumption) (fun hHeld => ?_)
          clear hK K
          refine take_at (i := 10) (v := ?_) rfl rfl (by kernel_rfl) (by kernel_rfl) (by kernel_rfl) (fun _ _ _ h => h) (Or.inl ⟨by rfl, ?_⟩) (by assumption) ?_
          rotate_left
          · intro w hSw; (try dsimp only at hSw); go_simp; try with_reducible rfl
          try simp only [Act.put, List.setIfInBounds_toArray, List.set_cons_zero, List.set_cons_succ]
          refine take_at (i := 11) (v := ?_) rfl rfl (by kernel_rfl) (by kernel_rfl) (by kernel_rfl) (fun _ _ _ h => h) (Or.inl ⟨by rfl, ?_⟩) (by assumption) ?_
          rotate_left
          · intro w hSw; (try dsimp only at hSw); go_simp; try with_reducible rfl
          try simp only [Act.put, List.setIfInBounds_toArray, List.set_cons_zero, List.set_cons_succ]
          refine wpAnyH_ready (rs := [12]) (by kernel_rfl) (by simp) ?_
          refine AllReadyH.cons rfl (fun K hK => ?_) AllReadyH.nil
          go_simp
          rw [VN2.out]
          refine hK.out _ _ SS2.out (fun hHeld => ?_)
          clear hK K
          refine wpAnyH_done (by kernel_rfl) (NoPanic.normal ?_) _
          rw [← hw2.out]
          clear cO2 fO2 cS2 VN2 SS2 hw2
          go_wp2
          go_roundw
          case rel => exact ⟨k + 1, by omega, by go_num, by rw [← HLs.out]; exact (World.ownsRow.drew own2), bl2.drew⟩
          case measure => simp [intOf]; omega
        · have kB : (nb : Int) ≤ (k : Int) := by omega
          have hBz := getD_none b k (by omega)
          rw [hBz, Nat.add_zero] at hFk
          clear gA hca
          generalize a.getD k 0 = A at *
          have hO1 := hO
          have cS1 := sA
          rw [hFk] at HLs
          have cO1 : wr.cell? ⟨g, k, none⟩ = some (.int .i64 ((0 : Int) : Int)) := by have := hown.cell k hlt; rw [hO1] at this; exact this
          have fO1 := hown.free k
          have VN1 : Hid (IntKind.i64.wrap (A : Int) = (A : Int)) := by show _ = _; rw [i64_small _ (by omega) (by omega)]
          obtain ⟨v1, hw1⟩ : ∃ v, Hid (v = wr.setCell ⟨g, k, none⟩ (.int .i64 (A : Int))) := ⟨_, rfl⟩
          have SS1 : Hid ((wr.setCell ⟨g, k, none⟩ (.int .i64 (A : Int))).cell? ⟨ba, oa + k, none⟩ = some (.int .i64 (A : Int))) := by
            show _ = _
            rw [World.cell?_setCell_far _ _ _ _ (show g ≠ ba by omega)]; exact cS1
          have own1 : Own v1 g 3 .i64 g many ((wT (cutN f k) many).set k (A : Int)) := by rw [hw1.out]; exact hown.set k (A : Int)
          have bl1 : Below g w v1 := by rw [hw1.out]; exact hbl.setCell (p := ⟨g, k, none⟩) (Nat.le_refl _) _
          clear hown hbl sA hO hO1 hFk hBz
          go_wp2_with fail
          refine wp_region_noPanic ?_
          refine wp_region_held_drew (S := fun w' => w'.cell? ⟨ba, oa + k, none⟩ = some (.int .i64 (A : Int))) (by kernel_rfl) (by first | exact trivial | assumption | exact ⟨by assumption, by assumption⟩) (fun hHeld => ?_)
          refine take_at (i := 0) (v := ?_) rfl rfl (by kernel_rfl) (by kernel_rfl) (by kernel_rfl) (fun _ _ _ h => h) (Or.inl ⟨by rfl, ?_⟩) (by assumption) ?_
          rotate_left
          · intro w hSw; (try dsimp only at hSw); go_simp; try with_reducible rfl
          try simp only [Act.put, List.setIfInBounds_toArray, List.set_cons_zero, List.set_cons_succ]
          refine take_at (i := 1) (v := ?_) rfl rfl (by kernel_rfl) (by kernel_rfl) (by kernel_rfl) (fun _ _ _ h => h) (Or.inl ⟨by rfl, ?_⟩) (by assumption) ?_
          rotate_left
          · intro w hSw; (try dsimp only at hSw); go_simp; try with_reducible rfl
          try simp only [Act.put, List.setIfInBounds_toArray, List.set_cons_zero, List.set_cons_succ]
          refine take_at (i := 2) (v := ?_) rfl rfl (by kernel_rfl) (by kernel_rfl) (by kernel_rfl) (fun _ _ _ h => h) (Or.inl ⟨by rfl, ?_⟩) (by assumption) ?_
          rotate_left
          · intro w hSw; (try dsimp only at hSw); go_simp; try with_reducible rfl
          try simp only [Act.put, List.setIfInBounds_toArray, List.set_cons_zero, List.set_cons_succ]
          refine take_at (i := 3) (v := ?_) rfl rfl (by kernel_rfl) (by kernel_rfl) (by kernel_rfl) (fun _ _ _ h => h) (Or.inl ⟨by rfl, ?_⟩) (by assumption) ?_
          rotate_left
          · intro w hSw; (try dsimp only at hSw); go_simp; try with_reducible rfl
          try simp only [Act.put, List.setIfInBounds_toArray, List.set_cons_zero, List.set_cons_succ]
          refine take_at (i := 4) (v := ?_) rfl rfl (by kernel_rfl) (by kernel_rfl) (by kernel_rfl) (fun _ _ _ h => h) (Or.inl ⟨by rfl, ?_⟩) (by assumption) ?_
          rotate_left
          · intro w hSw; (try dsimp only at hSw); go_simp; try with_reducible rfl
          try simp only [Act.put, List.setIfInBounds_toArray, List.set_cons_zero, List.set_cons_succ]
          refine take_at (i := 6) (v := ?_) rfl rfl (by kernel_rfl) (by kernel_rfl) (by kernel_rfl) (fun _ _ _ h => h) (Or.inl ⟨by rfl, ?_⟩) (by assumption) ?_
          rotate_left
          · intro w hSw; (try dsimp only at hSw); go_simp; try with_reducible rfl
          try simp only [Act.put, List.setIfInBounds_toArray, List.set_cons_zero, List.set_cons_succ]
          refine take_at (i := 7) (v := ?_) rfl rfl (by kernel_rfl) (by kernel_rfl) (by kernel_rfl) (fun _ _ _ h => h) (Or.inl ⟨by rfl, ?_⟩) (by assumption) ?_
          rotate_left
          · intro w hSw; (try dsimp only at hSw); go_simp; try with_reducible rfl
          try simp only [Act.put, List.setIfInBounds_toArray, List.set_cons_zero, List.set_cons_succ]
          refine take_at (i := 8) (v := ?_) rfl rfl (by kernel_rfl) (by kernel_rfl) (by kernel_rfl) (fun _ _ _ h => h) (Or.inl ⟨by rfl, ?_⟩) (by assumption) ?_
          rotate_left
          · intro w hSw; (try dsimp only at hSw); go_simp; try with_reducible rfl
          try simp only [Act.put, List.setIfInBounds_toArray, List.set_cons_zero, List.set_cons_succ]
          refine take_at (i := 9) (v := ?_) rfl rfl (by kernel_rfl) (by kernel_rfl) (by kernel_rfl) (fun _ _ _ h => h) (Or.inl ⟨by rfl, ?_⟩) (by assumption) ?_
          rotate_left
          · intro w hSw; (try dsimp only at hSw); go_simp; try with_reducible rfl
          try simp only [Act.put, List.setIfInBounds_toArray, List.set_cons_zero, List.set_cons_succ]
          refine wpAnyH_ready (rs := [5]) (by kernel_rfl) (by simp) ?_
          refine AllReadyH.cons rfl (fun K hK => ?_) AllReadyH.nil
          go_simp
          refine hK.out _ _ (by assumption) (fun hHeld => ?_)
          clear hK K
          refine take_at (i := 10) (v := ?_) rfl rfl (by kernel_rfl) (by kernel_rfl) (by kernel_rfl) (fun _ _ _ h => h) (Or.inl ⟨by rfl, ?_⟩) (by assumption) ?_
          rotate_left
          · intro w hSw; (try dsimp only at hSw); go_simp; try with_reducible rfl
          try simp only [Act.put, List.setIfInBounds_toArray, List.set_cons_zero, List.set_cons_succ]
          refine take_at (i := 11) (v := ?_) rfl rfl (by kernel_rfl) (by kernel_rfl) (by kernel_rfl) (fun _ _ _ h => h) (Or.inl ⟨by rfl, ?_⟩) (by assumption) ?_
          rotate_left
          · intro w hSw; (try dsimp only at hSw); go_simp; try with_reducible rfl
          try simp only [Act.put, List.setIfInBounds_toArray, List.set_cons_zero, List.set_cons_succ]
          refine wpAnyH_ready (rs := [12]) (by kernel_rfl) (by simp) ?_
          refine AllReadyH.cons rfl (fun K hK => ?_) AllReadyH.nil
          go_simp
          rw [VN1.out]
          refine hK.out _ _ SS1.out (fun hHeld => ?_)
          clear hK K
          refine wpAnyH_done (by kernel_rfl) (NoPanic.normal ?_) _
          rw [← hw1.out]
          clear cO1 fO1 cS1 VN1 SS1 hw1
          go_wp2
          go_roundw
          case rel => exact ⟨k + 1, by omega, by go_num, by rw [← HLs.out]; exact (World.ownsRow.drew own1), bl1.drew⟩
          case measure => simp [intOf]; omega
      · have kA : (na : Int) ≤ (k : Int) := by omega
        have hAz := getD_none a k (by omega)
        rw [hAz, Nat.zero_add] at hFk
        by_cases hkb : k < nb
        · have kB : (k : Int) < (nb : Int) := by omega
          obtain ⟨bb, ob, rfl, hcb⟩ : ∃ x o, ab = some ⟨x, o, none⟩ ∧ ∀ i, i < nb → w.cell? ⟨x, o + i, none⟩ = some (.int .i64 ((ints b).getD i 0)) := by
            rcases HB.out.2 with h0 | h1
            · omega
            · exact h1
          have gB := hcb k hkb
          rw [ints_getD] at gB
          have lB : bb < g := by have := World.block_lt_of_cell? w _ gB; rw [hgv] at this; exact this
          have sB : wr.cell? ⟨bb, ob + k, none⟩ = some (.int .i64 ((b.getD k 0 : Nat) : Int)) := by rw [hbl.cell (p := ⟨bb, ob + k, none⟩) (by omega)]; exact gB
          clear gB hcb
          generalize b.getD k 0 = B at *
          have hO2 := hO
          have cS2 := sB
          rw [hFk] at HLs
          have cO2 : wr.cell? ⟨g, k, none⟩ = some (.int .i64 ((0 : Int) : Int)) := by have := hown.cell k hlt; rw [hO2] at this; exact this
          have fO2 := hown.free k
          have VN2 : Hid (IntKind.i64.wrap (B : Int) = (B : Int)) := by show _ = _; rw [i64_small _ (by omega) (by omega)]
          obtain ⟨v2, hw2⟩ : ∃ v, Hid (v = wr.setCell ⟨g, k, none⟩ (.int .i64 (B : Int))) := ⟨_, rfl⟩
          have SS2 : Hid ((wr.setCell ⟨g, k, none⟩ (.int .i64 (B : Int))).cell? ⟨bb, ob + k, none⟩ = some (.int .i64 (B : Int))) := by
            show _ = _
            rw [World.cell?_setCell_far _ _ _ _ (show g ≠ bb by omega)]; exact cS2
          have own2 : Own v2 g 3 .i64 g many ((wT (cutN f k) many).set k (B : Int)) := by rw [hw2.out]; exact hown.set k (B : Int)
          have bl2 : Below g w v2 := by rw [hw2.out]; exact hbl.setCell (p := ⟨g, k, none⟩) (Nat.le_refl _) _
          clear hown hbl sB hO hO2 hFk hAz
          go_wp2_with fail
          refine wp_region_noPanic ?_
          refine wp_region_held_drew (S := fun w' => w'.cell? ⟨bb, ob + k, none⟩ = some (.int .i64 (B : Int))) (by kernel_rfl) (by first | exact trivial | assumption | exact ⟨by assumption, by assumption⟩) (fun hHeld => ?_)
          refine take_at (i := 0) (v := ?_) rfl rfl (by kernel_rfl) (by kernel_rfl) (by kernel_rfl) (fun _ _ _ h => h) (Or.inl ⟨by rfl, ?_⟩) (by assumption) ?_
          rotate_left
          · intro w hSw; (try dsimp only at hSw); go_simp; try with_reducible rfl
          try simp only [Act.put, List.setIfInBounds_toArray, List.set_cons_zero, List.set_cons_succ]
          refine take_at (i := 1) (v := ?_) rfl rfl (by kernel_rfl) (by kernel_rfl) (by kernel_rfl) (fun _ _ _ h => h) (Or.inl ⟨by rfl, ?_⟩) (by assumption) ?_
          rotate_left
          · intro w hSw; (try dsimp only at hSw); go_simp; try with_reducible rfl
          try simp only [Act.put, List.setIfInBounds_toArray, List.set_cons_zero, List.set_cons_succ]
          refine take_at (i := 2) (v := ?_) rfl rfl (by kernel_rfl) (by kernel_rfl) (by kernel_rfl) (fun _ _ _ h => h) (Or.inl ⟨by rfl, ?_⟩) (by assumption) ?_
          rotate_left
          · intro w hSw; (try dsimp only at hSw); go_simp; try with_reducible rfl
          try simp only [Act.put, List.setIfInBounds_toArray, List.set_cons_zero, List.set_cons_succ]
          refine take_at (i := 3) (v := ?_) rfl rfl (by kernel_rfl) (by kernel_rfl) (by kernel_rfl) (fun _ _ _ h => h) (Or.inl ⟨by rfl, ?_⟩) (by assumption) ?_
          rotate_left
          · intro w hSw; (try dsimp only at hSw); go_simp; try with_reducible rfl
          try simp only [Act.put, List.setIfInBounds_toArray, List.set_cons_zero, List.set_cons_succ]
          refine take_at (i := 4) (v := ?_) rfl rfl (by kernel_rfl) (by kernel_rfl) (by kernel_rfl) (fun _ _ _ h => h) (Or.inl ⟨by rfl, ?_⟩) (by assumption) ?_
          rotate_left
          · intro w hSw; (try dsimp only at hSw); go_simp; try with_reducible rfl
          try simp only [Act.put, List.setIfInBounds_toArray, List.set_cons_zero, List.set_cons_succ]
          refine take_at (i := 6) (v := ?_) rfl rfl (by kernel_rfl) (by kernel_rfl) (by kernel_rfl) (fun _ _ _ h => h) (Or.inl ⟨by rfl, ?_⟩) (by assumption) ?_
          rotate_left
          · intro w hSw; (try dsimp only at hSw); go_simp; try with_reducible rfl
          try simp only [Act.put, List.setIfInBounds_toArray, List.set_cons_zero, List.set_cons_succ]
          refine take_at (i := 7) (v := ?_) rfl rfl (by kernel_rfl) (by kernel_rfl) (by kernel_rfl) (fun _ _ _ h => h) (Or.inl ⟨by rfl, ?_⟩) (by assumption) ?_
          rotate_left
          · intro w hSw; (try dsimp only at hSw); go_simp; try with_reducible rfl
          try simp only [Act.put, List.setIfInBounds_toArray, List.set_cons_zero, List.set_cons_succ]
          refine take_at (i := 8) (v := ?_) rfl rfl (by kernel_rfl) (by kernel_rfl) (by kernel_rfl) (fun _ _ _ h => h) (Or.inl ⟨by rfl, ?_⟩) (by assumption) ?_
          rotate_left
          · intro w hSw; (try dsimp only at hSw); go_simp; try with_reducible rfl
          try simp only [Act.put, List.setIfInBounds_toArray, List.set_cons_zero, List.set_cons_succ]
          refine take_at (i := 9) (v := ?_) rfl rfl (by kernel_rfl) (by kernel_rfl) (by kernel_rfl) (fun _ _ _ h => h) (Or.inl ⟨by rfl, ?_⟩) (by assumption) ?_
          rotate_left
          · intro w hSw; (try dsimp only at hSw); go_simp; try with_reducible rfl
          try simp only [Act.put, List.setIfInBounds_toArray, List.set_cons_zero, List.set_cons_succ]
          refine wpAnyH_ready (rs := [5]) (by kernel_rfl) (by simp) ?_
          refine AllReadyH.cons rfl (fun K hK => ?_) AllReadyH.nil
          go_simp
          refine hK.out _ _ (by assumption) (fun hHeld => ?_)
          clear hK K
          refine take_at (i := 10) (v := ?_) rfl rfl (by kernel_rfl) (by kernel_rfl) (by kernel_rfl) (fun _ _ _ h => h) (Or.inl ⟨by rfl, ?_⟩) (by assumption) ?_
          rotate_left
          · intro w hSw; (try dsimp only at hSw); go_simp; try with_reducible rfl
          try simp only [Act.put, List.setIfInBounds_toArray, List.set_cons_zero, List.set_cons_succ]
          refine take_at (i := 11) (v := ?_) rfl rfl (by kernel_rfl) (by kernel_rfl) (by kernel_rfl) (fun _ _ _ h => h) (Or.inl ⟨by rfl, ?_⟩) (by assumption) ?_
          rotate_left
          · intro w hSw; (try dsimp only at hSw); go_simp; try with_reducible rfl
          try simp only [Act.put, List.setIfInBounds_toArray, List.set_cons_zero, List.set_cons_succ]
          refine wpAnyH_ready (rs := [12]) (by kernel_rfl) (by simp) ?_
          refine AllReadyH.cons rfl (fun K hK => ?_) AllReadyH.nil
          go_simp
          rw [VN2.out]
          refine hK.out _ _ SS2.out (fun hHeld => ?_)
          clear hK K
          refine wpAnyH_done (by kernel_rfl) (NoPanic.normal ?_) _
          rw [← hw2.out]
          clear cO2 fO2 cS2 VN2 SS2 hw2
          go_wp2
          go_roundw
          case rel => exact ⟨k + 1, by omega, by go_num, by rw [← HLs.out]; exact (World.ownsRow.drew own2), bl2.drew⟩
          case measure => simp [intOf]; omega
        · have kB : (nb : Int) ≤ (k : Int) := by omega
          have hBz := getD_none b k (by omega)
          rw [hBz] at hFk
          have hN : (wT (cutN f k) many) = wT (cutN f (k + 1)) many := by
            rw [← HLs.out, hFk]
            apply List.ext_getElem (by simp)
            intro i h1 h2
            rw [List.getElem_set]
            by_cases e : k = i
            · rw [if_pos e]
              subst e
              rw [List.getD_eq_getElem?_getD, List.getElem?_eq_getElem h1] at hO
              exact hO
            · rw [if_neg e]
          rw [hN] at hown
          clear hO hFk hBz hAz hN HLs
          go_wp2
          go_roundw
          case rel => exact ⟨k + 1, by omega, by go_num, hown, hbl⟩
          case measure => simp [intOf]; omega
    · have hk' : k = many := by omega
      subst hk'
      rw [wT_cut_all, ← ints_tabN] at hown
      have CC : Hid (∀ w c, IntsAt w .i64 (some ⟨g, 0, none⟩) k (ints (tabN k f)) → _) := fun w c h => rcarried_any (tabN k f) (some ⟨g, 0, none⟩) k c k w hm (fun i => by
        by_cases hi : i < k
        · rw [tabN_getD _ _ _ hi, Hf.out]
          have h1 := Ha.out i
          have h2 := Hb.out i
          show a.getD i 0 + b.getD i 0 ≤ _
          omega
        · rw [getD_none _ _ (by rw [tabN_length]; omega)]; omega) h
      have HI : Hid (IntsAt wr .i64 (some ⟨g, 0, none⟩) k (ints (tabN k f))) := hown.ints
      clear hown
      go_wp2_with fail
      refine (CC.out _ _ HI.out).mono ?_
      rintro e w2 ⟨rfl, ho2, hb2⟩
      have hB2 := below_step hbl (by omega) hb2
      have hsz := hbl.size
      clear hb2 CC HI
      go_wp2_with fail
      go_ret
      exact ⟨wr.heap.size, rfl, by omega, ho2, by rw [hgv]; exact hB2⟩
end Go.Proofs.YtglgppeloolbhaaGreatDoor

/- The document's times. -/
namespace Go.Proofs.YtglgppeloolbhaaGreatDoor
open Go.RowKit
set_option maxRecDepth 100000
set_option linter.unusedSimpArgs false

/-- The digits of a product, not carried: behind i rows; and in the midst of a row. -/
def rowT (a b : List Nat) : Nat → Nat → Nat
  | 0, _ => 0
  | i + 1, m => rowT a b i m + (if i ≤ m ∧ m - i < b.length then a.getD i 0 * b.getD (m - i) 0 else 0)
def midT (a b : List Nat) (i k m : Nat) : Nat := rowT a b i m + (if i ≤ m ∧ m - i < k then a.getD i 0 * b.getD (m - i) 0 else 0)
theorem midT_zero (a b : List Nat) (i : Nat) : midT a b i 0 = rowT a b i := by
  funext m; unfold midT; rw [if_neg (by omega)]; rfl
theorem midT_all (a b : List Nat) (i : Nat) : midT a b i b.length = rowT a b (i + 1) := rfl
theorem midT_here (a b : List Nat) (i k : Nat) : midT a b i (k + 1) (i + k) = midT a b i k (i + k) + a.getD i 0 * b.getD k 0 := by
  unfold midT
  rw [if_pos (by omega), if_neg (by omega), show i + k - i = k by omega]; omega
theorem midT_other (a b : List Nat) (i k m : Nat) (h : m ≠ i + k) : midT a b i (k + 1) m = midT a b i k m := by
  unfold midT
  by_cases h1 : i ≤ m ∧ m - i < k
  · rw [if_pos h1, if_pos (by omega)]
  · rw [if_neg h1, if_neg (by omega)]
theorem valF_upd (f g : Nat → Nat) (m d n : Nat) (h1 : ∀ j, j ≠ m → g j = f j) (h2 : g m = f m + d) (hm : m < n) : valF g n = valF f n + d * 256 ^ m := by
  induction n with
  | zero => omega
  | succ n ih =>
    show valF g n + g n * 256 ^ n = valF f n + f n * 256 ^ n + d * 256 ^ m
    by_cases e : m = n
    · subst e
      rw [valF_congr g f m (fun i hi => h1 i (by omega)), h2, Nat.add_mul]; omega
    · rw [ih (by omega), h1 n (by omega)]; omega
theorem midT_val (a b : List Nat) (i n : Nat) (hn : i + b.length ≤ n) (k : Nat) (hk : k ≤ b.length) : valF (midT a b i k) n = valF (rowT a b i) n + a.getD i 0 * 256 ^ i * valF (fun j => b.getD j 0) k := by
  induction k with
  | zero => rw [midT_zero]; rfl
  | succ k ih =>
    rw [valF_upd (midT a b i k) (midT a b i (k + 1)) (i + k) _ n (midT_other a b i k) (midT_here a b i k) (by omega), ih (by omega)]
    show _ = _ + _ * (valF (fun j => b.getD j 0) k + b.getD k 0 * 256 ^ k)
    rw [Nat.mul_add, Nat.pow_add]
    generalize 256 ^ i = p
    generalize 256 ^ k = q
    rw [show a.getD i 0 * p * (b.getD k 0 * q) = a.getD i 0 * b.getD k 0 * (p * q) by
      rw [Nat.mul_assoc, Nat.mul_assoc, Nat.mul_left_comm p]]
    omega
theorem rowT_val (a b : List Nat) (i n : Nat) (hn : i + b.length ≤ n + 1) : valF (rowT a b i) n = valF (fun j => a.getD j 0) i * valL b := by
  induction i with
  | zero =>
    show valF (fun _ => 0) n = 0 * _
    rw [Nat.zero_mul]
    clear hn
    induction n with
    | zero => rfl
    | succ n ih => show valF _ n + 0 * _ = 0; rw [ih]; omega
  | succ i ih =>
    have h := midT_val a b i n (by omega) b.length (Nat.le_refl _)
    rw [midT_all, ih (by omega)] at h
    rw [h]
    show _ = (valF (fun j => a.getD j 0) i + a.getD i 0 * 256 ^ i) * valL b
    rw [Nat.add_mul]; rfl
theorem rowT_le (a b : List Nat) (ha : ∀ i, a.getD i 0 ≤ 255) (hb : ∀ i, b.getD i 0 ≤ 255) (i m : Nat) : rowT a b i m ≤ i * 65025 := by
  induction i with
  | zero => exact Nat.le_refl _
  | succ i ih =>
    show rowT a b i m + (if i ≤ m ∧ m - i < b.length then a.getD i 0 * b.getD (m - i) 0 else 0) ≤ _
    have h : a.getD i 0 * b.getD (m - i) 0 ≤ 65025 := Nat.mul_le_mul (ha i) (hb (m - i))
    generalize a.getD i 0 * b.getD (m - i) 0 = P at *
    generalize rowT a b i m = Q at *
    rw [Nat.add_mul, Nat.one_mul]
    generalize i * 65025 = I at *
    split <;> omega
theorem midT_le (a b : List Nat) (ha : ∀ i, a.getD i 0 ≤ 255) (hb : ∀ i, b.getD i 0 ≤ 255) (i k m : Nat) : midT a b i k m ≤ (i + 1) * 65025 := by
  unfold midT
  have h : a.getD i 0 * b.getD (m - i) 0 ≤ 65025 := Nat.mul_le_mul (ha i) (hb (m - i))
  have h2 := rowT_le a b ha hb i m
  generalize a.getD i 0 * b.getD (m - i) 0 = P at *
  generalize rowT a b i m = Q at *
  rw [Nat.add_mul, Nat.one_mul]
  generalize i * 65025 = I at *
  split <;> omega
theorem times_tab (a b : List Nat) : valL (tabN (a.length + b.length + 1) (rowT a b a.length)) = valL a * valL b := by
  rw [valL_tabN, rowT_val a b a.length _ (by omega)]; rfl

set_option maxRecDepth 100000 in
set_option maxHeartbeats 4000000 in
theorem rtimes_any (a b : List Nat) (ba oa bb ob na nb ca cb : Nat) (w : World) (hna : na ≤ 64) (hnb : nb ≤ 64) (ha : ∀ i, a.getD i 0 ≤ 255) (hb : ∀ i, b.getD i 0 ≤ 255) (hA : IntsAt w .i64 (some ⟨ba, oa, none⟩) na (ints a)) (hB : IntsAt w .i64 (some ⟨bb, ob, none⟩) nb (ints b)) :
    Calls Tryz.prog 54 #[.slice (some ⟨ba, oa, none⟩) na ca, .slice (some ⟨bb, ob, none⟩) nb cb] w fun e w' => ∃ g, e = .returned (.slice (some ⟨g, 0, none⟩) (na + nb + 1) (na + nb + 1)) ∧ w.heap.size ≤ g ∧ Own w' g 3 .i64 g (na + nb + 1) (ints (digN (valL a * valL b) (na + nb + 1))) ∧ Below w.heap.size w w' := by
  have HA : Hid (IntsAt w .i64 (some ⟨ba, oa, none⟩) na (ints a)) := hA
  have HB : Hid (IntsAt w .i64 (some ⟨bb, ob, none⟩) nb (ints b)) := hB
  have la : a.length = na := by have := hA.1; rw [ints_length] at this; exact this
  have lb : b.length = nb := by have := hB.1; rw [ints_length] at this; exact this
  have Ha : Hid (∀ i, a.getD i 0 ≤ 255) := ha
  have Hb : Hid (∀ i, b.getD i 0 ≤ 255) := hb
  have Hv : Hid (valL (tabN (na + nb + 1) (rowT a b na)) = valL a * valL b) := by show _ = _; rw [← la, ← lb]; exact times_tab a b
  rw [← Hv.out]
  obtain ⟨n, Hn⟩ : ∃ n, Hid (n = na + nb + 1) := ⟨_, rfl⟩
  have hn : n ≤ 129 := by rw [Hn.out]; omega
  have en : (na : Int) + (nb : Int) + 1 = (n : Int) := by rw [Hn.out]; omega
  obtain ⟨i0, hi, hz0, hz1, hz2⟩ := info_parts Tryz.info3
  rw [← Hn.out]
  clear hA hB ha hb
  go_enter Tryz.func54, Tryz.ntmps54
  go_wp2_with (at_make; refine wpList_make_full _ rfl _ _ 47 rfl w.heap.size 3 i0 (.int .i64 0) 1 Tryz.underlying47 hi hz0 hz1 _ _ _ _ n rfl rfl ?b4 ?b5 ?b1 ?b2 ?b3 ?_)
  case b1 => rw [hz2]; omega
  case b2 => unfold maxLen; omega
  case b3 => omega
  case b4 => rfl
  case b5 => rfl
  intro w1 hown0 hgrow
  have hown : Own w1 w.heap.size 3 .i64 w.heap.size n (wT (rowT a b 0) n) := Own.made' _ (fun i _ => rfl) hown0
  have hbl : Below w.heap.size w w1 := (Below.refl _ _).grown hgrow (Nat.le_refl _) (fun k hk => by cases hk)
  clear hown0 hgrow hi hz0 hz1 hz2 en
  generalize hgv : w.heap.size = g at *
  go_wp2
  go_loopw [6] (fun i wr => ∃ k : Nat, k ≤ na ∧ i = .int .i64 k ∧ Own wr g 3 .i64 g n (wT (rowT a b k) n) ∧ Below g w wr) (fun i _ => na - (intOf i).toNat)
  case atStart => exact ⟨0, Nat.zero_le _, rfl, hown, hbl⟩
  case round =>
    clear hown hbl
    obtain ⟨i, hi, rfl, hown, hbl⟩ := hrel
    by_cases hlt : i < na
    · have kA : (i : Int) < (na : Int) := by omega
      rw [← midT_zero] at hown
      go_wp2
      go_loopw [7] (fun j wr => ∃ k : Nat, k ≤ nb ∧ j = .int .i64 k ∧ Own wr g 3 .i64 g n (wT (midT a b i k) n) ∧ Below g w wr) (fun j _ => nb - (intOf j).toNat)
      case atStart => exact ⟨0, Nat.zero_le _, rfl, hown, hbl⟩
      case round =>
        clear hown hbl
        obtain ⟨k, hk, rfl, hown, hbl⟩ := hrel
        by_cases hltb : k < nb
        · have kB : (k : Int) < (nb : Int) := by omega
          have gA := HA.out.cellOff i hlt
          have gB := HB.out.cellOff k hltb
          rw [ints_getD] at gA gB
          have lA : ba < g := by have := World.block_lt_of_cell? w _ gA; rw [hgv] at this; exact this
          have lB : bb < g := by have := World.block_lt_of_cell? w _ gB; rw [hgv] at this; exact this
          have cA : wr.cell? ⟨ba, oa + i, none⟩ = some (.int .i64 ((a.getD i 0 : Nat) : Int)) := by rw [hbl.cell (p := ⟨ba, oa + i, none⟩) lA]; exact gA
          have cB : wr.cell? ⟨bb, ob + k, none⟩ = some (.int .i64 ((b.getD k 0 : Nat) : Int)) := by rw [hbl.cell (p := ⟨bb, ob + k, none⟩) lB]; exact gB
          have hik : i + k < n := by rw [Hn.out]; omega
          have cO := hown.cell (i + k) hik
          rw [wT_getD _ _ _ hik] at cO
          have fO := hown.free (i + k)
          have bX := midT_le a b Ha.out Hb.out i k (i + k)
          have bA := Ha.out i
          have bB := Hb.out k
          have hst := midT_here a b i k
          have hset : (wT (midT a b i k) n).set (i + k) ((midT a b i (k + 1) (i + k) : Nat) : Int) = wT (midT a b i (k + 1)) n :=
            tab_set _ _ _ _ _ rfl (fun m _ hm => by rw [midT_other a b i k m hm])
          have hmul : a.getD i 0 * b.getD k 0 ≤ 65025 := Nat.mul_le_mul bA bB
          obtain ⟨Z, hZ⟩ : ∃ Z, Z = midT a b i (k + 1) (i + k) := ⟨_, rfl⟩
          rw [← hZ] at hset hst
          generalize midT a b i k (i + k) = X at *
          generalize a.getD i 0 = A at *
          generalize b.getD k 0 = B at *
          have e1 : (A : Int) * (B : Int) = ((A * B : Nat) : Int) := by simp
          have VN : Hid (IntKind.i64.wrap ((X : Int) + IntKind.i64.wrap ((A : Int) * (B : Int))) = (Z : Int)) := by
            show _ = _
            rw [e1]
            generalize A * B = P at *
            rw [i64_small (P : Int) (by omega) (by omega), i64_small _ (by omega) (by omega)]; omega
          have VI : IntKind.i64.wrap ((i : Int) + (k : Int)) = (i : Int) + (k : Int) := i64_small _ (by omega) (by omega)
          have t1 : ((i : Int) + (k : Int)).toNat = i + k := by omega
          have t2 : (0 : Int) ≤ (i : Int) + (k : Int) := by omega
          have t3 : (i : Int) + (k : Int) < (n : Int) := by omega
          obtain ⟨wn, hw⟩ : ∃ v, Hid (v = wr.setCell ⟨g, i + k, none⟩ (.int .i64 (Z : Int))) := ⟨_, rfl⟩
          have SS : Hid ((wr.setCell ⟨g, i + k, none⟩ (.int .i64 (Z : Int))).cell? ⟨ba, oa + i, none⟩ = some (.int .i64 (A : Int)) ∧ (wr.setCell ⟨g, i + k, none⟩ (.int .i64 (Z : Int))).cell? ⟨bb, ob + k, none⟩ = some (.int .i64 (B : Int))) :=
            ⟨by rw [World.cell?_setCell_far _ _ _ _ (show g ≠ ba by omega)]; exact cA, by rw [World.cell?_setCell_far _ _ _ _ (show g ≠ bb by omega)]; exact cB⟩
          have own1 : Own wn g 3 .i64 g n (wT (midT a b i (k + 1)) n) := by rw [hw.out, ← hset]; exact hown.set (i + k) (Z : Int)
          have bl1 : Below g w wn := by rw [hw.out]; exact hbl.setCell (p := ⟨g, i + k, none⟩) (Nat.le_refl _) _
          clear hown hbl gA gB hst hset hZ e1 bX hmul
          go_wp2_with fail
          refine wp_region_noPanic ?_
          refine wp_region_held_drew (S := fun w' => w'.cell? ⟨ba, oa + i, none⟩ = some (.int .i64 (A : Int)) ∧ w'.cell? ⟨bb, ob + k, none⟩ = some (.int .i64 (B : Int))) (by kernel_rfl) (by first | exact trivial | assumption | exact ⟨by assumption, by assumption⟩) (fun hHeld => ?_)
          refine take_at (i := 0) (v := ?_) rfl rfl (by kernel_rfl) (by kernel_rfl) (by kernel_rfl) (fun _ _ _ h => h) (Or.inl ⟨by rfl, ?_⟩) (by assumption) ?_
          rotate_left
          · intro w hSw; (try dsimp only at hSw); go_simp; try with_reducible rfl
          try simp only [Act.put, List.setIfInBounds_toArray, List.set_cons_zero, List.set_cons_succ]
          refine take_at (i := 1) (v := ?_) rfl rfl (by kernel_rfl) (by kernel_rfl) (by kernel_rfl) (fun _ _ _ h => h) (Or.inl ⟨by rfl, ?_⟩) (by assumption) ?_
          rotate_left
          · intro w hSw; (try dsimp only at hSw); go_simp; try with_reducible rfl
          try simp only [Act.put, List.setIfInBounds_toArray, List.set_cons_zero, List.set_cons_succ]
          refine take_at (i := 2) (v := ?_) rfl rfl (by kernel_rfl) (by kernel_rfl) (by kernel_rfl) (fun _ _ _ h => h) (Or.inl ⟨by rfl, ?_⟩) (by assumption) ?_
          rotate_left
          · intro w hSw; (try dsimp only at hSw); go_simp; try with_reducible rfl
          try simp only [Act.put, List.setIfInBounds_toArray, List.set_cons_zero, List.set_cons_succ]
          refine take_at (i := 3) (v := ?_) rfl rfl (by kernel_rfl) (by kernel_rfl) (by kernel_rfl) (fun _ _ _ h => h) (Or.inl ⟨by rfl, ?_⟩) (by assumption) ?_
          rotate_left
          · intro w hSw; (try dsimp only at hSw); go_simp; try with_reducible rfl
          try simp only [Act.put, List.setIfInBounds_toArray, List.set_cons_zero, List.set_cons_succ]
          refine take_at (i := 4) (v := ?_) rfl rfl (by kernel_rfl) (by kernel_rfl) (by kernel_rfl) (fun _ _ _ h => h) (Or.inl ⟨by rfl, ?_⟩) (by assumption) ?_
          rotate_left
          · intro w hSw; (try dsimp only at hSw); go_simp; try with_reducible rfl
          try simp only [Act.put, List.setIfInBounds_toArray, List.set_cons_zero, List.set_cons_succ]
          refine take_at (i := 5) (v := ?_) rfl rfl (by kernel_rfl) (by kernel_rfl) (by kernel_rfl) (fun _ _ _ h => h) (Or.inl ⟨by rfl, ?_⟩) (by assumption) ?_
          rotate_left
          · intro w hSw; (try dsimp only at hSw); go_simp; try with_reducible rfl
          try simp only [Act.put, List.setIfInBounds_toArray, List.set_cons_zero, List.set_cons_succ]
          refine take_at (i := 6) (v := ?_) rfl rfl (by kernel_rfl) (by kernel_rfl) (by kernel_rfl) (fun _ _ _ h => h) (Or.inl ⟨by rfl, ?_⟩) (by assumption) ?_
          rotate_left
          · intro w hSw; (try dsimp only at hSw); go_simp; try with_reducible rfl
          try simp only [Act.put, List.setIfInBounds_toArray, List.set_cons_zero, List.set_cons_succ]
          refine take_at (i := 7) (v := ?_) rfl rfl (by kernel_rfl) (by kernel_rfl) (by kernel_rfl) (fun _ _ _ h => h) (Or.inl ⟨by rfl, ?_⟩) (by assumption) ?_
          rotate_left
          · intro w hSw; (try dsimp only at hSw); go_simp; try with_reducible rfl
          try simp only [Act.put, List.setIfInBounds_toArray, List.set_cons_zero, List.set_cons_succ]
          refine take_at (i := 8) (v := ?_) rfl rfl (by kernel_rfl) (by kernel_rfl) (by kernel_rfl) (fun _ _ _ h => h) (Or.inl ⟨by rfl, ?_⟩) (by assumption) ?_
          rotate_left
          · intro w hSw; (try dsimp only at hSw); go_simp; try with_reducible rfl
          try simp only [Act.put, List.setIfInBounds_toArray, List.set_cons_zero, List.set_cons_succ]
          refine take_at (i := 10) (v := ?_) rfl rfl (by kernel_rfl) (by kernel_rfl) (by kernel_rfl) (fun _ _ _ h => h) (Or.inl ⟨by rfl, ?_⟩) (by assumption) ?_
          rotate_left
          · intro w hSw; (try dsimp only at hSw); go_simp; try with_reducible rfl
          try simp only [Act.put, List.setIfInBounds_toArray, List.set_cons_zero, List.set_cons_succ]
          refine take_at (i := 11) (v := ?_) rfl rfl (by kernel_rfl) (by kernel_rfl) (by kernel_rfl) (fun _ _ _ h => h) (Or.inl ⟨by rfl, ?_⟩) (by assumption) ?_
          rotate_left
          · intro w hSw; (try dsimp only at hSw); go_simp; try with_reducible rfl
          try simp only [Act.put, List.setIfInBounds_toArray, List.set_cons_zero, List.set_cons_succ]
          refine take_at (i := 12) (v := ?_) rfl rfl (by kernel_rfl) (by kernel_rfl) (by kernel_rfl) (fun _ _ _ h => h) (Or.inl ⟨by rfl, ?_⟩) (by assumption) ?_
          rotate_left
          · intro w hSw; (try dsimp only at hSw); go_simp; try with_reducible rfl
          try simp only [Act.put, List.setIfInBounds_toArray, List.set_cons_zero, List.set_cons_succ]
          refine take_at (i := 13) (v := ?_) rfl rfl (by kernel_rfl) (by kernel_rfl) (by kernel_rfl) (fun _ _ _ h => h) (Or.inl ⟨by rfl, ?_⟩) (by assumption) ?_
          rotate_left
          · intro w hSw; (try dsimp only at hSw); go_simp; try with_reducible rfl
          try simp only [Act.put, List.setIfInBounds_toArray, List.set_cons_zero, List.set_cons_succ]
          refine take_at (i := 14) (v := ?_) rfl rfl (by kernel_rfl) (by kernel_rfl) (by kernel_rfl) (fun _ _ _ h => h) (Or.inl ⟨by rfl, ?_⟩) (by assumption) ?_
          rotate_left
          · intro w hSw; (try dsimp only at hSw); go_simp; try with_reducible rfl
          try simp only [Act.put, List.setIfInBounds_toArray, List.set_cons_zero, List.set_cons_succ]
          refine take_at (i := 15) (v := ?_) rfl rfl (by kernel_rfl) (by kernel_rfl) (by kernel_rfl) (fun _ _ _ h => h) (Or.inl ⟨by rfl, ?_⟩) (by assumption) ?_
          rotate_left
          · intro w hSw; (try dsimp only at hSw); go_simp; try with_reducible rfl
          try simp only [Act.put, List.setIfInBounds_toArray, List.set_cons_zero, List.set_cons_succ]
          refine take_at (i := 16) (v := ?_) rfl rfl (by kernel_rfl) (by kernel_rfl) (by kernel_rfl) (fun _ _ _ h => h) (Or.inl ⟨by rfl, ?_⟩) (by assumption) ?_
          rotate_left
          · intro w hSw; (try dsimp only at hSw); go_simp; try with_reducible rfl
          try simp only [Act.put, List.setIfInBounds_toArray, List.set_cons_zero, List.set_cons_succ]
          refine take_at (i := 17) (v := ?_) rfl rfl (by kernel_rfl) (by kernel_rfl) (by kernel_rfl) (fun _ _ _ h => h) (Or.inl ⟨by rfl, ?_⟩) (by assumption) ?_
          rotate_left
          · intro w hSw; (try dsimp only at hSw); go_simp; try with_reducible rfl
          try simp only [Act.put, List.setIfInBounds_toArray, List.set_cons_zero, List.set_cons_succ]
          refine take_at (i := 18) (v := ?_) rfl rfl (by kernel_rfl) (by kernel_rfl) (by kernel_rfl) (fun _ _ _ h => h) (Or.inl ⟨by rfl, ?_⟩) (by assumption) ?_
          rotate_left
          · intro w hSw; (try dsimp only at hSw); go_simp; try with_reducible rfl
          try simp only [Act.put, List.setIfInBounds_toArray, List.set_cons_zero, List.set_cons_succ]
          refine wpAnyH_ready (rs := [9]) (by kernel_rfl) (by simp) ?_
          refine AllReadyH.cons rfl (fun K hK => ?_) AllReadyH.nil
          go_simp
          refine hK.out _ _ (by assumption) (fun hHeld => ?_)
          clear hK K
          refine take_at (i := 19) (v := ?_) rfl rfl (by kernel_rfl) (by kernel_rfl) (by kernel_rfl) (fun _ _ _ h => h) (Or.inl ⟨by rfl, ?_⟩) (by assumption) ?_
          rotate_left
          · intro w hSw; (try dsimp only at hSw); go_simp; try with_reducible rfl
          try simp only [Act.put, List.setIfInBounds_toArray, List.set_cons_zero, List.set_cons_succ]
          refine take_at (i := 20) (v := ?_) rfl rfl (by kernel_rfl) (by kernel_rfl) (by kernel_rfl) (fun _ _ _ h => h) (Or.inl ⟨by rfl, ?_⟩) (by assumption) ?_
          rotate_left
          · intro w hSw; (try dsimp only at hSw); go_simp; try with_reducible rfl
          try simp only [Act.put, List.setIfInBounds_toArray, List.set_cons_zero, List.set_cons_succ]
          refine wpAnyH_ready (rs := [21]) (by kernel_rfl) (by simp) ?_
          refine AllReadyH.cons rfl (fun K hK => ?_) AllReadyH.nil
          go_simp
          rw [VN.out]
          refine hK.out _ _ SS.out (fun hHeld => ?_)
          clear hK K
          refine wpAnyH_done (by kernel_rfl) (NoPanic.normal ?_) _
          rw [← hw.out]
          clear cO fO cA cB VN SS hw
          go_wp2
          go_roundw
          case rel => exact ⟨k + 1, by omega, by go_num, World.ownsRow.drew own1, bl1.drew⟩
          case measure => simp [intOf]; omega
        · have hk' : k = nb := by omega
          subst hk'
          rw [← lb, midT_all] at hown
          go_wp2
          refine ⟨⟨i + 1, by omega, by go_num, hown, hbl⟩, ?_⟩
          simp [intOf]; omega
    · have hk' : i = na := by omega
      subst hk'
      rw [← ints_tabN] at hown
      have CC : Hid (∀ w c, IntsAt w .i64 (some ⟨g, 0, none⟩) n (ints (tabN n (rowT a b i))) → _) := fun w c h => rcarried_any (tabN n (rowT a b i)) (some ⟨g, 0, none⟩) n c n w (by omega) (fun j => by
        by_cases hj : j < n
        · rw [tabN_getD _ _ _ hj]
          have := rowT_le a b Ha.out Hb.out i j
          omega
        · rw [getD_none _ _ (by rw [tabN_length]; omega)]; omega) h
      have HI : Hid (IntsAt wr .i64 (some ⟨g, 0, none⟩) n (ints (tabN n (rowT a b i)))) := hown.ints
      clear hown
      go_wp2_with fail
      refine (CC.out _ _ HI.out).mono ?_
      rintro e w2 ⟨rfl, ho2, hb2⟩
      have hB2 := below_step hbl (by have := hbl.size; omega) hb2
      have hsz := hbl.size
      clear hb2 CC HI
      go_wp2_with fail
      go_ret
      exact ⟨wr.heap.size, rfl, by omega, ho2, by rw [hgv]; exact hB2⟩
end Go.Proofs.YtglgppeloolbhaaGreatDoor

/- The document's high, low, zero. -/
namespace Go.Proofs.YtglgppeloolbhaaGreatDoor
open Go.RowKit
set_option maxRecDepth 100000
set_option linter.unusedSimpArgs false

theorem wT_cut_enough (f : Nat → Nat) (n k : Nat) (h : ∀ i, k ≤ i → i < n → f i = 0) : wT (cutN f k) n = wT f n := by
  unfold wT
  refine tab_congr _ _ _ (fun i hi => ?_)
  unfold cutN
  by_cases h1 : i < k
  · rw [if_pos h1]
  · rw [if_neg h1, h i (by omega) hi]
theorem high_out (v n i : Nat) (hv : v < 256 ^ n) (hn : 16 ≤ n) (hi : n - 16 ≤ i) : v / 2 ^ 130 / 256 ^ i % 256 = 0 := by
  rw [high_digit, dig_big v n (i + 16) hv (by omega), dig_big v n (i + 17) hv (by omega)]
def hiF (v i : Nat) : Nat := v / 2 ^ 130 / 256 ^ i % 256
def loF (v i : Nat) : Nat := v / 256 ^ i % 256
theorem or_int (a e : Nat) (ha : a < 64) (he : e < 256) : bits .or .i64 (a : Int) (bits .and .i64 (IntKind.i64.wrap ((e : Int) * 64)) 255) = ((a + e % 4 * 64 : Nat) : Int) := by
  rw [show IntKind.i64.wrap ((e : Int) * 64) = ((e * 64 : Nat) : Int) by rw [i64_small _ (by omega) (by omega)]; omega, and255_nat, i64_or_nat _ _ (by omega) (by omega), or_byte a e ha]

set_option maxRecDepth 100000 in
set_option maxHeartbeats 4000000 in
theorem rhigh_any (v b o n c : Nat) (w : World) (hn : 17 ≤ n) (hn2 : n ≤ 64) (hv : v < 256 ^ n) (hI : IntsAt w .i64 (some ⟨b, o, none⟩) n (ints (digN v n))) :
    Calls Tryz.prog 72 #[.slice (some ⟨b, o, none⟩) n c] w fun e w' => e = .returned (.slice (some ⟨w.heap.size, 0, none⟩) n n) ∧ Own w' w.heap.size 3 .i64 w.heap.size n (ints (digN (v / 2 ^ 130) n)) ∧ Below w.heap.size w w' := by
  obtain ⟨d, Hd⟩ : ∃ d : Nat → Nat, Hid (d = loF v) := ⟨_, rfl⟩
  obtain ⟨f, Hf⟩ : ∃ f : Nat → Nat, Hid (f = hiF v) := ⟨_, rfl⟩
  have HD : Hid (ints (digN (v / 2 ^ 130) n) = wT f n) := by show _ = _; rw [Hf.out]; exact ints_tabN _ _
  have HL : Hid (ints (digN v n) = wT d n) := by show _ = _; rw [Hd.out]; exact ints_tabN _ _
  have Hdl : Hid (∀ i, d i < 256) := by show ∀ i, _; rw [Hd.out]; intro i; exact Nat.mod_lt _ (by decide)
  have Hdf : Hid (∀ i, f i = d (i + 16) / 4 + d (i + 17) % 4 * 64) := by show ∀ i, _; rw [Hd.out, Hf.out]; exact high_digit v
  have Hdo : Hid (d n = 0) := by show _ = _; rw [Hd.out]; exact dig_big v n n hv (Nat.le_refl _)
  have Hfo : Hid (∀ i, n - 16 ≤ i → i < n → f i = 0) := by show ∀ i, _; rw [Hf.out]; intro i h _; exact high_out v n i hv (by omega) h
  have HI : Hid (IntsAt w .i64 (some ⟨b, o, none⟩) n (wT d n)) := by show IntsAt _ _ _ _ _; rw [← HL.out]; exact hI
  rw [HD.out]
  obtain ⟨i0, hi, hz0, hz1, hz2⟩ := info_parts Tryz.info3
  clear hI hv HL Hd Hf HD
  go_enter Tryz.func72, Tryz.ntmps72
  go_wp2_with (at_make; refine wpList_make_full _ rfl _ _ 47 rfl w.heap.size 3 i0 (.int .i64 0) 1 Tryz.underlying47 hi hz0 hz1 _ _ _ _ n rfl rfl ?b4 ?b5 ?b1 ?b2 ?b3 ?_)
  case b1 => rw [hz2]; omega
  case b2 => unfold maxLen; omega
  case b3 => omega
  case b4 => rfl
  case b5 => rfl
  intro w1 hown0 hgrow
  have hown : Own w1 w.heap.size 3 .i64 w.heap.size n (wT (cutN f 0) n) := Own.made' _ (fun i _ => by unfold cutN; rw [if_neg (by omega)]; rfl) hown0
  have hbl : Below w.heap.size w w1 := (Below.refl _ _).grown hgrow (Nat.le_refl _) (fun k hk => by cases hk)
  clear hown0 hgrow hi hz0 hz1 hz2
  generalize hgv : w.heap.size = g at *
  go_wp2
  go_loopw [4] (fun i wr => ∃ k j : Nat, Hid (j = k + 16) ∧ j ≤ n ∧ i = .int .i64 j ∧ Own wr g 3 .i64 g n (wT (cutN f k) n) ∧ Below g w wr) (fun i _ => n - (intOf i).toNat)
  case atStart => exact ⟨0, 16, rfl, by omega, rfl, hown, hbl⟩
  case round =>
    clear hown hbl
    obtain ⟨k, j, HJ, hj, rfl, hown, hbl⟩ := hrel
    have hkj : k + 16 = j := HJ.out.symm
    by_cases hlt : j < n
    · have kA : (j : Int) < (n : Int) := by omega
      have gA := HI.out.cellOff j hlt
      rw [wT_getD _ _ _ hlt] at gA
      have lA : b < g := by have := World.block_lt_of_cell? w _ gA; rw [hgv] at this; exact this
      have cA : wr.cell? ⟨b, o + j, none⟩ = some (.int .i64 ((d j : Nat) : Int)) := by rw [hbl.cell (p := ⟨b, o + j, none⟩) lA]; exact gA
      have hkn : k < n := by omega
      have cO := hown.cell k hkn
      have fO := hown.free k
      have hfk := Hdf.out k
      rw [show k + 16 = j from hkj, show k + 17 = j + 1 by omega] at hfk
      have bA := Hdl.out j
      have hset : (wT (cutN f k) n).set k ((f k : Nat) : Int) = wT (cutN f (k + 1)) n := wT_cut_set f n k
      have s1 : (j : Int) - 16 = (k : Int) := by omega
      have s2 : IntKind.i64.wrap (k : Int) = (k : Int) := i64_small _ (by omega) (by omega)
      by_cases hlt2 : j + 1 < n
      · have kB : (j : Int) + 1 < (n : Int) := by omega
        have gE := HI.out.cellOff (j + 1) hlt2
        rw [wT_getD _ _ _ hlt2] at gE
        have lE : b < g := lA
        have cE : wr.cell? ⟨b, o + (j + 1), none⟩ = some (.int .i64 ((d (j + 1) : Nat) : Int)) := by rw [hbl.cell (p := ⟨b, o + (j + 1), none⟩) lA]; exact gE
        have bE := Hdl.out (j + 1)
        obtain ⟨F, hF⟩ : ∃ F, F = f k := ⟨_, rfl⟩
        rw [← hF] at hfk hset
        generalize d j = A at *
        generalize d (j + 1) = E at *
        obtain ⟨X, hX⟩ : ∃ X, X = A / 4 := ⟨_, rfl⟩
        have hq : (A : Int) / 4 = (X : Int) := by omega
        have bX : X < 64 := by omega
        have own1 := hown.set k (X : Int)
        have bl1 := hbl.setCell (p := ⟨g, k, none⟩) (Nat.le_refl _) (Value.int .i64 (X : Int))
        have cE1 : (wr.setCell ⟨g, k, none⟩ (.int .i64 (X : Int))).cell? ⟨b, o + (j + 1), none⟩ = some (.int .i64 (E : Int)) := by rw [World.cell?_setCell_far _ _ _ _ (show g ≠ b by omega)]; exact cE
        have cO1 := own1.cell k hkn
        rw [show ((wT (cutN f k) n).set k (X : Int)).getD k 0 = (X : Int) by rw [List.getD_eq_getElem?_getD, List.getElem?_set, if_pos rfl, if_pos (by rw [wT_length]; exact hkn)]; rfl] at cO1
        have fO1 := own1.free k
        have own2 := own1.set k (F : Int)
        rw [List.set_set, hset] at own2
        have bl2 := bl1.setCell (p := ⟨g, k, none⟩) (Nat.le_refl _) (Value.int .i64 (F : Int))
        have VN : Hid (bits .or .i64 (X : Int) (bits .and .i64 (IntKind.i64.wrap ((E : Int) * 64)) 255) = (F : Int)) := by show _ = _; rw [or_int X E bX bE, hfk, hX]
        have SS : Hid (((wr.setCell ⟨g, k, none⟩ (.int .i64 (X : Int))).setCell ⟨g, k, none⟩ (.int .i64 (F : Int))).cell? ⟨b, o + (j + 1), none⟩ = some (.int .i64 (E : Int))) := by
          show _ = _; rw [World.cell?_setCell_far _ _ _ _ (show g ≠ b by omega)]; exact cE1
        have t1 : IntKind.i64.wrap ((j : Int) + 1) = (j : Int) + 1 := i64_small _ (by omega) (by omega)
        have t2 : ((j : Int) + 1).toNat = j + 1 := by omega
        have t3 : (0 : Int) ≤ (j : Int) + 1 := by omega
        clear hown hbl gA gE hset hF hfk hX own1 bl1 cE
        go_wp2_with fail
        generalize hw1 : World.setCell wr _ _ = v1 at *
        refine wp_region_noPanic ?_
        refine wp_region_held_drew (S := fun w' => w'.cell? ⟨b, o + (j + 1), none⟩ = some (.int .i64 (E : Int))) (by kernel_rfl) (by first | exact trivial | assumption | exact ⟨by assumption, by assumption⟩) (fun hHeld => ?_)
        refine take_at (i := 0) (v := ?_) rfl rfl (by kernel_rfl) (by kernel_rfl) (by kernel_rfl) (fun _ _ _ h => h) (Or.inl ⟨by rfl, ?_⟩) (by assumption) ?_
        rotate_left
        · intro w hSw; (try dsimp only at hSw); go_simp; try with_reducible rfl
        try simp only [Act.put, List.setIfInBounds_toArray, List.set_cons_zero, List.set_cons_succ]
        refine take_at (i := 1) (v := ?_) rfl rfl (by kernel_rfl) (by kernel_rfl) (by kernel_rfl) (fun _ _ _ h => h) (Or.inl ⟨by rfl, ?_⟩) (by assumption) ?_
        rotate_left
        · intro w hSw; (try dsimp only at hSw); go_simp; try with_reducible rfl
        try simp only [Act.put, List.setIfInBounds_toArray, List.set_cons_zero, List.set_cons_succ]
        refine take_at (i := 2) (v := ?_) rfl rfl (by kernel_rfl) (by kernel_rfl) (by kernel_rfl) (fun _ _ _ h => h) (Or.inl ⟨by rfl, ?_⟩) (by assumption) ?_
        rotate_left
        · intro w hSw; (try dsimp only at hSw); go_simp; try with_reducible rfl
        try simp only [Act.put, List.setIfInBounds_toArray, List.set_cons_zero, List.set_cons_succ]
        refine take_at (i := 3) (v := ?_) rfl rfl (by kernel_rfl) (by kernel_rfl) (by kernel_rfl) (fun _ _ _ h => h) (Or.inl ⟨by rfl, ?_⟩) (by assumption) ?_
        rotate_left
        · intro w hSw; (try dsimp only at hSw); go_simp; try with_reducible rfl
        try simp only [Act.put, List.setIfInBounds_toArray, List.set_cons_zero, List.set_cons_succ]
        refine take_at (i := 4) (v := ?_) rfl rfl (by kernel_rfl) (by kernel_rfl) (by kernel_rfl) (fun _ _ _ h => h) (Or.inl ⟨by rfl, ?_⟩) (by assumption) ?_
        rotate_left
        · intro w hSw; (try dsimp only at hSw); go_simp; try with_reducible rfl
        try simp only [Act.put, List.setIfInBounds_toArray, List.set_cons_zero, List.set_cons_succ]
        refine take_at (i := 5) (v := ?_) rfl rfl (by kernel_rfl) (by kernel_rfl) (by kernel_rfl) (fun _ _ _ h => h) (Or.inl ⟨by rfl, ?_⟩) (by assumption) ?_
        rotate_left
        · intro w hSw; (try dsimp only at hSw); go_simp; try with_reducible rfl
        try simp only [Act.put, List.setIfInBounds_toArray, List.set_cons_zero, List.set_cons_succ]
        refine take_at (i := 6) (v := ?_) rfl rfl (by kernel_rfl) (by kernel_rfl) (by kernel_rfl) (fun _ _ _ h => h) (Or.inl ⟨by rfl, ?_⟩) (by assumption) ?_
        rotate_left
        · intro w hSw; (try dsimp only at hSw); go_simp; try with_reducible rfl
        try simp only [Act.put, List.setIfInBounds_toArray, List.set_cons_zero, List.set_cons_succ]
        refine take_at (i := 8) (v := ?_) rfl rfl (by kernel_rfl) (by kernel_rfl) (by kernel_rfl) (fun _ _ _ h => h) (Or.inl ⟨by rfl, ?_⟩) (by assumption) ?_
        rotate_left
        · intro w hSw; (try dsimp only at hSw); go_simp; try with_reducible rfl
        try simp only [Act.put, List.setIfInBounds_toArray, List.set_cons_zero, List.set_cons_succ]
        refine take_at (i := 9) (v := ?_) rfl rfl (by kernel_rfl) (by kernel_rfl) (by kernel_rfl) (fun _ _ _ h => h) (Or.inl ⟨by rfl, ?_⟩) (by assumption) ?_
        rotate_left
        · intro w hSw; (try dsimp only at hSw); go_simp; try with_reducible rfl
        try simp only [Act.put, List.setIfInBounds_toArray, List.set_cons_zero, List.set_cons_succ]
        refine take_at (i := 10) (v := ?_) rfl rfl (by kernel_rfl) (by kernel_rfl) (by kernel_rfl) (fun _ _ _ h => h) (Or.inl ⟨by rfl, ?_⟩) (by assumption) ?_
        rotate_left
        · intro w hSw; (try dsimp only at hSw); go_simp; try with_reducible rfl
        try simp only [Act.put, List.setIfInBounds_toArray, List.set_cons_zero, List.set_cons_succ]
        refine take_at (i := 11) (v := ?_) rfl rfl (by kernel_rfl) (by kernel_rfl) (by kernel_rfl) (fun _ _ _ h => h) (Or.inl ⟨by rfl, ?_⟩) (by assumption) ?_
        rotate_left
        · intro w hSw; (try dsimp only at hSw); go_simp; try with_reducible rfl
        try simp only [Act.put, List.setIfInBounds_toArray, List.set_cons_zero, List.set_cons_succ]
        refine take_at (i := 12) (v := ?_) rfl rfl (by kernel_rfl) (by kernel_rfl) (by kernel_rfl) (fun _ _ _ h => h) (Or.inl ⟨by rfl, ?_⟩) (by assumption) ?_
        rotate_left
        · intro w hSw; (try dsimp only at hSw); go_simp; try with_reducible rfl
        try simp only [Act.put, List.setIfInBounds_toArray, List.set_cons_zero, List.set_cons_succ]
        refine take_at (i := 13) (v := ?_) rfl rfl (by kernel_rfl) (by kernel_rfl) (by kernel_rfl) (fun _ _ _ h => h) (Or.inl ⟨by rfl, ?_⟩) (by assumption) ?_
        rotate_left
        · intro w hSw; (try dsimp only at hSw); go_simp; try with_reducible rfl
        try simp only [Act.put, List.setIfInBounds_toArray, List.set_cons_zero, List.set_cons_succ]
        refine take_at (i := 14) (v := ?_) rfl rfl (by kernel_rfl) (by kernel_rfl) (by kernel_rfl) (fun _ _ _ h => h) (Or.inl ⟨by rfl, ?_⟩) (by assumption) ?_
        rotate_left
        · intro w hSw; (try dsimp only at hSw); go_simp; try with_reducible rfl
        try simp only [Act.put, List.setIfInBounds_toArray, List.set_cons_zero, List.set_cons_succ]
        refine wpAnyH_ready (rs := [7]) (by kernel_rfl) (by simp) ?_
        refine AllReadyH.cons rfl (fun K hK => ?_) AllReadyH.nil
        go_simp
        refine hK.out _ _ (by assumption) (fun hHeld => ?_)
        clear hK K
        refine take_at (i := 15) (v := ?_) rfl rfl (by kernel_rfl) (by kernel_rfl) (by kernel_rfl) (fun _ _ _ h => h) (Or.inl ⟨by rfl, ?_⟩) (by assumption) ?_
        rotate_left
        · intro w hSw; (try dsimp only at hSw); go_simp; try with_reducible rfl
        try simp only [Act.put, List.setIfInBounds_toArray, List.set_cons_zero, List.set_cons_succ]
        refine take_at (i := 16) (v := ?_) rfl rfl (by kernel_rfl) (by kernel_rfl) (by kernel_rfl) (fun _ _ _ h => h) (Or.inl ⟨by rfl, ?_⟩) (by assumption) ?_
        rotate_left
        · intro w hSw; (try dsimp only at hSw); go_simp; try with_reducible rfl
        try simp only [Act.put, List.setIfInBounds_toArray, List.set_cons_zero, List.set_cons_succ]
        refine wpAnyH_ready (rs := [17]) (by kernel_rfl) (by simp) ?_
        refine AllReadyH.cons rfl (fun K hK => ?_) AllReadyH.nil
        go_simp
        rw [VN.out]
        refine hK.out _ _ SS.out (fun hHeld => ?_)
        clear hK K
        refine wpAnyH_done (by kernel_rfl) (NoPanic.normal ?_) _
        clear cO1 fO1 cE1 VN SS cA cO fO
        go_wp2
        refine ⟨⟨k + 1, j + 1, by show _ = _; omega, by omega, by go_num, World.ownsRow.drew own2, bl2.drew⟩, ?_⟩
        simp [intOf]; omega
      · have hj1 : j + 1 = n := by omega
        rw [hj1, Hdo.out] at hfk
        obtain ⟨F, hF⟩ : ∃ F, F = f k := ⟨_, rfl⟩
        rw [← hF] at hfk hset
        have hq : (d j : Int) / 4 = (F : Int) := by omega
        have kB : ¬ ((j : Int) + 1 < (n : Int)) := by omega
        have own1 := hown.set k (F : Int)
        rw [hset] at own1
        have bl1 := hbl.setCell (p := ⟨g, k, none⟩) (Nat.le_refl _) (Value.int .i64 (F : Int))
        generalize d j = A at *
        clear hown hbl gA hset hF hfk s2
        go_wp2
        refine ⟨⟨k + 1, j + 1, by show _ = _; omega, by omega, by go_num, own1, bl1⟩, ?_⟩
        simp [intOf]; omega
    · have hjn : j = n := by omega
      subst hjn
      rw [wT_cut_enough f j k (fun i h1 h2 => Hfo.out i (by omega) h2)] at hown
      go_wp2
      go_ret
      exact ⟨by rw [hgv]; rfl, by rw [hgv]; exact hown, by rw [hgv]; exact hbl⟩
end Go.Proofs.YtglgppeloolbhaaGreatDoor

/- The document's low, zero. -/
namespace Go.Proofs.YtglgppeloolbhaaGreatDoor
open Go.RowKit
set_option maxRecDepth 100000
set_option linter.unusedSimpArgs false

theorem i64_and3 (n : Int) : bits .and .i64 n 3 = n % 4 := i64_mask n 2 (by decide) 3 (by decide)

set_option maxRecDepth 100000 in
set_option maxHeartbeats 4000000 in
theorem rlow_any (v b o n c : Nat) (w : World) (hn : 17 ≤ n) (hn2 : n ≤ 64) (hI : IntsAt w .i64 (some ⟨b, o, none⟩) n (ints (digN v n))) :
    Calls Tryz.prog 73 #[.slice (some ⟨b, o, none⟩) n c] w fun e w' => e = .returned (.slice (some ⟨w.heap.size, 0, none⟩) 17 17) ∧ Own w' w.heap.size 3 .i64 w.heap.size 17 (ints (digN (v % 2 ^ 130) 17)) ∧ Below w.heap.size w w' := by
  obtain ⟨d, Hd⟩ : ∃ d : Nat → Nat, Hid (d = loF v) := ⟨_, rfl⟩
  have HL : Hid (ints (digN v n) = wT d n) := by show _ = _; rw [Hd.out]; exact ints_tabN _ _
  have HD : Hid (ints (digN (v % 2 ^ 130) 17) = (wT d 17).set 16 ((d 16 % 4 : Nat) : Int)) := by
    show _ = _
    rw [show ints (digN (v % 2 ^ 130) 17) = wT (loF (v % 2 ^ 130)) 17 from ints_tabN _ _, Hd.out]
    unfold wT
    refine (tab_set _ _ _ _ _ ?_ (fun i h1 h2 => ?_)).symm
    · show ((loF (v % 2 ^ 130) 16 : Nat) : Int) = ((loF v 16 % 4 : Nat) : Int)
      congr 1
      exact low_digit16 v
    · congr 1
      exact (low_digit v i (by omega)).symm
  have HI : Hid (IntsAt w .i64 (some ⟨b, o, none⟩) n (wT d n)) := by show IntsAt _ _ _ _ _; rw [← HL.out]; exact hI
  obtain ⟨Lr, HLr⟩ : ∃ L, Hid (L = (wT d 17).set 16 ((d 16 % 4 : Nat) : Int)) := ⟨_, rfl⟩
  rw [HD.out, ← HLr.out]
  obtain ⟨i0, hi, hz0, hz1, hz2⟩ := info_parts Tryz.info3
  clear hI HL Hd HD
  go_enter Tryz.func73, Tryz.ntmps73
  go_wp2_with (at_make; refine wpList_make_full _ rfl _ _ 47 rfl w.heap.size 3 i0 (.int .i64 0) 1 Tryz.underlying47 hi hz0 hz1 _ _ _ _ 17 rfl rfl ?b4 ?b5 ?b1 ?b2 ?b3 ?_)
  case b1 => rw [hz2]; omega
  case b2 => unfold maxLen; omega
  case b3 => omega
  case b4 => omega
  case b5 => omega
  intro w1 hown0 hgrow
  have hown : Own w1 w.heap.size 3 .i64 w.heap.size 17 (wT (cutN d 0) 17) := Own.made' _ (fun i _ => by unfold cutN; rw [if_neg (by omega)]; rfl) hown0
  have hbl : Below w.heap.size w w1 := (Below.refl _ _).grown hgrow (Nat.le_refl _) (fun k hk => by cases hk)
  clear hown0 hgrow hi hz0 hz1 hz2
  generalize hgv : w.heap.size = g at *
  go_wp2
  go_loopw [4] (fun i wr => ∃ k : Nat, k ≤ 17 ∧ i = .int .i64 k ∧ Own wr g 3 .i64 g 17 (wT (cutN d k) 17) ∧ Below g w wr) (fun i _ => 17 - (intOf i).toNat)
  case atStart => exact ⟨0, by omega, rfl, hown, hbl⟩
  case round =>
    clear hown hbl
    obtain ⟨k, hk, rfl, hown, hbl⟩ := hrel
    by_cases hlt : k < 17
    · have hkn : k < n := by omega
      have kA : (k : Int) < (n : Int) := by omega
      have kB : (k : Int) < 17 := by omega
      have gA := HI.out.cellOff k hkn
      rw [wT_getD _ _ _ hkn] at gA
      have lA : b < g := by have := World.block_lt_of_cell? w _ gA; rw [hgv] at this; exact this
      have cA : wr.cell? ⟨b, o + k, none⟩ = some (.int .i64 ((d k : Nat) : Int)) := by rw [hbl.cell (p := ⟨b, o + k, none⟩) lA]; exact gA
      have cO := hown.cell k hlt
      have fO := hown.free k
      have own1 := hown.set k ((d k : Nat) : Int)
      rw [wT_cut_set] at own1
      have bl1 := hbl.setCell (p := ⟨g, k, none⟩) (Nat.le_refl _) (Value.int .i64 ((d k : Nat) : Int))
      generalize d k = A at *
      clear hown hbl gA
      go_wp2
      refine ⟨⟨k + 1, by omega, by go_num, own1, bl1⟩, ?_⟩
      simp [intOf]; omega
    · have hk17 : k = 17 := by omega
      subst hk17
      rw [wT_cut_all] at hown
      have kB : ¬ (((17 : Nat) : Int) < 17) := by omega
      have cO := hown.cell 16 (by omega)
      rw [wT_getD _ _ _ (by omega)] at cO
      have fO := hown.free 16
      have own1 := hown.set 16 ((d 16 % 4 : Nat) : Int)
      rw [← HLr.out] at own1
      have bl1 := hbl.setCell (p := ⟨g, 16, none⟩) (Nat.le_refl _) (Value.int .i64 ((d 16 % 4 : Nat) : Int))
      have VN : bits .and .i64 ((d 16 : Nat) : Int) 3 = ((d 16 % 4 : Nat) : Int) := by rw [i64_and3]; omega
      clear HLr
      generalize d 16 % 4 = B at *
      generalize d 16 = A at *
      clear hown hbl
      go_wp2
      go_ret
      exact ⟨by first | rfl | (rw [hgv]; rfl), by first | exact own1 | (rw [hgv]; exact own1), by first | exact bl1 | (rw [hgv]; exact bl1)⟩

set_option maxHeartbeats 2000000 in
theorem rzero_any (v b o n c : Nat) (w : World) (hn : n ≤ 64) (hv : v < 256 ^ n) (hI : IntsAt w .i64 (some ⟨b, o, none⟩) n (ints (digN v n))) :
    Calls Tryz.prog 71 #[.slice (some ⟨b, o, none⟩) n c] w fun e w' => e = .returned (.bool (decide (v = 0))) ∧ Below w.heap.size w w' := by
  obtain ⟨d, Hd⟩ : ∃ d : Nat → Nat, Hid (d = loF v) := ⟨_, rfl⟩
  have HL : Hid (ints (digN v n) = wT d n) := by show _ = _; rw [Hd.out]; exact ints_tabN _ _
  have HI : Hid (IntsAt w .i64 (some ⟨b, o, none⟩) n (wT d n)) := by show IntsAt _ _ _ _ _; rw [← HL.out]; exact hI
  have Hz : Hid ((∀ i, i < n → d i = 0) → v = 0) := by
    intro h
    have h1 := valF_digits v n
    rw [valF_congr _ (fun _ => 0) n (fun i hi => by have := h i hi; rw [Hd.out] at this; exact this), Nat.mod_eq_of_lt hv] at h1
    rw [← h1]
    clear h h1 HI HL hI hv hn
    induction n with
    | zero => rfl
    | succ n ih => show valF _ n + 0 * _ = 0; rw [ih]; omega
  have Hz' : Hid (v = 0 → ∀ i, d i = 0) := by
    intro h i; rw [Hd.out, h]; show 0 / 256 ^ i % 256 = 0; rw [Nat.zero_div]
  clear hI hv HL Hd
  by_cases hv0 : v = 0
  · rw [show decide (v = 0) = true by simp [hv0]]
    have Hd0 : Hid (∀ i, d i = 0) := Hz'.out hv0
    clear Hz Hz' hv0
    go_enter Tryz.func71, Tryz.ntmps71
    go_wp2
    go_loopw [3] (fun i wr => ∃ k : Nat, k ≤ n ∧ i = .int .i64 k ∧ wr = w) (fun i _ => n - (intOf i).toNat)
    case atStart => exact ⟨0, by omega, rfl, rfl⟩
    case round =>
      obtain ⟨k, hk, rfl, rfl⟩ := hrel
      by_cases hlt : k < n
      · have kA : (k : Int) < (n : Int) := by omega
        have gA := HI.out.cellOff k hlt
        rw [wT_getD _ _ _ hlt, Hd0.out k] at gA
        go_wp2
        refine ⟨⟨k + 1, by omega, by go_num, trivial⟩, ?_⟩
        simp [intOf]; omega
      · have kA : ¬ ((k : Int) < (n : Int)) := by omega
        go_wp2
        go_ret
        exact ⟨rfl, Below.refl _ _⟩
  · rw [show decide (v = 0) = false by simp [hv0]]
    have Hne : Hid (¬ ∀ i, i < n → d i = 0) := fun h => hv0 (Hz.out h)
    clear Hz Hz' hv0
    go_enter Tryz.func71, Tryz.ntmps71
    go_wp2
    go_loopw [3] (fun i wr => ∃ k : Nat, k ≤ n ∧ i = .int .i64 k ∧ Hid (∀ j, j < k → d j = 0) ∧ wr = w) (fun i _ => n - (intOf i).toNat)
    case atStart => exact ⟨0, by omega, rfl, fun j hj => by omega, rfl⟩
    case round =>
      obtain ⟨k, hk, rfl, HZ, rfl⟩ := hrel
      by_cases hlt : k < n
      · have kA : (k : Int) < (n : Int) := by omega
        have gA := HI.out.cellOff k hlt
        rw [wT_getD _ _ _ hlt] at gA
        by_cases h0 : d k = 0
        · rw [h0] at gA
          have HZ' : Hid (∀ j, j < k + 1 → d j = 0) := fun j hj => by
            by_cases e : j = k
            · rw [e]; exact h0
            · exact HZ.out j (by omega)
          clear h0
          go_wp2
          refine ⟨⟨k + 1, by omega, by go_num, HZ', trivial⟩, ?_⟩
          simp [intOf]; omega
        · have hne : (((d k : Nat) : Int) != 0) = true := by rw [bne_iff_ne]; omega
          clear h0
          generalize d k = A at *
          go_wp2
          go_ret
          exact ⟨rfl, Below.refl _ _⟩
      · exact absurd (fun i hi => HZ.out i (by omega)) Hne.out
end Go.Proofs.YtglgppeloolbhaaGreatDoor

/- The document's reduced. -/
namespace Go.Proofs.YtglgppeloolbhaaGreatDoor
open Go.RowKit
set_option maxRecDepth 100000
set_option linter.unusedSimpArgs false

theorem digN_le (v n i : Nat) : (digN v n).getD i 0 ≤ 255 := by have := digN_lt v n i; omega
/-- add and times, of digits, from a world behind the first one. -/
theorem radd_on (x y m l : Nat) (aa ab : Option Addr) (ca cb many : Nat) (w0 w : World) (hb : Below w0.heap.size w0 w) (hm : many ≤ 64) (hx : x < 256 ^ m) (hy : y < 256 ^ l) (hx' : x < 256 ^ many) (hy' : y < 256 ^ many) (hA : IntsAt w .i64 aa m (ints (digN x m))) (hB : IntsAt w .i64 ab l (ints (digN y l))) :
    Calls Tryz.prog 55 #[.slice aa m ca, .slice ab l cb, .int .i64 (many : Int)] w fun e w' => ∃ g, e = .returned (.slice (some ⟨g, 0, none⟩) many many) ∧ IntsAt w' .i64 (some ⟨g, 0, none⟩) many (ints (digN (x + y) many)) ∧ Below w0.heap.size w0 w' ∧ Below w.heap.size w w' := by
  have h := radd_any (digN x m) (digN y l) aa ab m l ca cb many w (by omega) (fun i => Nat.le_trans (digN_le x m i) (by decide)) (fun i => Nat.le_trans (digN_le y l i) (by decide)) (valF_digN x m many hx hx') (valF_digN y l many hy hy') hA hB
  rw [valL_digN_of x m hx, valL_digN_of y l hy] at h
  refine h.mono ?_
  rintro e w' ⟨g, rfl, _, h1, h2⟩
  exact ⟨g, rfl, h1.ints, below_step hb (Nat.le_refl _) h2, h2⟩
theorem rtimes_on (x y m l ba oa bb ob ca cb : Nat) (w0 w : World) (hb : Below w0.heap.size w0 w) (hm : m ≤ 64) (hl : l ≤ 64) (hx : x < 256 ^ m) (hy : y < 256 ^ l) (hA : IntsAt w .i64 (some ⟨ba, oa, none⟩) m (ints (digN x m))) (hB : IntsAt w .i64 (some ⟨bb, ob, none⟩) l (ints (digN y l))) :
    Calls Tryz.prog 54 #[.slice (some ⟨ba, oa, none⟩) m ca, .slice (some ⟨bb, ob, none⟩) l cb] w fun e w' => ∃ g, e = .returned (.slice (some ⟨g, 0, none⟩) (m + l + 1) (m + l + 1)) ∧ IntsAt w' .i64 (some ⟨g, 0, none⟩) (m + l + 1) (ints (digN (x * y) (m + l + 1))) ∧ Below w0.heap.size w0 w' ∧ Below w.heap.size w w' := by
  have h := rtimes_any (digN x m) (digN y l) ba oa bb ob m l ca cb w hm hl (digN_le x m) (digN_le y l) hA hB
  rw [valL_digN_of x m hx, valL_digN_of y l hy] at h
  refine h.mono ?_
  rintro e w' ⟨g, rfl, _, h1, h2⟩
  exact ⟨g, rfl, h1.ints, below_step hb (Nat.le_refl _) h2, h2⟩
theorem rhigh_on (v b o n c : Nat) (w0 w : World) (hb : Below w0.heap.size w0 w) (hn : 17 ≤ n) (hn2 : n ≤ 64) (hv : v < 256 ^ n) (hI : IntsAt w .i64 (some ⟨b, o, none⟩) n (ints (digN v n))) :
    Calls Tryz.prog 72 #[.slice (some ⟨b, o, none⟩) n c] w fun e w' => ∃ g, e = .returned (.slice (some ⟨g, 0, none⟩) n n) ∧ IntsAt w' .i64 (some ⟨g, 0, none⟩) n (ints (digN (v / 2 ^ 130) n)) ∧ Below w0.heap.size w0 w' ∧ Below w.heap.size w w' := by
  refine (rhigh_any v b o n c w hn hn2 hv hI).mono ?_
  rintro e w' ⟨rfl, h1, h2⟩
  exact ⟨_, rfl, h1.ints, below_step hb (Nat.le_refl _) h2, h2⟩
theorem rlow_on (v b o n c : Nat) (w0 w : World) (hb : Below w0.heap.size w0 w) (hn : 17 ≤ n) (hn2 : n ≤ 64) (hI : IntsAt w .i64 (some ⟨b, o, none⟩) n (ints (digN v n))) :
    Calls Tryz.prog 73 #[.slice (some ⟨b, o, none⟩) n c] w fun e w' => ∃ g, e = .returned (.slice (some ⟨g, 0, none⟩) 17 17) ∧ IntsAt w' .i64 (some ⟨g, 0, none⟩) 17 (ints (digN (v % 2 ^ 130) 17)) ∧ Below w0.heap.size w0 w' ∧ Below w.heap.size w w' := by
  refine (rlow_any v b o n c w hn hn2 hI).mono ?_
  rintro e w' ⟨rfl, h1, h2⟩
  exact ⟨_, rfl, h1.ints, below_step hb (Nat.le_refl _) h2, h2⟩
theorem rzero_on (v b o n c : Nat) (w0 w : World) (hb : Below w0.heap.size w0 w) (hn : n ≤ 64) (hv : v < 256 ^ n) (hI : IntsAt w .i64 (some ⟨b, o, none⟩) n (ints (digN v n))) :
    Calls Tryz.prog 71 #[.slice (some ⟨b, o, none⟩) n c] w fun e w' => e = .returned (.bool (decide (v = 0))) ∧ Below w0.heap.size w0 w' ∧ Below w.heap.size w w' := by
  refine (rzero_any v b o n c w hn hv hI).mono ?_
  rintro e w' ⟨rfl, h2⟩
  exact ⟨rfl, below_step hb (Nat.le_refl _) h2, h2⟩
/-- What the rounds of reduced hold. -/
def RedAt (k u : Nat) : Prop := (k = 0 → u < 256 ^ 35) ∧ (k = 1 → u < 2 ^ 153) ∧ (k = 2 → u < 2 ^ 130 + 2 ^ 26) ∧ (3 ≤ k → u < 2 ^ 130)
theorem RedAt.lt {k u : Nat} (h : RedAt k u) : u < 256 ^ 35 := by
  have e1 : (2 : Nat) ^ 153 ≤ 256 ^ 35 := by decide
  have e2 : (2 : Nat) ^ 130 + 2 ^ 26 ≤ 256 ^ 35 := by decide
  rcases (show k = 0 ∨ k = 1 ∨ k = 2 ∨ 3 ≤ k by omega) with h0 | h0 | h0 | h0
  · exact h.1 h0
  · exact Nat.lt_of_lt_of_le (h.2.1 h0) e1
  · exact Nat.lt_of_lt_of_le (h.2.2.1 h0) e2
  · exact Nat.lt_of_lt_of_le (h.2.2.2 h0) (Nat.le_trans (Nat.le_add_right _ _) e2)
theorem RedAt.step {k u : Nat} (h : RedAt k u) : RedAt (k + 1) (stepR u) := by
  refine ⟨fun e => by omega, fun e => stepR_one u h.lt, fun e => stepR_two u (h.2.1 (by omega)), fun e => ?_⟩
  by_cases e2 : k = 2
  · exact stepR_three u (h.2.2.1 e2)
  · exact stepR_three u (Nat.lt_of_lt_of_le (h.2.2.2 (by omega)) (Nat.le_add_right _ _))
theorem RedAt.few {k u : Nat} (h : RedAt k u) (hn : ¬ u / 2 ^ 130 = 0) : k < 3 := by
  apply Nat.lt_of_not_le
  intro h3
  exact hn (Nat.div_eq_of_lt (h.2.2.2 h3))
end Go.Proofs.YtglgppeloolbhaaGreatDoor

/- The document's reduced. -/
namespace Go.Proofs.YtglgppeloolbhaaGreatDoor
open Go.RowKit
set_option maxRecDepth 100000
set_option linter.unusedSimpArgs false

theorem e5 : ints (digN 5 1) = [5] := by decide
theorem five_at (w : World) : IntsAt (w.alloc (.cells #[.int .i64 5] 3)) .i64 (some ⟨w.heap.size, 0, none⟩) 1 (ints (digN 5 1)) := by rw [e5]; exact ints_lit w .i64 5 3
theorem stepR_lt40 (u : Nat) (h : u < 256 ^ 35) : stepR u < 256 ^ 40 := Nat.lt_of_lt_of_le (stepR_one u h) (by decide)
theorem mod130_lt (u : Nat) : u % 2 ^ 130 < 256 ^ 17 := Nat.lt_of_lt_of_le (Nat.mod_lt _ (Nat.two_pow_pos 130)) (by decide)
theorem lt_pow (u a b : Nat) (h : u < 256 ^ a) (hab : a ≤ b) : u < 256 ^ b := Nat.lt_of_lt_of_le h (Nat.pow_le_pow_right (by decide) hab)

theorem five_lt (x m : Nat) (h : x < 256 ^ m) : 5 * x < 256 ^ (1 + m + 1) := by
  have e : 256 ^ (1 + m + 1) = 256 ^ m * 65536 := by rw [show 1 + m + 1 = m + 2 by omega, Nat.pow_add]
  rw [e]
  revert h
  generalize 256 ^ m = y
  intro h
  omega

set_option maxRecDepth 100000 in
set_option maxHeartbeats 8000000 in
theorem rreduced_any (v b o n c : Nat) (w : World) (hn : 17 ≤ n) (hn2 : n ≤ 38) (hn3 : v < 256 ^ n) (hv : v < 256 ^ 35) (hI : IntsAt w .i64 (some ⟨b, o, none⟩) n (ints (digN v n))) :
    Calls Tryz.prog 53 #[.slice (some ⟨b, o, none⟩) n c] w fun e w' => ∃ g, e = .returned (.slice (some ⟨g, 0, none⟩) 17 17) ∧ IntsAt w' .i64 (some ⟨g, 0, none⟩) 17 (ints (digN (v % pN) 17)) ∧ Below w.heap.size w w' := by
  have HI : Hid (IntsAt w .i64 (some ⟨b, o, none⟩) n (ints (digN v n))) := hI
  have H0 : Hid (RedAt 0 v) := ⟨fun _ => hv, fun h => by omega, fun h => by omega, fun h => by omega⟩
  have Hv : Hid (v < 256 ^ n) := hn3
  obtain ⟨P, HP⟩ : ∃ P, Hid (P = v % pN) := ⟨_, rfl⟩
  rw [← HP.out]
  clear hI hv hn3
  go_enter Tryz.func53, Tryz.ntmps53
  go_wp2_with fail
  go_loopw [0, 3] (fun x i wr => ∃ k g q m cp u : Nat, Hid (RedAt k u) ∧ k ≤ 3 ∧ i = .int .i64 k ∧ x = .slice (some ⟨g, q, none⟩) m cp ∧ 17 ≤ m ∧ m ≤ 40 ∧ Hid (u < 256 ^ m) ∧ Hid (IntsAt wr .i64 (some ⟨g, q, none⟩) m (ints (digN u m))) ∧ Hid (u % pN = P) ∧ Below w.heap.size w wr) (fun _ i _ => 4 - (intOf i).toNat)
  case atStart => exact ⟨0, b, o, n, c, v, H0, by omega, rfl, rfl, by omega, by omega, Hv, HI, HP.out.symm, Below.refl _ _⟩
  case round =>
    clear HI H0 Hv
    obtain ⟨k, g, q, m, cp, u, HR, hk, rfl, rfl, hm1, hm2, Hu, HI, HM, hbl⟩ := hrel
    have kA : (k : Int) < 40 := by omega
    have Hq : Hid (u / 2 ^ 130 < 256 ^ m) := Nat.lt_of_le_of_lt (Nat.div_le_self _ _) Hu.out
    by_cases hz : u / 2 ^ 130 = 0
    · have hz' : decide (u / 2 ^ 130 = 0) = true := by simp [hz]
      have CH : Hid (∀ wx, Below w.heap.size w wx → IntsAt wx .i64 (some ⟨g, q, none⟩) m (ints (digN u m)) → _) := fun wx hb hI => rhigh_on u g q m cp w wx hb hm1 (by omega) Hu.out hI
      have CZ : Hid (∀ g1 wx, Below w.heap.size w wx → IntsAt wx .i64 (some ⟨g1, 0, none⟩) m (ints (digN (u / 2 ^ 130) m)) → _) := fun g1 wx hb hI => rzero_on (u / 2 ^ 130) g1 0 m m w wx hb (by omega) Hq.out hI
      rw [hz'] at CZ
      clear hz'
      go_wp2_with fail
      refine (CH.out _ hbl HI.out).mono ?_
      rintro e w1 ⟨g1, rfl, I1, B1, D1⟩
      have HI1 := HI.out.below D1
      clear HI hbl D1 CH
      go_wp2_with fail
      refine (CZ.out _ _ B1 I1).mono ?_
      rintro e w2 ⟨rfl, B2, D2⟩
      have HI2 : Hid (IntsAt w2 .i64 (some ⟨g, q, none⟩) m (ints (digN u m))) := HI1.below D2
      clear HI1 I1 B1 D2 CZ
      go_wp2_with fail
      have hu130 : u < 2 ^ 130 := by
        apply Nat.lt_of_not_le
        intro h
        have := Nat.div_pos h (Nat.two_pow_pos 130)
        omega
      have h40 : u + 5 < 256 ^ 40 := Nat.lt_of_lt_of_le (Nat.add_lt_add_right hu130 5) (by decide)
      have hu40 : u < 256 ^ 40 := Nat.lt_of_lt_of_le hu130 (by decide)
      have B2' : Below w.heap.size w (w2.alloc (.cells #[.int .i64 5] 3)) := B2.alloc B2.size _
      have HI2' : IntsAt (w2.alloc (.cells #[.int .i64 5] 3)) .i64 (some ⟨g, q, none⟩) m (ints (digN u m)) := HI2.out.below (below_new w2 _)
      have I5 := five_at w2
      have CA : Hid (∀ wx ab, Below w.heap.size w wx → IntsAt wx .i64 (some ⟨g, q, none⟩) m (ints (digN u m)) → IntsAt wx .i64 ab 1 (ints (digN 5 1)) → Calls Tryz.prog 55 #[.slice (some ⟨g, q, none⟩) m cp, .slice ab 1 1, .int .i64 40] wx _) := fun wx ab hb h1 h2 => radd_on u 5 m 1 (some ⟨g, q, none⟩) ab cp 1 40 w wx hb (by decide) Hu.out (by decide) hu40 (by decide) h1 h2
      have H40 : Hid (u + 5 < 256 ^ 40) := h40
      have H130 : Hid (u < 2 ^ 130) := hu130
      clear hu130 h40 hu40 hz
      refine (CA.out _ _ B2' HI2' I5).mono ?_
      rintro e w3 ⟨g3, rfl, I3, B3, D3⟩
      have HI3 : Hid (IntsAt w3 .i64 (some ⟨g, q, none⟩) m (ints (digN u m))) := HI2'.below D3
      clear HI2 HI2' I5 B2 B2' D3 CA
      have J3 : Hid (IntsAt w3 .i64 (some ⟨g3, 0, none⟩) 40 (ints (digN (u + 5) 40))) := I3
      clear I3
      have CH : Hid (∀ wx, Below w.heap.size w wx → IntsAt wx .i64 (some ⟨g3, 0, none⟩) 40 (ints (digN (u + 5) 40)) → _) := fun wx hb hI => rhigh_on (u + 5) g3 0 40 40 w wx hb (by decide) (by decide) H40.out hI
      have CZ : Hid (∀ g1 wx, Below w.heap.size w wx → IntsAt wx .i64 (some ⟨g1, 0, none⟩) 40 (ints (digN ((u + 5) / 2 ^ 130) 40)) → _) := fun g1 wx hb hI => rzero_on ((u + 5) / 2 ^ 130) g1 0 40 40 w wx hb (by decide) (Nat.lt_of_le_of_lt (Nat.div_le_self _ _) H40.out) hI
      by_cases hz5 : (u + 5) / 2 ^ 130 = 0
      · have hz' : decide ((u + 5) / 2 ^ 130 = 0) = true := by simp [hz5]
        rw [hz'] at CZ
        have hl5 : u + 5 < 2 ^ 130 := by
          apply Nat.lt_of_not_le
          intro h
          have := Nat.div_pos h (Nat.two_pow_pos 130)
          omega
        have CL' := fun wx hb hI => rlow_on u g q m cp w wx hb hm1 (by omega) hI
        rw [last_less u hl5, HM.out] at CL'
        have CL : Hid (∀ wx, Below w.heap.size w wx → IntsAt wx .i64 (some ⟨g, q, none⟩) m (ints (digN u m)) → _) := CL'
        clear hz' hl5 CL' hz5
        go_wp2_with fail
        refine (CH.out _ B3 J3.out).mono ?_
        rintro e w4 ⟨g4, rfl, I4, B4, D4⟩
        have HI4 := HI3.out.below D4
        clear HI3 B3 D4 CH
        go_wp2_with fail
        refine (CZ.out _ _ B4 I4).mono ?_
        rintro e w5 ⟨rfl, B5, D5⟩
        have HI5 : Hid (IntsAt w5 .i64 (some ⟨g, q, none⟩) m (ints (digN u m))) := HI4.below D5
        clear HI4 I4 B4 D5 CZ
        go_wp2_with fail
        refine (CL.out _ B5 HI5.out).mono ?_
        rintro e w6 ⟨g6, rfl, I6, B6, _⟩
        have HI6 : Hid (IntsAt w6 .i64 (some ⟨g6, 0, none⟩) 17 (ints (digN P 17))) := I6
        clear CL I6 HI5
        go_wp2_with fail
        go_ret
        exact ⟨g6, rfl, HI6.out, B6⟩
      · have hz' : decide ((u + 5) / 2 ^ 130 = 0) = false := by simp [hz5]
        rw [hz'] at CZ
        have hl5 : 2 ^ 130 ≤ u + 5 := by
          apply Nat.le_of_not_lt
          intro h
          exact hz5 (Nat.div_eq_of_lt h)
        have CL' := fun wx hb hI => rlow_on (u + 5) g3 0 40 40 w wx hb (by decide) (by decide) hI
        rw [last_more u H130.out hl5, HM.out] at CL'
        have CL : Hid (∀ wx, Below w.heap.size w wx → IntsAt wx .i64 (some ⟨g3, 0, none⟩) 40 (ints (digN (u + 5) 40)) → _) := CL'
        clear hz' hl5 CL' hz5 HI3
        go_wp2_with fail
        refine (CH.out _ B3 J3.out).mono ?_
        rintro e w4 ⟨g4, rfl, I4, B4, D4⟩
        have HI4 := J3.out.below D4
        clear J3 B3 D4 CH
        go_wp2_with fail
        refine (CZ.out _ _ B4 I4).mono ?_
        rintro e w5 ⟨rfl, B5, D5⟩
        have HI5 : Hid (IntsAt w5 .i64 (some ⟨g3, 0, none⟩) 40 (ints (digN (u + 5) 40))) := HI4.below D5
        clear HI4 I4 B4 D5 CZ
        go_wp2_with fail
        refine (CL.out _ B5 HI5.out).mono ?_
        rintro e w6 ⟨g6, rfl, I6, B6, _⟩
        have HI6 : Hid (IntsAt w6 .i64 (some ⟨g6, 0, none⟩) 17 (ints (digN P 17))) := I6
        clear CL I6 HI5
        go_wp2_with fail
        go_ret
        exact ⟨g6, rfl, HI6.out, B6⟩
    · have hz' : decide (u / 2 ^ 130 = 0) = false := by simp [hz]
      have hk3 : k < 3 := HR.out.few hz
      have CH : Hid (∀ wx, Below w.heap.size w wx → IntsAt wx .i64 (some ⟨g, q, none⟩) m (ints (digN u m)) → _) := fun wx hb hI => rhigh_on u g q m cp w wx hb hm1 (by omega) Hu.out hI
      have CZ : Hid (∀ g1 wx, Below w.heap.size w wx → IntsAt wx .i64 (some ⟨g1, 0, none⟩) m (ints (digN (u / 2 ^ 130) m)) → _) := fun g1 wx hb hI => rzero_on (u / 2 ^ 130) g1 0 m m w wx hb (by omega) Hq.out hI
      rw [hz'] at CZ
      have CL : Hid (∀ wx, Below w.heap.size w wx → IntsAt wx .i64 (some ⟨g, q, none⟩) m (ints (digN u m)) → _) := fun wx hb hI => rlow_on u g q m cp w wx hb hm1 (by omega) hI
      have CT : Hid (∀ wx ba bb, Below w.heap.size w wx → IntsAt wx .i64 (some ⟨ba, 0, none⟩) 1 (ints (digN 5 1)) → IntsAt wx .i64 (some ⟨bb, 0, none⟩) m (ints (digN (u / 2 ^ 130) m)) → _) := fun wx ba bb hb h1 h2 => rtimes_on 5 (u / 2 ^ 130) 1 m ba 0 bb 0 1 m w wx hb (by decide) (by omega) (by decide) Hq.out h1 h2
      have h5q : 5 * (u / 2 ^ 130) < 256 ^ 35 := by
        have h1 := HR.out.lt
        have h2 := Nat.div_mul_le_self u (2 ^ 130)
        have h3 : u / 2 ^ 130 * 5 ≤ u / 2 ^ 130 * 2 ^ 130 := Nat.mul_le_mul_left _ (by decide)
        rw [Nat.mul_comm]
        omega
      have H5q : Hid (5 * (u / 2 ^ 130) < 256 ^ 35) := h5q
      have H5m : Hid (5 * (u / 2 ^ 130) < 256 ^ (1 + m + 1)) := five_lt (u / 2 ^ 130) m Hq.out
      have CA : Hid (∀ wx aa ab cb, Below w.heap.size w wx → IntsAt wx .i64 aa 17 (ints (digN (u % 2 ^ 130) 17)) → IntsAt wx .i64 ab (1 + m + 1) (ints (digN (5 * (u / 2 ^ 130)) (1 + m + 1))) → Calls Tryz.prog 55 #[.slice aa 17 17, .slice ab (1 + m + 1) cb, .int .i64 40] wx _) := fun wx aa ab cb hb h1 h2 => radd_on (u % 2 ^ 130) (5 * (u / 2 ^ 130)) 17 (1 + m + 1) aa ab 17 cb 40 w wx hb (by decide) (mod130_lt u) H5m.out (lt_pow _ 17 40 (mod130_lt u) (by decide)) (lt_pow _ 35 40 H5q.out (by decide)) h1 h2
      have HN : Hid (RedAt (k + 1) (u % 2 ^ 130 + 5 * (u / 2 ^ 130))) := HR.out.step
      have HNm : Hid ((u % 2 ^ 130 + 5 * (u / 2 ^ 130)) % pN = P) := by show _ = _; rw [← HM.out]; exact stepR_mod u
      have HNl : Hid (u % 2 ^ 130 + 5 * (u / 2 ^ 130) < 256 ^ 40) := stepR_lt40 u HR.out.lt
      clear hz' hz h5q H5q H5m Hq HR HM Hu
      go_wp2_with fail
      refine (CH.out _ hbl HI.out).mono ?_
      rintro e w1 ⟨g1, rfl, I1, B1, D1⟩
      have HI1 := HI.out.below D1
      clear HI hbl D1
      go_wp2_with fail
      refine (CZ.out _ _ B1 I1).mono ?_
      rintro e w2 ⟨rfl, B2, D2⟩
      have HI2 : Hid (IntsAt w2 .i64 (some ⟨g, q, none⟩) m (ints (digN u m))) := HI1.below D2
      clear HI1 I1 B1 D2 CZ
      go_wp2_with fail
      refine (CL.out _ B2 HI2.out).mono ?_
      rintro e w3 ⟨g3, rfl, I3, B3, D3⟩
      have HI3 := (HI2.out.below D3).below (below_new w3 (.cells #[.int .i64 5] 3))
      have J3 := I3.below (below_new w3 (.cells #[.int .i64 5] 3))
      have B3' : Below w.heap.size w (w3.alloc (.cells #[.int .i64 5] 3)) := B3.alloc B3.size _
      have I5 := five_at w3
      clear HI2 B2 D3 CL I3 B3
      have K3 : Hid (IntsAt (w3.alloc (.cells #[.int .i64 5] 3)) .i64 (some ⟨g3, 0, none⟩) 17 (ints (digN (u % 2 ^ 130) 17))) := J3
      have K4 : Hid (IntsAt (w3.alloc (.cells #[.int .i64 5] 3)) .i64 (some ⟨g, q, none⟩) m (ints (digN u m))) := HI3
      have K5 : Hid (IntsAt (w3.alloc (.cells #[.int .i64 5] 3)) .i64 (some ⟨w3.heap.size, 0, none⟩) 1 (ints (digN 5 1))) := I5
      clear J3 HI3 I5
      go_wp2_with fail
      refine (CH.out _ B3' K4.out).mono ?_
      rintro e w4 ⟨g4, rfl, I4, B4, D4⟩
      have L3 : Hid (IntsAt w4 .i64 (some ⟨g3, 0, none⟩) 17 (ints (digN (u % 2 ^ 130) 17))) := K3.out.below D4
      have L5 := K5.out.below D4
      clear K3 K4 K5 B3' D4 CH
      go_wp2_with fail
      refine (CT.out _ _ _ B4 L5 I4).mono ?_
      rintro e w5 ⟨g5, rfl, I5, B5, D5⟩
      have M3 := L3.out.below D5
      clear L3 L5 I4 B4 D5 CT
      go_wp2_with fail
      refine (CA.out _ _ _ _ B5 M3 I5).mono ?_
      rintro e w6 ⟨g6, rfl, I6, B6, _⟩
      have HI6 : Hid (IntsAt w6 .i64 (some ⟨g6, 0, none⟩) 40 (ints (digN (u % 2 ^ 130 + 5 * (u / 2 ^ 130)) 40))) := I6
      clear M3 I5 B5 CA I6
      go_wp2
      refine ⟨⟨k + 1, g6, 0, 40, 40, _, HN, by omega, by go_num, rfl, by omega, by omega, HNl, HI6, HNm, B6⟩, ?_⟩
      simp [intOf]; omega
end Go.Proofs.YtglgppeloolbhaaGreatDoor

/- The document's Clamp. -/
namespace Go.Proofs.YtglgppeloolbhaaGreatDoor
open Go.RowKit
set_option maxRecDepth 100000
set_option linter.unusedSimpArgs false

def cl1 (f : Nat → Nat) (k i : Nat) : Nat := if i % 4 = 3 ∧ i < 4 * k + 3 then f i % 16 else f i
def cl2 (f : Nat → Nat) (k i : Nat) : Nat := if i % 4 = 0 ∧ 0 < i ∧ i < 4 * k + 4 then cl1 f 4 i / 4 * 4 else cl1 f 4 i
theorem cl1_zero (f : Nat → Nat) : f = cl1 f 0 := by
  funext i; unfold cl1; rw [if_neg (by omega)]
theorem cl1_put (f : Nat → Nat) (k : Nat) : (fun i => if i = 4 * k + 3 then f (4 * k + 3) % 16 else cl1 f k i) = cl1 f (k + 1) := by
  funext i
  unfold cl1
  by_cases h : i = 4 * k + 3
  · rw [if_pos h, if_pos (by omega), h]
  · rw [if_neg h]
    by_cases h2 : i % 4 = 3 ∧ i < 4 * k + 3
    · rw [if_pos h2, if_pos (by omega)]
    · rw [if_neg h2, if_neg (by omega)]
theorem cl2_zero (f : Nat → Nat) : cl1 f 4 = cl2 f 0 := by
  funext i; unfold cl2; rw [if_neg (by omega)]
theorem cl2_put (f : Nat → Nat) (k : Nat) : (fun i => if i = 4 * k + 4 then cl1 f 4 (4 * k + 4) / 4 * 4 else cl2 f k i) = cl2 f (k + 1) := by
  funext i
  unfold cl2
  by_cases h : i = 4 * k + 4
  · rw [if_pos h, if_pos (by omega), h]
  · rw [if_neg h]
    by_cases h2 : i % 4 = 0 ∧ 0 < i ∧ i < 4 * k + 4
    · rw [if_pos h2, if_pos (by omega)]
    · rw [if_neg h2, if_neg (by omega)]
theorem cl2_end (f : Nat → Nat) (i : Nat) (h : i < 16) : cl2 f 3 i = clampF f i := by
  unfold cl2 cl1 clampF
  by_cases h1 : i % 4 = 3
  · rw [if_neg (by omega), if_pos (by omega), if_pos h1]
  · by_cases h2 : i % 4 = 0 ∧ 0 < i
    · rw [if_pos (by omega), if_neg (by omega), if_neg h1, if_pos h2]
    · rw [if_neg (by omega), if_neg (by omega), if_neg h1, if_neg h2]
theorem cl1_here (f : Nat → Nat) (k : Nat) : cl1 f k (4 * k + 3) = f (4 * k + 3) := by unfold cl1; rw [if_neg (by omega)]
theorem cl2_here (f : Nat → Nat) (k : Nat) : cl2 f k (4 * k + 4) = cl1 f 4 (4 * k + 4) := by unfold cl2; rw [if_neg (by omega)]
theorem cl1_lt (f : Nat → Nat) (h : ∀ i, f i < 256) (k i : Nat) : cl1 f k i < 256 := by
  have := h i
  unfold cl1; split <;> omega
theorem cl2_lt (f : Nat → Nat) (h : ∀ i, f i < 256) (k i : Nat) : cl2 f k i < 256 := by
  have := cl1_lt f h 4 i
  unfold cl2; split <;> omega
theorem and252 : ∀ x : Fin 256, x.1 &&& 252 = x.1 / 4 * 4 := by decide +kernel
theorem u8_and15 (x : Nat) (h : x < 256) : bits .and .u8 (x : Int) 15 = ((x % 16 : Nat) : Int) := by
  rw [show (15 : Int) = ((15 : Nat) : Int) from rfl, u8_and_nat x 15 h (by decide), show (15 : Nat) = 2 ^ 4 - 1 from rfl, Nat.and_two_pow_sub_one_eq_mod]
theorem u8_and252 (x : Nat) (h : x < 256) : bits .and .u8 (x : Int) 252 = ((x / 4 * 4 : Nat) : Int) := by
  rw [show (252 : Int) = ((252 : Nat) : Int) from rfl, u8_and_nat x 252 h (by decide), and252 ⟨x, h⟩]

set_option maxRecDepth 100000 in
set_option maxHeartbeats 4000000 in
theorem rclamp_yes (s : ByteArray) (w : World) (h : s.size = 16) :
    Calls Tryz.prog 51 #[.string s] w fun e w' => e = .returned (.tuple #[.string (clampB s), .int .i64 0]) ∧ Below w.heap.size w w' := by
  have g0 : (((s.size : Int) != 16)) = false := by rw [bne_eq_false_iff_eq]; omega
  obtain ⟨cp, w1, hcv0, hcp, hrow, hbl⟩ := bytes_new (P := Tryz.prog) w 9 35 5 s Tryz.underlying9 Tryz.underlying35 Tryz.underlying5
  rw [h] at hcv0 hcp hrow
  obtain ⟨E, HE⟩ : ∃ E, Hid (E = clampB s) := ⟨_, rfl⟩
  rw [← HE.out]
  obtain ⟨f, Hf⟩ : ∃ f, Hid (f = bt s) := ⟨_, rfl⟩
  have Hl : Hid (∀ i, f i < 256) := by show ∀ i, _; rw [Hf.out]; exact bt_lt s
  rw [← Hf.out, cl1_zero f] at hrow
  have HEf : Hid ((⟨(bytesOf 16 (cl2 f 3)).toArray⟩ : ByteArray) = E) := by
    show _ = _
    rw [HE.out, bytesOf_congr 16 (cl2 f 3) (clampF (bt s)) (fun i hi => by rw [Hf.out]; exact cl2_end _ i hi)]; rfl
  generalize hgv : w.heap.size = g at *
  have HR0 : Hid (Row8 w1 g 16 (cl1 f 0)) := hrow
  clear hrow HE Hf
  go_enter Tryz.func51, Tryz.ntmps51
  go_wp2
  go_loopw [5] (fun i wr => ∃ k j : Nat, Hid (j = 4 * k + 3) ∧ j ≤ 19 ∧ i = .int .i64 j ∧ Hid (Row8 wr g 16 (cl1 f k)) ∧ Below g w wr) (fun i _ => 20 - (intOf i).toNat)
  case atStart => exact ⟨0, 3, rfl, by omega, rfl, HR0, hbl⟩
  case round =>
    clear HR0 hbl
    obtain ⟨k, j, HJ, hj, rfl, HR, hbl⟩ := hrel
    by_cases hlt : j < 16
    · have c0 := HR.out.cell j hlt
      have f0 := HR.out.free j hlt
      have HRn := HR.out.set j (f j % 16)
      have hjk := HJ.out
      rw [show cl1 f k j = f j by rw [hjk]; exact cl1_here f k] at c0
      have HRn' : Hid (Row8 (wr.setCell ⟨g, j, none⟩ (.int .u8 ((f j % 16 : Nat) : Int))) g 16 (cl1 f (k + 1))) := by
        show Row8 _ _ _ _
        refine HRn.cast ?_
        rw [hjk]; exact cl1_put f k
      have bl1 := hbl.setCell (p := ⟨g, j, none⟩) (Nat.le_refl _) (Value.int .u8 ((f j % 16 : Nat) : Int))
      have VN := u8_and15 (f j) (Hl.out j)
      generalize f j % 16 = B at *
      generalize f j = A at *
      clear HR HRn hbl hjk
      go_wp2
      refine ⟨⟨k + 1, j + 4, by have := HJ.out; show _ = _; omega, by omega, by go_num, HRn', bl1⟩, ?_⟩
      simp [intOf]; omega
    · have hk4 : k = 4 := by have := HJ.out; omega
      subst hk4
      have HR' : Hid (Row8 wr g 16 (cl2 f 0)) := by show Row8 _ _ _ _; rw [← cl2_zero]; exact HR.out
      have hj19 : j = 19 := by have := HJ.out; omega
      subst hj19
      obtain ⟨w5, h5⟩ : ∃ w5, w5 = wr := ⟨_, rfl⟩
      rw [← h5] at HR' hbl ⊢
      clear h5 HR
      go_wp2
      go_loopw [6] (fun i wr => ∃ k j : Nat, Hid (j = 4 * k + 4) ∧ j ≤ 16 ∧ i = .int .i64 j ∧ Hid (Row8 wr g 16 (cl2 f k)) ∧ Below g w wr) (fun i _ => 20 - (intOf i).toNat)
      case atStart => exact ⟨0, 4, rfl, by omega, rfl, HR', hbl⟩
      case round =>
        clear HR' hbl
        obtain ⟨k, j, HJ2, hj, rfl, HR, hbl⟩ := hrel
        by_cases hlt : j < 16
        · have c0 := HR.out.cell j hlt
          have f0 := HR.out.free j hlt
          have HRn := HR.out.set j (cl1 f 4 j / 4 * 4)
          have hjk := HJ2.out
          rw [show cl2 f k j = cl1 f 4 j by rw [hjk]; exact cl2_here f k] at c0
          have HRn' : Hid (Row8 (wr.setCell ⟨g, j, none⟩ (.int .u8 ((cl1 f 4 j / 4 * 4 : Nat) : Int))) g 16 (cl2 f (k + 1))) := by
            show Row8 _ _ _ _
            refine HRn.cast ?_
            rw [hjk]; exact cl2_put f k
          have bl1 := hbl.setCell (p := ⟨g, j, none⟩) (Nat.le_refl _) (Value.int .u8 ((cl1 f 4 j / 4 * 4 : Nat) : Int))
          have VN := u8_and252 (cl1 f 4 j) (cl1_lt f Hl.out 4 j)
          generalize cl1 f 4 j / 4 * 4 = B at *
          generalize cl1 f 4 j = A at *
          clear HR HRn hbl hjk
          go_wp2
          refine ⟨⟨k + 1, j + 4, by have := HJ2.out; show _ = _; omega, by have := HJ2.out; omega, by go_num, HRn', bl1⟩, ?_⟩
          simp [intOf]; omega
        · have hk3 : k = 3 := by have := HJ2.out; omega
          subst hk3
          have hcv := HR.out.conv (P := Tryz.prog) (cl2_lt f Hl.out 3) 16 cp (Nat.le_refl _) 35 9 Tryz.underlying35 Tryz.underlying5 Tryz.underlying9
          rw [HEf.out] at hcv
          clear HR HEf
          go_wp2
          go_ret2
          exact ⟨rfl, by first | exact hbl | (rw [hgv]; exact hbl)⟩
end Go.Proofs.YtglgppeloolbhaaGreatDoor

/- The document's Mac. -/
namespace Go.Proofs.YtglgppeloolbhaaGreatDoor
open Go.RowKit
set_option maxRecDepth 100000
set_option linter.unusedSimpArgs false

theorem carry_none (l : List Nat) (h : ∀ i, l.getD i 0 < 256) (i : Nat) : carryAt l i = 0 := by
  induction i with
  | zero => rfl
  | succ i ih => show (carryAt l i + l.getD i 0) / 256 = 0; rw [ih]; have := h i; omega
/-- Digits are those of their number. -/
theorem wT_digN (f : Nat → Nat) (n : Nat) (h : ∀ i, i < n → f i < 256) : wT f n = ints (digN (valF f n) n) := by
  rw [show ints (digN (valF f n) n) = wT (fun i => valF f n / 256 ^ i % 256) n from ints_tabN _ _]
  unfold wT
  refine tab_congr _ _ _ (fun i hi => ?_)
  have hl : ∀ j, (tabN n f).getD j 0 < 256 := fun j => by
    by_cases hj : j < n
    · rw [tabN_getD _ _ _ hj]; exact h j hj
    · rw [getD_none _ _ (by rw [tabN_length]; omega)]; decide
  have h1 := carried_digit (tabN n f) i
  rw [carry_none _ hl, Nat.zero_add, tabN_getD _ _ _ hi, valL_tabN, Nat.mod_eq_of_lt (h i hi)] at h1
  rw [h1]
/-- A chunk's digits, and a 1 behind them. -/
theorem chunk_digits (f : Nat → Nat) (n : Nat) (h : ∀ i, f i < 256) : wT f n ++ [1] = ints (digN (valF f n + 256 ^ n) (n + 1)) := by
  have e1 : wT f n ++ [1] = wT (fun i => if i < n then f i else 1) (n + 1) := by
    rw [← wT_snoc (fun i => if i < n then f i else 1) n 1 (by simp)]
    congr 1
    unfold wT
    exact tab_congr _ _ _ (fun i hi => by simp [hi])
  rw [e1, wT_digN _ _ (fun i _ => by have := h i; by_cases hi : i < n <;> simp [hi]; exact this)]
  congr 2
  show valF (fun i => if i < n then f i else 1) n + (if n < n then f n else 1) * 256 ^ n = _
  rw [valF_congr _ f n (fun i hi => by simp [hi])]
  simp
theorem bt_clampB (s : ByteArray) (i : Nat) (hi : i < 16) : bt (clampB s) i = clampF (bt s) i := bt_bytesOf 16 _ i hi (clampF_lt _ (bt_lt s) i)
theorem clampB_size (s : ByteArray) : (clampB s).size = 16 := by
  show (bytesOf 16 _).toArray.size = 16
  rw [List.size_toArray, bytesOf_length]
theorem clampN_of (key : ByteArray) (hk : key.size = 32) : valF (bt (clampB (key.extract 0 16))) 16 = clampN key := by
  unfold clampN
  refine valF_congr _ _ _ (fun i hi => ?_)
  rw [bt_clampB _ i hi]
  have e : bt (key.extract 0 16) i = bt key i := by rw [bt_extract key 0 16 i (by omega) (by omega), Nat.zero_add]
  unfold clampF
  rw [e]
theorem second_of (key : ByteArray) (hk : key.size = 32) : valF (bt (key.extract 16 32)) 16 = valF (fun j => bt key (16 + j)) 16 :=
  valF_congr _ _ _ (fun i hi => by rw [bt_extract key 16 32 i (by omega) (by omega)])
theorem chunk_of (s : ByteArray) (k e : Nat) (he : e = 16 * k + cutLen s k) (hl : e ≤ s.size) : valF (bt (s.extract (16 * k) e)) (cutLen s k) + 256 ^ cutLen s k = chunkN s k := by
  unfold chunkN
  rw [valF_congr (bt (s.extract (16 * k) e)) (fun j => bt s (16 * k + j)) (cutLen s k) (fun i hi => by rw [bt_extract s (16 * k) e i (by omega) hl])]
theorem pN_lt : pN < 256 ^ 17 := by decide
theorem acc_lt (s : ByteArray) (r k : Nat) : accN s r k < 256 ^ 17 := Nat.lt_trans (accN_lt s r k) pN_lt
theorem chunk_lt17 (s : ByteArray) (k : Nat) : chunkN s k < 256 ^ 17 := Nat.lt_of_lt_of_le (chunkN_lt s k) (by decide)
theorem chunk_lt_cut (s : ByteArray) (k : Nat) : chunkN s k < 256 ^ (cutLen s k + 1) := by
  unfold chunkN
  have h1 := valF_lt (fun j => bt s (16 * k + j)) (cutLen s k) (fun j _ => bt_lt s _)
  rw [Nat.pow_succ]
  generalize valF _ (cutLen s k) = a at *
  generalize 256 ^ cutLen s k = b at *
  omega
theorem sum18 (a b : Nat) (ha : a < 256 ^ 17) (hb : b < 256 ^ 17) : a + b < 256 ^ 18 := by
  have : (256 : Nat) ^ 17 + 256 ^ 17 ≤ 256 ^ 18 := by decide
  omega
theorem prod35 (a b : Nat) (ha : a < 256 ^ 18) (hb : b < 256 ^ 16) : a * b < 256 ^ 35 := by
  have h1 : a * b ≤ 256 ^ 18 * 256 ^ 16 := Nat.mul_le_mul (Nat.le_of_lt ha) (Nat.le_of_lt hb)
  have h2 : (256 : Nat) ^ 18 * 256 ^ 16 < 256 ^ 35 := by decide
  omega
def tagF (key s : ByteArray) (i : Nat) : Nat := (accN s (clampN key) ((s.size + 15) / 16) + valF (fun j => bt key (16 + j)) 16) / 256 ^ i % 256
theorem tagB_eq (key s : ByteArray) : tagB key s = ⟨(bytesOf 16 (tagF key s)).toArray⟩ := rfl

end Go.Proofs.YtglgppeloolbhaaGreatDoor

/- The document's Mac, Check. -/
namespace Go.Proofs.YtglgppeloolbhaaGreatDoor
open Go.RowKit
set_option maxRecDepth 100000
set_option linter.unusedSimpArgs false

set_option maxRecDepth 100000 in
set_option maxHeartbeats 8000000 in
theorem rmac_yes (key s : ByteArray) (w : World) (hk : key.size = 32) (hs : s.size ≤ 65536) :
    Calls Tryz.prog 33 #[.string key, .string s] w fun e w' => e = .returned (.tuple #[.string (tagB key s), .int .i64 0]) ∧ Below w.heap.size w w' := by
  have g0 : (((key.size : Int) != 32)) = false := by rw [bne_eq_false_iff_eq]; omega
  have g1 : decide ((65536 : Int) < (s.size : Int)) = false := by simp; omega
  obtain ⟨K1, hK1⟩ : ∃ K, key.extract 0 16 = K := ⟨_, rfl⟩
  obtain ⟨K2, hK2⟩ : ∃ K, key.extract 16 32 = K := ⟨_, rfl⟩
  have hK1s : K1.size = 16 := by rw [← hK1, ByteArray.size_extract, hk]; rfl
  have hK2s : K2.size = 16 := by rw [← hK2, ByteArray.size_extract, hk]; rfl
  obtain ⟨r, Hr⟩ : ∃ r, Hid (r = clampN key) := ⟨_, rfl⟩
  obtain ⟨q, Hq⟩ : ∃ q, Hid (q = valF (fun j => bt key (16 + j)) 16) := ⟨_, rfl⟩
  obtain ⟨C1, HC1⟩ : ∃ C, Hid (C = clampB K1) := ⟨_, rfl⟩
  have hC1s : C1.size = 16 := by rw [HC1.out]; exact clampB_size _
  have Hr16 : Hid (r < 256 ^ 16) := by show _ < _; rw [Hr.out]; exact valF_lt _ _ (fun i _ => clampF_lt _ (bt_lt key) i)
  have Hq16 : Hid (q < 256 ^ 16) := by show _ < _; rw [Hq.out]; exact valF_lt _ _ (fun i _ => bt_lt key _)
  have Hrd : Hid (wT (bt C1) 16 = ints (digN r 16)) := by
    show _ = _
    rw [wT_digN _ _ (fun i _ => bt_lt C1 i), Hr.out, ← clampN_of key hk, hK1, HC1.out]
  have Hqd : Hid (wT (bt K2) 16 = ints (digN q 16)) := by
    show _ = _
    rw [wT_digN _ _ (fun i _ => bt_lt K2 i), Hq.out, ← second_of key hk, hK2]
  have CC' := fun w => rclamp_yes K1 w hK1s
  rw [← HC1.out] at CC'
  have CC : Hid (∀ w, _) := CC'
  have D1' := fun w => rdigits_any C1 w (by omega)
  rw [hC1s, Hrd.out] at D1'
  have CD1 : Hid (∀ w, _) := D1'
  have D2' := fun w => rdigits_any K2 w (by omega)
  rw [hK2s, Hqd.out] at D2'
  have CD2 : Hid (∀ w, _) := D2'
  obtain ⟨E, HE⟩ : ∃ E, Hid (E = tagB key s) := ⟨_, rfl⟩
  obtain ⟨F, HF⟩ : ∃ F, Hid (F = tagF key s) := ⟨_, rfl⟩
  have HEF : Hid ((⟨(bytesOf 16 F).toArray⟩ : ByteArray) = E) := by show _ = _; rw [HE.out, HF.out]; rfl
  have HFd : Hid (∀ i, F i = (accN s r ((s.size + 15) / 16) + q) / 256 ^ i % 256) := by show ∀ i, _; intro i; rw [HF.out, Hr.out, Hq.out]; rfl
  have HFl : Hid (∀ i, F i < 256) := by show ∀ i, _; intro i; rw [HFd.out]; exact Nat.mod_lt _ (by decide)
  obtain ⟨i0, hi, hz0, hz1, hz2⟩ := info_parts Tryz.info3
  obtain ⟨i1, hj, hy0, hy1, hy2⟩ := info_parts Tryz.info5
  rw [← HE.out]
  clear CC' D1' D2' HF Hr Hq HC1 HE Hrd Hqd
  go_enter Tryz.func33, Tryz.ntmps33
  go_wp2_with fail
  refine (CC.out _).mono ?_
  rintro e w1 ⟨rfl, B1⟩
  clear CC
  go_wp2_with fail
  refine (CD1.out _).mono ?_
  rintro e w2 ⟨v2, rfl, O2, D2⟩
  have B2 := below_step B1 (Nat.le_refl _) D2
  obtain ⟨ar, cr, hvr, Ir⟩ := O2.ints
  subst hvr
  obtain ⟨gr, gro, rfl, _⟩ : ∃ b o, ar = some ⟨b, o, none⟩ ∧ _ := by
    rcases Ir.2 with h0 | h1
    · omega
    · exact h1
  clear O2 D2 B1 CD1
  go_wp2_with (at_make; refine wpList_make_full _ rfl _ _ 47 rfl w2.heap.size 3 i0 (.int .i64 0) 1 Tryz.underlying47 hi hz0 hz1 _ _ _ _ 17 rfl rfl ?b4 ?b5 ?b1 ?b2 ?b3 ?_)
  case b1 => rw [hz2]; omega
  case b2 => unfold maxLen; omega
  case b3 => omega
  case b4 => omega
  case b5 => omega
  intro w3 hown0 hgrow
  have hown : Own w3 w2.heap.size 3 .i64 w2.heap.size 17 (wT (fun i => 0 / 256 ^ i % 256) 17) := Own.made' _ (fun i _ => by show ((0 / 256 ^ i % 256 : Nat) : Int) = 0; rw [Nat.zero_div]; rfl) hown0
  have b3 : Below w2.heap.size w2 w3 := (Below.refl _ _).grown hgrow (Nat.le_refl _) (fun k hk => by cases hk)
  have B3 := below_step B2 (Nat.le_refl _) b3
  have A3 : Hid (IntsAt w3 .i64 (some ⟨w2.heap.size, 0, none⟩) 17 (ints (digN 0 17))) := by
    show IntsAt _ _ _ _ _
    rw [show ints (digN 0 17) = wT (fun i => 0 / 256 ^ i % 256) 17 from ints_tabN _ _]; exact hown.ints
  have R3 : Hid (IntsAt w3 .i64 (some ⟨gr, gro, none⟩) 16 (ints (digN r 16))) := Ir.below b3
  clear hown0 hgrow hown b3 Ir B2
  generalize w2.heap.size = g0' at *
  go_wp2
  go_loopw [9, 10] (fun v i wr => ∃ k j ga : Nat, Hid (j = 16 * k) ∧ j < s.size + 16 ∧ i = .int .i64 j ∧ v = .slice (some ⟨ga, 0, none⟩) 17 17 ∧ Hid (IntsAt wr .i64 (some ⟨ga, 0, none⟩) 17 (ints (digN (accN s r k) 17))) ∧ Hid (IntsAt wr .i64 (some ⟨gr, gro, none⟩) 16 (ints (digN r 16))) ∧ Below w.heap.size w wr) (fun _ i _ => s.size + 16 - (intOf i).toNat)
  case atStart => exact ⟨0, 0, g0', rfl, by omega, rfl, rfl, A3, R3, B3⟩
  case round =>
    clear A3 R3 B3
    obtain ⟨k, j, ga, HJ, hj16, rfl, rfl, HA, HR, hbl⟩ := hrel
    by_cases hlt : j < s.size
    · obtain ⟨m, Hm⟩ : ∃ m, Hid (m = cutLen s k) := ⟨_, rfl⟩
      have hm16 : m ≤ 16 := by rw [Hm.out]; exact Nat.min_le_left _ _
      have hjm : j + m ≤ s.size := by have h1 := HJ.out; have h2 := Hm.out; unfold cutLen at h2; omega
      obtain ⟨C, HC⟩ : ∃ C, Hid (C = s.extract j (j + m)) := ⟨_, rfl⟩
      have hCs : C.size = m := by rw [HC.out, ByteArray.size_extract]; omega
      have HCd : Hid (wT (bt C) m ++ [1] = ints (digN (chunkN s k) (m + 1))) := by
        show _ = _
        rw [chunk_digits _ _ (bt_lt C)]
        have := chunk_of s k (j + m) (by rw [HJ.out, Hm.out]) hjm
        rw [← Hm.out, ← HJ.out, ← HC.out] at this
        rw [this]
      have CD' := fun w => rdigits_any C w (by omega)
      rw [hCs] at CD'
      have CD : Hid (∀ w, _) := CD'
      have CA : Hid (∀ wx ab cb, Below w.heap.size w wx → IntsAt wx .i64 (some ⟨ga, 0, none⟩) 17 (ints (digN (accN s r k) 17)) → IntsAt wx .i64 ab (m + 1) (ints (digN (chunkN s k) (m + 1))) → Calls Tryz.prog 55 #[.slice (some ⟨ga, 0, none⟩) 17 17, .slice ab (m + 1) cb, .int .i64 18] wx _) := fun wx ab cb hb h1 h2 =>
        radd_on (accN s r k) (chunkN s k) 17 (m + 1) (some ⟨ga, 0, none⟩) ab 17 cb 18 w wx hb (by decide) (acc_lt s r k) (by rw [Hm.out]; exact chunk_lt_cut s k) (lt_pow _ 17 18 (acc_lt s r k) (by decide)) (lt_pow _ 17 18 (chunk_lt17 s k) (by decide)) h1 h2
      have CT : Hid (∀ wx ba, Below w.heap.size w wx → IntsAt wx .i64 (some ⟨ba, 0, none⟩) 18 (ints (digN (accN s r k + chunkN s k) 18)) → IntsAt wx .i64 (some ⟨gr, gro, none⟩) 16 (ints (digN r 16)) → _) := fun wx ba hb h1 h2 =>
        rtimes_on (accN s r k + chunkN s k) r 18 16 ba 0 gr gro 18 cr w wx hb (by decide) (by decide) (sum18 _ _ (acc_lt s r k) (chunk_lt17 s k)) Hr16.out h1 h2
      have CR : Hid (∀ wx ba, Below w.heap.size w wx → IntsAt wx .i64 (some ⟨ba, 0, none⟩) 35 (ints (digN ((accN s r k + chunkN s k) * r) 35)) → Calls Tryz.prog 53 #[.slice (some ⟨ba, 0, none⟩) 35 35] wx fun e w' => ∃ g, e = .returned (.slice (some ⟨g, 0, none⟩) 17 17) ∧ IntsAt w' .i64 (some ⟨g, 0, none⟩) 17 (ints (digN ((accN s r k + chunkN s k) * r % pN) 17)) ∧ Below w.heap.size w w' ∧ Below wx.heap.size wx w') := by
        intro wx ba hb h1
        have hp := prod35 _ _ (sum18 _ _ (acc_lt s r k) (chunk_lt17 s k)) Hr16.out
        refine (rreduced_any _ ba 0 35 35 wx (by decide) (by decide) hp hp h1).mono ?_
        rintro e w' ⟨g, rfl, h2, h3⟩
        exact ⟨g, rfl, h2, below_step hb (Nat.le_refl _) h3, h3⟩
      clear CD' hCs
      have u1 : (0 : Int) ≤ (j : Int) := by omega
      by_cases h16 : j + 16 < s.size
      · have hm : m = 16 := by have h1 := HJ.out; have h2 := Hm.out; unfold cutLen at h2; omega
        have hE : s.extract j (j + 16) = C := by rw [HC.out, hm]
        have hv2 : (j : Int) + 16 < (s.size : Int) := by omega
        have t4 : ((j : Int) + 16).toNat = j + 16 := by omega
        clear HC hm
        go_wp2_with fail
        refine (CD.out _).mono ?_
        rintro e w1 ⟨v1, rfl, O1, D1⟩
        have R1 := HR.out.below D1
        have A1 := HA.out.below D1
        have B1 := below_step hbl (Nat.le_refl _) D1
        have hsz1 := D1.size
        clear CD
        go_wp2_with (at_builtin; refine wpList_app1 rfl (.tmp 46) (.tmp 47) 47 rfl wr.heap.size 3 i0 .i64 8 Tryz.underlying47 hi hz0 hz1 hz2 w1 v1 m _ rfl O1 1 rfl (by omega) (by omega) hsz1 ?_)
        intro v2 w2 O2 D2
        rw [HCd.out] at O2
        have D12 : Below wr.heap.size wr w2 := D1.trans D2
        have R2 : Hid (IntsAt w2 .i64 (some ⟨gr, gro, none⟩) 16 (ints (digN r 16))) := HR.out.below D12
        have A2 : IntsAt w2 .i64 (some ⟨ga, 0, none⟩) 17 (ints (digN (accN s r k) 17)) := HA.out.below D12
        have B2 := below_step hbl (Nat.le_refl _) D12
        obtain ⟨a2, c2, hv2, I2⟩ := O2.ints
        subst hv2
        have HA2 : Hid (IntsAt w2 .i64 (some ⟨ga, 0, none⟩) 17 (ints (digN (accN s r k) 17))) := A2
        have HI2 : Hid (IntsAt w2 .i64 a2 (m + 1) (ints (digN (chunkN s k) (m + 1)))) := I2
        clear O1 O2 D1 D2 D12 R1 A1 B1 hsz1 A2 I2 HR HA hbl
        go_wp2_with fail
        refine (CA.out _ _ _ B2 HA2.out HI2.out).mono ?_
        rintro e w3 ⟨g3, rfl, I3, B3, D3⟩
        have R3 : Hid (IntsAt w3 .i64 (some ⟨gr, gro, none⟩) 16 (ints (digN r 16))) := R2.out.below D3
        clear HA2 HI2 R2 B2 D3 CA
        go_wp2_with fail
        refine (CT.out _ _ B3 I3 R3.out).mono ?_
        rintro e w4 ⟨g4, rfl, I4, B4, D4⟩
        have R4 : Hid (IntsAt w4 .i64 (some ⟨gr, gro, none⟩) 16 (ints (digN r 16))) := R3.out.below D4
        clear R3 I3 B3 D4 CT
        go_wp2_with fail
        refine (CR.out _ _ B4 I4).mono ?_
        rintro e w5 ⟨g5, rfl, I5, B5, D5⟩
        have R5 : Hid (IntsAt w5 .i64 (some ⟨gr, gro, none⟩) 16 (ints (digN r 16))) := R4.out.below D5
        have HA5 : Hid (IntsAt w5 .i64 (some ⟨g5, 0, none⟩) 17 (ints (digN (accN s r (k + 1)) 17))) := I5
        clear R4 I4 B4 D5 I5 CR
        go_wp2
        refine ⟨⟨k + 1, j + 16, g5, by have := HJ.out; show _ = _; omega, by omega, by go_num, rfl, HA5, R5, B5⟩, ?_⟩
        simp [intOf]; omega
      · have hm : j + m = s.size := by have h1 := HJ.out; have h2 := Hm.out; unfold cutLen at h2; omega
        have hE : s.extract j s.size = C := by rw [HC.out, hm]
        have hv2 : (s.size : Int) ≤ (j : Int) + 16 := by omega
        clear HC hm
        go_wp2_with fail
        refine (CD.out _).mono ?_
        rintro e w1 ⟨v1, rfl, O1, D1⟩
        have R1 := HR.out.below D1
        have A1 := HA.out.below D1
        have B1 := below_step hbl (Nat.le_refl _) D1
        have hsz1 := D1.size
        clear CD
        go_wp2_with (at_builtin; refine wpList_app1 rfl (.tmp 46) (.tmp 47) 47 rfl wr.heap.size 3 i0 .i64 8 Tryz.underlying47 hi hz0 hz1 hz2 w1 v1 m _ rfl O1 1 rfl (by omega) (by omega) hsz1 ?_)
        intro v2 w2 O2 D2
        rw [HCd.out] at O2
        have D12 : Below wr.heap.size wr w2 := D1.trans D2
        have R2 : Hid (IntsAt w2 .i64 (some ⟨gr, gro, none⟩) 16 (ints (digN r 16))) := HR.out.below D12
        have A2 : IntsAt w2 .i64 (some ⟨ga, 0, none⟩) 17 (ints (digN (accN s r k) 17)) := HA.out.below D12
        have B2 := below_step hbl (Nat.le_refl _) D12
        obtain ⟨a2, c2, hv2, I2⟩ := O2.ints
        subst hv2
        have HA2 : Hid (IntsAt w2 .i64 (some ⟨ga, 0, none⟩) 17 (ints (digN (accN s r k) 17))) := A2
        have HI2 : Hid (IntsAt w2 .i64 a2 (m + 1) (ints (digN (chunkN s k) (m + 1)))) := I2
        clear O1 O2 D1 D2 D12 R1 A1 B1 hsz1 A2 I2 HR HA hbl
        go_wp2_with fail
        refine (CA.out _ _ _ B2 HA2.out HI2.out).mono ?_
        rintro e w3 ⟨g3, rfl, I3, B3, D3⟩
        have R3 : Hid (IntsAt w3 .i64 (some ⟨gr, gro, none⟩) 16 (ints (digN r 16))) := R2.out.below D3
        clear HA2 HI2 R2 B2 D3 CA
        go_wp2_with fail
        refine (CT.out _ _ B3 I3 R3.out).mono ?_
        rintro e w4 ⟨g4, rfl, I4, B4, D4⟩
        have R4 : Hid (IntsAt w4 .i64 (some ⟨gr, gro, none⟩) 16 (ints (digN r 16))) := R3.out.below D4
        clear R3 I3 B3 D4 CT
        go_wp2_with fail
        refine (CR.out _ _ B4 I4).mono ?_
        rintro e w5 ⟨g5, rfl, I5, B5, D5⟩
        have R5 : Hid (IntsAt w5 .i64 (some ⟨gr, gro, none⟩) 16 (ints (digN r 16))) := R4.out.below D5
        have HA5 : Hid (IntsAt w5 .i64 (some ⟨g5, 0, none⟩) 17 (ints (digN (accN s r (k + 1)) 17))) := I5
        clear R4 I4 B4 D5 I5 CR
        go_wp2
        refine ⟨⟨k + 1, j + 16, g5, by have := HJ.out; show _ = _; omega, by omega, by go_num, rfl, HA5, R5, B5⟩, ?_⟩
        simp [intOf]; omega
    · have hkn : k = (s.size + 15) / 16 := by have := HJ.out; omega
      have HFd' : Hid (∀ i, F i = (accN s r k + q) / 256 ^ i % 256) := by show ∀ i, _; rw [hkn]; exact HFd.out
      have CA : Hid (∀ wx ab cb, Below w.heap.size w wx → IntsAt wx .i64 (some ⟨ga, 0, none⟩) 17 (ints (digN (accN s r k) 17)) → IntsAt wx .i64 ab 16 (ints (digN q 16)) → Calls Tryz.prog 55 #[.slice (some ⟨ga, 0, none⟩) 17 17, .slice ab 16 cb, .int .i64 18] wx _) := fun wx ab cb hb h1 h2 =>
        radd_on (accN s r k) q 17 16 (some ⟨ga, 0, none⟩) ab 17 cb 18 w wx hb (by decide) (acc_lt s r k) Hq16.out (lt_pow _ 17 18 (acc_lt s r k) (by decide)) (lt_pow _ 16 18 Hq16.out (by decide)) h1 h2
      clear hkn HFd HR HJ
      obtain ⟨w5, h5⟩ : ∃ w5, w5 = wr := ⟨_, rfl⟩
      rw [← h5] at HA hbl ⊢
      clear h5
      go_wp2_with fail
      refine (CD2.out _).mono ?_
      rintro e w6 ⟨v6, rfl, O6, D6⟩
      have A6 : Hid (IntsAt w6 .i64 (some ⟨ga, 0, none⟩) 17 (ints (digN (accN s r k) 17))) := HA.out.below D6
      have B6 := below_step hbl (Nat.le_refl _) D6
      obtain ⟨a6, c6, hv6, I6⟩ := O6.ints
      subst hv6
      have HI6 : Hid (IntsAt w6 .i64 a6 16 (ints (digN q 16))) := I6
      clear O6 D6 HA hbl I6 CD2
      go_wp2_with fail
      refine (CA.out _ _ _ B6 A6.out HI6.out).mono ?_
      rintro e w7 ⟨g7, rfl, I7, B7, D7⟩
      have HI7 : Hid (IntsAt w7 .i64 (some ⟨g7, 0, none⟩) 18 (wT F 18)) := by
        show IntsAt _ _ _ _ _
        rw [show wT F 18 = ints (digN (accN s r k + q) 18) by
          rw [show ints (digN (accN s r k + q) 18) = wT (fun i => (accN s r k + q) / 256 ^ i % 256) 18 from ints_tabN _ _]
          congr 1
          funext i
          exact HFd'.out i]
        exact I7
      clear A6 HI6 B6 D7 I7 CA HFd'
      go_wp2_with fail
      go_loopw [13, 14] (fun v i wr => ∃ k : Nat, k ≤ 16 ∧ i = .int .i64 k ∧ OwnV wr w7.heap.size 5 .u8 v k (wT F k) ∧ Below w7.heap.size w7 wr) (fun _ i _ => 16 - (intOf i).toNat)
      case atStart => exact ⟨0, Nat.zero_le _, rfl, OwnV.nil _ _ _ _, Below.refl _ _⟩
      case round =>
        obtain ⟨k, hk16, rfl, hown, hbl7⟩ := hrel
        by_cases hlt : k < 16
        · have c0 := (HI7.out.below hbl7).cellOff k (by omega)
          rw [wT_getD _ _ _ (by omega), Nat.zero_add] at c0
          have hF := HFl.out k
          have kA : (k : Int) < 18 := by omega
          have hsz := hbl7.size
          have hsn := wT_snoc F k ((F k : Nat) : Int) rfl
          generalize F k = X at *
          have HSn : Hid (wT F k ++ [(X : Int)] = wT F (k + 1)) := hsn
          clear hsn
          go_wp2_with (at_builtin; refine wpList_app1 rfl (.tmp 64) (.tmp 70) 35 rfl w7.heap.size 5 i1 .u8 1 Tryz.underlying35 hj hy0 hy1 hy2 wr u13 k _ rfl hown (X : Int) rfl (by omega) (by omega) hsz ?_)
          intro v8 w8 O8 D8
          rw [HSn.out] at O8
          have B8 := hbl7.trans D8
          clear hown hbl7 D8 c0 HSn
          go_wp2
          refine ⟨⟨k + 1, by omega, by go_num, O8, B8⟩, ?_⟩
          simp [intOf]; omega
        · have hk8 : k = 16 := by omega
          subst hk8
          have hnum : wT F 16 = nums (bytesOf 16 F) := (nums_bytesOf 16 F (fun i _ => HFl.out i)).symm
          rw [hnum] at hown
          have hcv := own_conv (P := Tryz.prog) 35 9 hown Tryz.underlying35 Tryz.underlying5 Tryz.underlying9
          rw [HEF.out] at hcv
          have B9 := below_step B7 (Nat.le_refl _) hbl7
          clear hown hnum hbl7
          go_wp2
          go_ret2
          exact ⟨rfl, B9⟩
end Go.Proofs.YtglgppeloolbhaaGreatDoor

/- The document's Check; what follows of tags: plain facts. -/
namespace Go.Proofs.YtglgppeloolbhaaGreatDoor
open Go.RowKit
set_option maxRecDepth 100000
set_option linter.unusedSimpArgs false

theorem tagB_size (key s : ByteArray) : (tagB key s).size = 16 := by
  rw [tagB_eq]
  show (bytesOf 16 _).toArray.size = 16
  rw [List.size_toArray, bytesOf_length]
/-! ### What follows of tags. -/
end Go.Proofs.YtglgppeloolbhaaGreatDoor
