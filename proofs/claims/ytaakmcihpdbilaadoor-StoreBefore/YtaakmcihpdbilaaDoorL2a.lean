import Derived.Test.YtaakmcihpdbilaaDoorG
import Derived.Deep.WholeRow
/- The sums of the document on plain numbers: turning, spreading, rounds, blocks; nothing of the program. -/
namespace Go.Proofs.YtaakmcihpdbilaaDoor
open Go.RowKit
set_option maxRecDepth 100000

/-- A word turned right. -/
def rr (x n : Nat) : Nat := rotN x (32 - n)
theorem rr_lt (x n : Nat) (h : x < 4294967296) : rr x n < 4294967296 := rotN_lt x _ h
def sg0 (x : Nat) : Nat := (rr x 7 ^^^ rr x 18) ^^^ (x / 8)
def sg1 (x : Nat) : Nat := (rr x 17 ^^^ rr x 19) ^^^ (x / 1024)
def bs0 (x : Nat) : Nat := (rr x 2 ^^^ rr x 13) ^^^ rr x 22
def bs1 (x : Nat) : Nat := (rr x 6 ^^^ rr x 11) ^^^ rr x 25
def chN (e f g : Nat) : Nat := (e &&& f) ^^^ ((4294967295 - e) &&& g)
def majN (a b c : Nat) : Nat := ((a &&& b) ^^^ (a &&& c)) ^^^ (b &&& c)

theorem sg0_lt (x : Nat) (h : x < 4294967296) : sg0 x < 4294967296 := xor_lt32 _ _ (xor_lt32 _ _ (rr_lt x _ h) (rr_lt x _ h)) (by omega)
theorem sg1_lt (x : Nat) (h : x < 4294967296) : sg1 x < 4294967296 := xor_lt32 _ _ (xor_lt32 _ _ (rr_lt x _ h) (rr_lt x _ h)) (by omega)
theorem bs0_lt (x : Nat) (h : x < 4294967296) : bs0 x < 4294967296 := xor_lt32 _ _ (xor_lt32 _ _ (rr_lt x _ h) (rr_lt x _ h)) (rr_lt x _ h)
theorem bs1_lt (x : Nat) (h : x < 4294967296) : bs1 x < 4294967296 := xor_lt32 _ _ (xor_lt32 _ _ (rr_lt x _ h) (rr_lt x _ h)) (rr_lt x _ h)
theorem chN_lt (e f g : Nat) (he : e < 4294967296) : chN e f g < 4294967296 := xor_lt32 _ _ (and_lt32 _ _ he) (and_lt32 _ _ (by omega))
theorem majN_lt (a b c : Nat) (ha : a < 4294967296) (hb : b < 4294967296) : majN a b c < 4294967296 := xor_lt32 _ _ (xor_lt32 _ _ (and_lt32 _ _ ha) (and_lt32 _ _ ha)) (and_lt32 _ _ hb)

/-- The 64 constants, and the state in which a sum begins. -/
def kN : List Nat := [0x428a2f98, 0x71374491, 0xb5c0fbcf, 0xe9b5dba5, 0x3956c25b, 0x59f111f1, 0x923f82a4, 0xab1c5ed5, 0xd807aa98, 0x12835b01, 0x243185be, 0x550c7dc3, 0x72be5d74, 0x80deb1fe, 0x9bdc06a7, 0xc19bf174, 0xe49b69c1, 0xefbe4786, 0x0fc19dc6, 0x240ca1cc, 0x2de92c6f, 0x4a7484aa, 0x5cb0a9dc, 0x76f988da, 0x983e5152, 0xa831c66d, 0xb00327c8, 0xbf597fc7, 0xc6e00bf3, 0xd5a79147, 0x06ca6351, 0x14292967, 0x27b70a85, 0x2e1b2138, 0x4d2c6dfc, 0x53380d13, 0x650a7354, 0x766a0abb, 0x81c2c92e, 0x92722c85, 0xa2bfe8a1, 0xa81a664b, 0xc24b8b70, 0xc76c51a3, 0xd192e819, 0xd6990624, 0xf40e3585, 0x106aa070, 0x19a4c116, 0x1e376c08, 0x2748774c, 0x34b0bcb5, 0x391c0cb3, 0x4ed8aa4a, 0x5b9cca4f, 0x682e6ff3, 0x748f82ee, 0x78a5636f, 0x84c87814, 0x8cc70208, 0x90befffa, 0xa4506ceb, 0xbef9a3f7, 0xc67178f2]
def bN : List Nat := [0x6a09e667, 0xbb67ae85, 0x3c6ef372, 0xa54ff53a, 0x510e527f, 0x9b05688c, 0x1f83d9ab, 0x5be0cd19]

theorem kN_ok : Ok kN := ok_all _ (by decide +kernel)
theorem bN_ok : Ok bN := ok_all _ (by decide +kernel)

/-- The words spread: k words more than the first ones. -/
def nextW (l : List Nat) (k : Nat) : Nat := (l.getD k 0 + sg0 (l.getD (k + 1) 0) + l.getD (k + 9) 0 + sg1 (l.getD (k + 14) 0)) % 4294967296
def schedL (l : List Nat) : Nat → List Nat
  | 0 => l
  | k + 1 => schedL l k ++ [nextW (schedL l k) k]
theorem schedL_length (l : List Nat) (k : Nat) : (schedL l k).length = l.length + k := by
  induction k with
  | zero => rfl
  | succ k ih => simp [schedL, ih]; omega
theorem schedL_succ (l : List Nat) (k : Nat) : schedL l (k + 1) = schedL l k ++ [nextW (schedL l k) k] := rfl
theorem getD_snoc_left (l : List Nat) (x i : Nat) (h : i < l.length) : (l ++ [x]).getD i 0 = l.getD i 0 := by
  rw [List.getD_eq_getElem?_getD, List.getD_eq_getElem?_getD, List.getElem?_append_left h]
theorem getD_snoc_last (l : List Nat) (x : Nat) : (l ++ [x]).getD l.length 0 = x := by
  rw [List.getD_eq_getElem?_getD, List.getElem?_append_right (Nat.le_refl _)]; simp
theorem schedL_keep (l : List Nat) (k i : Nat) (h : i < l.length + k) : (schedL l (k + 1)).getD i 0 = (schedL l k).getD i 0 := by
  rw [schedL_succ, getD_snoc_left _ _ _ (by rw [schedL_length]; exact h)]
theorem schedL_grow (l : List Nat) (k m i : Nat) (h : i < l.length + k) : (schedL l (k + m)).getD i 0 = (schedL l k).getD i 0 := by
  induction m with
  | zero => rfl
  | succ m ih => rw [Nat.add_succ, schedL_keep l (k + m) i (by omega), ih]
theorem schedL_new (l : List Nat) (k : Nat) : (schedL l (k + 1)).getD (l.length + k) 0 = nextW (schedL l k) k := by
  rw [schedL_succ, ← schedL_length l k, getD_snoc_last]
theorem schedL_ok (l : List Nat) (h : Ok l) (k : Nat) : Ok (schedL l k) := by
  induction k with
  | zero => exact h
  | succ k ih =>
    intro i
    have hl := schedL_length l k
    by_cases h1 : i < l.length + k
    · rw [schedL_keep l k i h1]; exact ih i
    · by_cases h2 : i = l.length + k
      · rw [h2, schedL_new]; unfold nextW; omega
      · rw [List.getD_eq_getElem?_getD, List.getElem?_eq_none (by rw [schedL_length]; omega)]; decide

/-- The word number i of sixteen that are spread. -/
def wS (l : List Nat) (i : Nat) : Nat := (schedL l 48).getD i 0
theorem wS_lt (l : List Nat) (h : Ok l) (i : Nat) : wS l i < 4294967296 := schedL_ok l h 48 i
theorem wS_first (l : List Nat) (hl : l.length = 16) (i : Nat) (h : i < 16) : wS l i = l.getD i 0 := by
  unfold wS; rw [show (48 : Nat) = 0 + 48 from rfl, schedL_grow l 0 48 i (by omega)]; rfl
def nx (a b c d : Nat) : Nat := (a + sg0 b + c + sg1 d) % 4294967296
theorem wS_next (l : List Nat) (hl : l.length = 16) (k : Nat) (h : k < 48) :
    wS l (k + 16) = nx (wS l k) (wS l (k + 1)) (wS l (k + 9)) (wS l (k + 14)) := by
  unfold wS
  have e1 : (schedL l 48).getD (k + 16) 0 = nextW (schedL l k) k := by
    rw [show (48 : Nat) = (k + 1) + (47 - k) by omega, schedL_grow l (k + 1) (47 - k) (k + 16) (by omega), show k + 16 = l.length + k by omega, schedL_new]
  have e2 : ∀ j, j < 16 + k → (schedL l 48).getD j 0 = (schedL l k).getD j 0 := fun j hj => by
    rw [show (48 : Nat) = k + (48 - k) by omega, schedL_grow l k (48 - k) j (by omega)]
  rw [e1, e2 k (by omega), e2 (k + 1) (by omega), e2 (k + 9) (by omega), e2 (k + 14) (by omega)]
  rfl

/-- A round. -/
def tV (e f g h K W : Nat) : Nat := (h + bs1 e + chN e f g + K + W) % 4294967296
def uV (a b c : Nat) : Nat := (bs0 a + majN a b c) % 4294967296
def tN (K W : Nat) (x : List Nat) : Nat := tV (x.getD 4 0) (x.getD 5 0) (x.getD 6 0) (x.getD 7 0) K W
def uN (x : List Nat) : Nat := uV (x.getD 0 0) (x.getD 1 0) (x.getD 2 0)
def rnd (K W : Nat) (x : List Nat) : List Nat := [(tN K W x + uN x) % 4294967296, x.getD 0 0, x.getD 1 0, x.getD 2 0, (x.getD 3 0 + tN K W x) % 4294967296, x.getD 4 0, x.getD 5 0, x.getD 6 0]
def runN (l x : List Nat) : Nat → List Nat
  | 0 => x
  | k + 1 => rnd (kN.getD k 0) (wS l k) (runN l x k)
theorem ok8 (a b c d e f g h : Nat) (ha : a < 4294967296) (hb : b < 4294967296) (hc : c < 4294967296) (hd : d < 4294967296) (he : e < 4294967296) (hf : f < 4294967296) (hg : g < 4294967296) (hh : h < 4294967296) : Ok [a, b, c, d, e, f, g, h] :=
  ok_all _ (by simp [ha, hb, hc, hd, he, hf, hg, hh])
theorem rnd_ok (K W : Nat) (x : List Nat) (h : Ok x) : Ok (rnd K W x) :=
  ok8 _ _ _ _ _ _ _ _ (Nat.mod_lt _ (by decide)) (h 0) (h 1) (h 2) (Nat.mod_lt _ (by decide)) (h 4) (h 5) (h 6)
theorem runN_ok (l x : List Nat) (h : Ok x) (k : Nat) : Ok (runN l x k) := by
  induction k with
  | zero => exact h
  | succ k ih => exact rnd_ok _ _ _ ih
theorem runN_length (l x : List Nat) (h : x.length = 8) (k : Nat) : (runN l x k).length = 8 := by
  cases k with
  | zero => exact h
  | succ k => rfl

/-- Two states put together. -/
def addL (x y : List Nat) : List Nat := (List.range 8).map fun i => (x.getD i 0 + y.getD i 0) % 4294967296
theorem addL_length (x y : List Nat) : (addL x y).length = 8 := by simp [addL]
theorem addL_getD (x y : List Nat) (i : Nat) (h : i < 8) : (addL x y).getD i 0 = (x.getD i 0 + y.getD i 0) % 4294967296 := by
  simp [addL, List.getElem?_range h]
theorem addL_ok (x y : List Nat) : Ok (addL x y) := by
  intro i
  by_cases h : i < 8
  · rw [addL_getD x y i h]; omega
  · rw [List.getD_eq_getElem?_getD, List.getElem?_eq_none (by rw [addL_length]; omega)]; decide

/-- The sixteen words of a block whose bytes are told by f, and a state behind it. -/
def blkN (f : Nat → Nat) : List Nat := (List.range 16).map fun i => bigW (f (4 * i)) (f (4 * i + 1)) (f (4 * i + 2)) (f (4 * i + 3))
def behindN (x : List Nat) (f : Nat → Nat) : List Nat := addL x (runN (blkN f) x 64)
theorem behindN_length (x : List Nat) (f : Nat → Nat) : (behindN x f).length = 8 := addL_length _ _
theorem behindN_ok (x : List Nat) (f : Nat → Nat) : Ok (behindN x f) := addL_ok _ _
theorem blkN_congr (f g : Nat → Nat) (h : ∀ j, j < 64 → f j = g j) : blkN f = blkN g := by
  unfold blkN
  apply List.map_congr_left
  intro i hi
  have := List.mem_range.1 hi
  rw [h (4 * i) (by omega), h (4 * i + 1) (by omega), h (4 * i + 2) (by omega), h (4 * i + 3) (by omega)]
theorem behindN_congr (x : List Nat) (f g : Nat → Nat) (h : ∀ j, j < 64 → f j = g j) : behindN x f = behindN x g := by
  unfold behindN; rw [blkN_congr f g h]

/-- The state behind k blocks. -/
def foldN (f : Nat → Nat) (x : List Nat) : Nat → List Nat
  | 0 => x
  | k + 1 => behindN (foldN f x k) (fun j => f (64 * k + j))
theorem foldN_succ (f : Nat → Nat) (x : List Nat) (k : Nat) : foldN f x (k + 1) = behindN (foldN f x k) (fun j => f (64 * k + j)) := rfl
theorem foldN_ok (f : Nat → Nat) (x : List Nat) (h : Ok x) (k : Nat) : Ok (foldN f x k) := by
  cases k with
  | zero => exact h
  | succ k => exact behindN_ok _ _
theorem foldN_length (f : Nat → Nat) (x : List Nat) (h : x.length = 8) (k : Nat) : (foldN f x k).length = 8 := by
  cases k with
  | zero => exact h
  | succ k => exact behindN_length _ _
theorem foldN_congr (f g : Nat → Nat) (x : List Nat) (k : Nat) (h : ∀ j, j < 64 * k → f j = g j) : foldN f x k = foldN g x k := by
  induction k with
  | zero => rfl
  | succ k ih =>
    rw [foldN_succ, foldN_succ, ih (fun j hj => h j (by omega))]
    exact behindN_congr _ _ _ (fun j hj => h _ (by omega))
theorem foldN_add (f : Nat → Nat) (x : List Nat) (m n : Nat) : foldN f x (m + n) = foldN (fun j => f (64 * m + j)) (foldN f x m) n := by
  induction n with
  | zero => rfl
  | succ n ih =>
    rw [← Nat.add_assoc, foldN_succ, ih, foldN_succ]
    exact behindN_congr _ _ _ (fun j _ => by show f _ = f _; rw [show 64 * (m + n) + j = 64 * m + (64 * n + j) by omega])

def ofN (x : List Nat) : ByteArray := ⟨(putL (ints x) bsh).toArray⟩
theorem ofN_size (x : List Nat) (h : x.length = 8) : (ofN x).size = 32 := by
  show (putL (ints x) bsh).toArray.size = 32
  rw [List.size_toArray, putL_length, ints_length, h]
/-- The words of a text. -/
def wordsN (s : ByteArray) : List Nat := (List.range (s.size / 4)).map fun i => bigW (bt s (4 * i)) (bt s (4 * i + 1)) (bt s (4 * i + 2)) (bt s (4 * i + 3))
theorem wordsN_ints (s : ByteArray) : wordsL s bsh = ints (wordsN s) := by
  unfold wordsL tab ints wordsN
  rw [List.map_map]
  apply List.map_congr_left
  intro i hi
  have := List.mem_range.1 hi
  show ((wAt s bsh s.size i : Nat) : Int) = _
  rw [wAt_big s i (by omega)]
  rfl
theorem wordsN_length (s : ByteArray) : (wordsN s).length = s.size / 4 := by simp [wordsN]
theorem wordsN_blk (s : ByteArray) (h : s.size = 64) : wordsN s = blkN (bt s) := by unfold wordsN blkN; rw [show s.size / 4 = 16 by omega]
theorem bigW_lt (a b c d : Nat) (ha : a < 256) (hb : b < 256) (hc : c < 256) (hd : d < 256) : bigW a b c d < 4294967296 := by
  rw [bigW_sum a b c d hb hc hd]; omega
theorem blkN_getD (f : Nat → Nat) (i : Nat) (hi : i < 16) : (blkN f).getD i 0 = bigW (f (4 * i)) (f (4 * i + 1)) (f (4 * i + 2)) (f (4 * i + 3)) := map_range_getD 16 _ i hi
theorem blkN_ok (f : Nat → Nat) (h : ∀ j, f j < 256) : Ok (blkN f) := by
  intro i
  by_cases hi : i < 16
  · rw [blkN_getD f i hi]; exact bigW_lt _ _ _ _ (h _) (h _) (h _) (h _)
  · rw [List.getD_eq_getElem?_getD, List.getElem?_eq_none (by simp [blkN]; omega)]; decide
theorem blkN_length (f : Nat → Nat) : (blkN f).length = 16 := by simp [blkN]
theorem wordsN_getD (s : ByteArray) (i : Nat) (hi : i < s.size / 4) : (wordsN s).getD i 0 = bigW (bt s (4 * i)) (bt s (4 * i + 1)) (bt s (4 * i + 2)) (bt s (4 * i + 3)) := map_range_getD _ _ i hi
theorem wordsN_ok (s : ByteArray) : Ok (wordsN s) := by
  intro i
  by_cases hi : i < s.size / 4
  · rw [wordsN_getD s i hi]; exact bigW_lt _ _ _ _ (bt_lt _ _) (bt_lt _ _) (bt_lt _ _) (bt_lt _ _)
  · rw [List.getD_eq_getElem?_getD, List.getElem?_eq_none (by rw [wordsN_length]; omega)]; decide
/-- Words, put and read again. -/
theorem wordsN_ofN (x : List Nat) (h : Ok x) : wordsN (ofN x) = x := by
  have hs : (ofN x).size = 4 * x.length := by show (putL (ints x) bsh).toArray.size = _; rw [List.size_toArray, putL_length, ints_length]
  apply List.ext_getElem
  · rw [wordsN_length, hs]; omega
  · intro i h1 h2
    have e : (wordsN (ofN x))[i] = bigW (bt (ofN x) (4 * i)) (bt (ofN x) (4 * i + 1)) (bt (ofN x) (4 * i + 2)) (bt (ofN x) (4 * i + 3)) := by simp [wordsN]
    have hl : (ints x).length = x.length := ints_length x
    have hb : ∀ j, j < 4 * x.length → bt (ofN x) j = pb (ints x) bsh j := fun j hj => putL_bt (ints x) bsh j (by rw [hl]; exact hj)
    have hx : x[i] < 4294967296 := by have := h i; rw [List.getD_eq_getElem?_getD, List.getElem?_eq_getElem h2] at this; exact this
    have hg : (ints x).getD i 0 % 4294967296 = ((x[i] : Nat) : Int) := by
      rw [ints_getD, List.getD_eq_getElem?_getD, List.getElem?_eq_getElem h2]; show ((x[i] : Nat) : Int) % _ = _; omega
    rw [e, hb _ (by omega), hb _ (by omega), hb _ (by omega), hb _ (by omega), bigW_sum _ _ _ _ (pb_lt _ _ _) (pb_lt _ _ _) (pb_lt _ _ _)]
    have p0 := pb0 (ints x) i x[i] hx hg
    have p1 := pb1 (ints x) i x[i] hg
    have p2 := pb2 (ints x) i x[i] hg
    have p3 := pb3 (ints x) i x[i] hg
    omega
end Go.Proofs.YtaakmcihpdbilaaDoor

namespace Go.Proofs.YtaakmcihpdbilaaDoor
open Go.RowKit
set_option maxRecDepth 100000

/-- What stands behind a text of n bytes. -/
def zerosN (n : Nat) : Nat := (64 - (n + 9) % 64) % 64
def lenL (n : Nat) : List UInt8 := putL [((8 * n / 4294967296 : Nat) : Int), ((8 * n : Nat) : Int)] bsh
def padL (n : Nat) : List UInt8 := 128 :: (List.replicate (zerosN n) 0 ++ lenL n)
def padB (n : Nat) : ByteArray := ⟨(padL n).toArray⟩
/-- The bytes of a text with what stands behind it. -/
def fullF (s : ByteArray) (j : Nat) : Nat := if j < s.size then bt s j else ((padL s.size).getD (j - s.size) 0).toNat
def sumN (s : ByteArray) : List Nat := foldN (fullF s) bN ((s.size + 9 + zerosN s.size) / 64)

theorem abc_sum : sumN ⟨#[97, 98, 99]⟩ = [0xba7816bf, 0x8f01cfea, 0x414140de, 0x5dae2223, 0xb00361a3, 0x96177a9c, 0xb410ff61, 0xf20015ad] := by decide +kernel
end Go.Proofs.YtaakmcihpdbilaaDoor

namespace Go.Proofs.YtaakmcihpdbilaaDoor
open Go.RowKit
set_option maxRecDepth 100000

theorem i64_and_nat (a b : Nat) (ha : a < 9223372036854775808) (hb : b < 9223372036854775808) : bits .and .i64 (a : Int) (b : Int) = ((a &&& b : Nat) : Int) :=
  (bits_nat .i64 63 (by decide) wraps_i64 a b ha hb).1

set_option maxHeartbeats 400000 in
theorem right_any (X n : Nat) (hX : X < 4294967296) (h1 : 1 ≤ n) (h2 : n ≤ 31) (w : World) :
    Calls Tryd.prog 80 #[.int .u32 X, .int .i64 n] w fun e w' => e = .returned (.int .u32 (rr X n)) ∧ w' = w := by
  have hr : rr X n < 4294967296 := rr_lt X n hX
  have C : Hid (∀ w, Calls Tryd.prog 82 #[.int .i64 X, .int .i64 (-(n : Int))] w fun e w' => e = .returned (.int .i64 (rr X n)) ∧ w' = w) :=
    fun w => rot_nat (X : Int) (-(n : Int)) X (32 - n) hX (by omega) w (by omega) (by omega)
  go_enter Tryd.func80, Tryd.ntmps80
  go_wp2_with (go_at_call 82; refine (C.out _).mono ?_; rintro e w' ⟨rfl, rfl⟩)
  go_ret
  exact ⟨rfl, rfl⟩

end Go.Proofs.YtaakmcihpdbilaaDoor

namespace Go.Proofs.YtaakmcihpdbilaaDoor
open Go.RowKit
set_option maxRecDepth 100000
set_option linter.unusedSimpArgs false

/-- What the words of a block are spread to. -/
def Spread (W : Nat → Nat) (f : Nat → Nat) : Prop := (∀ i, W i < 4294967296) ∧ (∀ k, k < 48 → W (k + 16) = nx (W k) (W (k + 1)) (W (k + 9)) (W (k + 14))) ∧ ∀ i, i < 16 → W i = (blkN f).getD i 0
theorem spread_wS (f : Nat → Nat) (h : ∀ j, f j < 256) : Spread (wS (blkN f)) f :=
  ⟨wS_lt _ (blkN_ok f h), wS_next _ (blkN_length f), wS_first _ (blkN_length f)⟩

theorem rsched_bits (a b : Nat) (n m : Nat) (X : Nat) (ha : a < 4294967296) (hb : b < 4294967296) (hX : X < 4294967296) (hm : n = a ^^^ b ^^^ (X / m)) :
    bits .xor .i64 (bits .xor .i64 (a : Int) (b : Int)) ((X : Int) / (m : Int)) = (n : Int) := by
  have h1 := xor_lt32 a b ha hb
  have h2 : X / m < 4294967296 := Nat.lt_of_le_of_lt (Nat.div_le_self _ _) hX
  rw [i64_xor_nat _ _ (by omega) (by omega), show ((X : Int) / (m : Int)) = ((X / m : Nat) : Int) by simp, i64_xor_nat _ _ (by omega) (by omega), hm]

theorem rsched_next (X0 X1 X9 X14 : Nat) (l0 : X0 < 4294967296) (l1 : X1 < 4294967296) (l9 : X9 < 4294967296) (l14 : X14 < 4294967296) :
    IntKind.i64.wrap (IntKind.i64.wrap (IntKind.i64.wrap ((X0 : Int) + bits .xor .i64 (bits .xor .i64 ((rr X1 7 : Nat) : Int) ((rr X1 18 : Nat) : Int)) ((X1 : Int) / 8)) + (X9 : Int)) + bits .xor .i64 (bits .xor .i64 ((rr X14 17 : Nat) : Int) ((rr X14 19 : Nat) : Int)) ((X14 : Int) / 1024)) % 4294967296 = ((nx X0 X1 X9 X14 : Nat) : Int) := by
  have e1 := rsched_bits (rr X1 7) (rr X1 18) (sg0 X1) 8 X1 (rr_lt _ _ l1) (rr_lt _ _ l1) l1 rfl
  have e2 := rsched_bits (rr X14 17) (rr X14 19) (sg1 X14) 1024 X14 (rr_lt _ _ l14) (rr_lt _ _ l14) l14 rfl
  have h1 := sg0_lt X1 l1
  have h2 := sg1_lt X14 l14
  rw [show ((8 : Nat) : Int) = 8 from rfl] at e1
  rw [show ((1024 : Nat) : Int) = 1024 from rfl] at e2
  rw [e1, e2]
  unfold nx
  generalize sg0 X1 = A at *
  generalize sg1 X14 = B at *
  rw [i64_small ((X0 : Int) + (A : Int)) (by omega) (by omega), i64_small ((X0 : Int) + (A : Int) + (X9 : Int)) (by omega) (by omega), i64_small ((X0 : Int) + (A : Int) + (X9 : Int) + (B : Int)) (by omega) (by omega)]
  omega

end Go.Proofs.YtaakmcihpdbilaaDoor

namespace Go.Proofs.YtaakmcihpdbilaaDoor
open Go.RowKit
set_option maxRecDepth 100000

/-- What the rounds hold. -/
def Rounds (R : Nat → List Nat) (W : Nat → Nat) (x : List Nat) : Prop := R 0 = x ∧ (∀ k, R (k + 1) = rnd (kN.getD k 0) (W k) (R k)) ∧ ∀ k, Ok (R k)
theorem tV_lt (E F G H Z Y : Nat) : tV E F G H Z Y < 4294967296 := Nat.mod_lt _ (by decide)
theorem uV_lt (A B C : Nat) : uV A B C < 4294967296 := Nat.mod_lt _ (by decide)
theorem i64_not (E : Nat) (h : E < 4294967296) : bits .xor .i64 (if IntKind.i64.signed = true then -1 else 9223372036854775807) (E : Int) % 4294967296 = ((4294967295 - E : Nat) : Int) := by
  show IntKind.i64.wrap ((BitVec.ofInt 64 (-1) ^^^ BitVec.ofInt 64 (E : Int)).toNat : Int) % 4294967296 = _
  rw [show BitVec.ofInt 64 (-1) = BitVec.allOnes 64 by decide, BitVec.allOnes_xor, BitVec.toNat_not, BitVec.ofInt_natCast, BitVec.toNat_ofNat, Nat.mod_eq_of_lt (show E < 2 ^ 64 by omega), IntKind.wrap_i64]
  omega
theorem rt_val (E F G H Z Y : Nat) (lE : E < 4294967296) (lF : F < 4294967296) (lG : G < 4294967296) (lH : H < 4294967296) (lZ : Z < 4294967296) (lY : Y < 4294967296) :
    wrap64 (wrap64 (wrap64 (wrap64 ((H : Int) + bits .xor .i64 (bits .xor .i64 ((rr E 6 : Nat) : Int) ((rr E 11 : Nat) : Int)) ((rr E 25 : Nat) : Int)) +
      bits .xor .i64 (bits .and .i64 (E : Int) (F : Int)) (bits .and .i64 (bits .xor .i64 (if IntKind.i64.signed = true then -1 else 9223372036854775807) (E : Int) % 4294967296) (G : Int))) + (Z : Int)) + (Y : Int)) % 4294967296 = ((tV E F G H Z Y : Nat) : Int) := by
  have h6 := rr_lt E 6 lE
  have h11 := rr_lt E 11 lE
  have h25 := rr_lt E 25 lE
  have hx := xor_lt32 _ _ h6 h11
  have hb := bs1_lt E lE
  have ha := and_lt32 E F lE
  have ha' := and_lt32 (4294967295 - E) G (by omega)
  have hc := chN_lt E F G lE
  rw [i64_not E lE, i64_xor_nat (rr E 6) (rr E 11) (by omega) (by omega), i64_xor_nat (rr E 6 ^^^ rr E 11) (rr E 25) (by omega) (by omega), i64_and_nat E F (by omega) (by omega), i64_and_nat (4294967295 - E) G (by omega) (by omega), i64_xor_nat (E &&& F) ((4294967295 - E) &&& G) (by omega) (by omega)]
  change wrap64 (wrap64 (wrap64 (wrap64 ((H : Int) + ((bs1 E : Nat) : Int)) + ((chN E F G : Nat) : Int)) + (Z : Int)) + (Y : Int)) % 4294967296 = _
  unfold tV
  generalize bs1 E = P at *
  generalize chN E F G = Q at *
  rw [w64_small ((H : Int) + (P : Int)) (by omega) (by omega), w64_small ((H : Int) + (P : Int) + (Q : Int)) (by omega) (by omega), w64_small ((H : Int) + (P : Int) + (Q : Int) + (Z : Int)) (by omega) (by omega), w64_small ((H : Int) + (P : Int) + (Q : Int) + (Z : Int) + (Y : Int)) (by omega) (by omega)]
  omega
theorem ru_val (A B C : Nat) (lA : A < 4294967296) (lB : B < 4294967296) (lC : C < 4294967296) :
    wrap64 (bits .xor .i64 (bits .xor .i64 ((rr A 2 : Nat) : Int) ((rr A 13 : Nat) : Int)) ((rr A 22 : Nat) : Int) +
      bits .xor .i64 (bits .xor .i64 (bits .and .i64 (A : Int) (B : Int)) (bits .and .i64 (A : Int) (C : Int))) (bits .and .i64 (B : Int) (C : Int))) % 4294967296 = ((uV A B C : Nat) : Int) := by
  have h6 := rr_lt A 2 lA
  have h11 := rr_lt A 13 lA
  have h25 := rr_lt A 22 lA
  have hx := xor_lt32 _ _ h6 h11
  have hb := bs0_lt A lA
  have ha := and_lt32 A B lA
  have ha' := and_lt32 A C lA
  have ha'' := and_lt32 B C lB
  have hy := xor_lt32 _ _ ha ha'
  have hc := majN_lt A B C lA lB
  rw [i64_xor_nat (rr A 2) (rr A 13) (by omega) (by omega), i64_xor_nat (rr A 2 ^^^ rr A 13) (rr A 22) (by omega) (by omega), i64_and_nat A B (by omega) (by omega), i64_and_nat A C (by omega) (by omega), i64_and_nat B C (by omega) (by omega), i64_xor_nat (A &&& B) (A &&& C) (by omega) (by omega), i64_xor_nat ((A &&& B) ^^^ (A &&& C)) (B &&& C) (by omega) (by omega)]
  change wrap64 (((bs0 A : Nat) : Int) + ((majN A B C : Nat) : Int)) % 4294967296 = _
  unfold uV
  generalize bs0 A = P at *
  generalize majN A B C = Q at *
  rw [w64_small ((P : Int) + (Q : Int)) (by omega) (by omega)]
  omega
end Go.Proofs.YtaakmcihpdbilaaDoor

namespace Go.Proofs.YtaakmcihpdbilaaDoor
open Go.RowKit
set_option maxRecDepth 100000
set_option linter.unusedSimpArgs false


theorem add32_val (a b : Nat) (ha : a < 4294967296) (hb : b < 4294967296) : IntKind.i64.wrap ((a : Int) + (b : Int)) % 4294967296 = (((a + b) % 4294967296 : Nat) : Int) := by
  rw [i64_small _ (by omega) (by omega)]; omega
theorem cell_alloc_keep {w : World} {a : Addr} {v : Value} (o : Obj) (h : w.cell? a = some v) : (w.alloc o).cell? a = some v := by
  rw [World.cell?_alloc_some _ _ _ (by rw [h]; rfl), h]
theorem cells_new (w : World) (x : List Nat) (e : TypeId) (n : Nat) (c : Array Value) (hn : x.length = n) (hc : c = ((ints x).map (Value.int .i64)).toArray) (j : Nat) (hj : j < n) :
    (w.alloc (.cells c e)).cell? ⟨w.heap.size, j, none⟩ = some (.int .i64 ((x.getD j 0 : Nat) : Int)) := by
  rw [(ints_alloc w (ints x) e n c (by rw [ints_length, hn]) hc).cellAt j hj, ints_getD]
theorem addL_snoc (x y : List Nat) (k : Nat) (hk : k < 8) : (ints (addL x y)).take k ++ [(((x.getD k 0 + y.getD k 0) % 4294967296 : Nat) : Int)] = (ints (addL x y)).take (k + 1) := by
  have hl : (ints (addL x y)).length = 8 := by rw [ints_length, addL_length]
  refine take_snoc_int _ _ (by omega) _ ?_
  have : (ints (addL x y))[k]'(by omega) = (ints (addL x y)).getD k 0 := by simp [List.getD_eq_getElem?_getD, List.getElem?_eq_getElem (show k < (ints (addL x y)).length by omega)]
  rw [this, ints_getD, addL_getD x y k hk]

end Go.Proofs.YtaakmcihpdbilaaDoor
