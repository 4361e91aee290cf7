import Derived.Test.YtglgppeloolbhaaGreatDoorG
import Derived.Deep.WholeRow
/- The sums of the document on plain numbers: turning, spreading, rounds, blocks; nothing of the program. -/
namespace Go.Proofs.YtglgppeloolbhaaGreatDoor
open Go.RowKit
set_option maxRecDepth 100000

/-- A word turned right. -/
def rr (x n : Nat) : Nat := rotN x (32 - n)
theorem rr_lt (x n : Nat) (h : x < 4294967296) : rr x n < 4294967296 := rotN_lt x _ h
def sg0 (x : Nat) : Nat := (rr x 7 ^^^ rr x 18) ^^^ (x / 8)
def sg1 (x : Nat) : Nat := (rr x 17 ^^^ rr x 19) ^^^ (x / 1024)
def bs0 (x : Nat) : Nat := (rr x 2 ^^^ rr x 13) ^^^ rr x 22
def bs1 (x : Nat) : Nat := (rr x 6 ^^^ rr x 11) ^^^ rr x 25
def chN (e f g : Nat) : Nat := (e &&& f) ^^^ ((4294967295 - e) &&& g)
def majN (a b c : Nat) : Nat := ((a &&& b) ^^^ (a &&& c)) ^^^ (b &&& c)

theorem sg0_lt (x : Nat) (h : x < 4294967296) : sg0 x < 4294967296 := xor_lt32 _ _ (xor_lt32 _ _ (rr_lt x _ h) (rr_lt x _ h)) (by omega)
theorem sg1_lt (x : Nat) (h : x < 4294967296) : sg1 x < 4294967296 := xor_lt32 _ _ (xor_lt32 _ _ (rr_lt x _ h) (rr_lt x _ h)) (by omega)
theorem bs0_lt (x : Nat) (h : x < 4294967296) : bs0 x < 4294967296 := xor_lt32 _ _ (xor_lt32 _ _ (rr_lt x _ h) (rr_lt x _ h)) (rr_lt x _ h)
theorem bs1_lt (x : Nat) (h : x < 4294967296) : bs1 x < 4294967296 := xor_lt32 _ _ (xor_lt32 _ _ (rr_lt x _ h) (rr_lt x _ h)) (rr_lt x _ h)
theorem chN_lt (e f g : Nat) (he : e < 4294967296) : chN e f g < 4294967296 := xor_lt32 _ _ (and_lt32 _ _ he) (and_lt32 _ _ (by omega))
theorem majN_lt (a b c : Nat) (ha : a < 4294967296) (hb : b < 4294967296) : majN a b c < 4294967296 := xor_lt32 _ _ (xor_lt32 _ _ (and_lt32 _ _ ha) (and_lt32 _ _ ha)) (and_lt32 _ _ hb)

/-- The 64 constants, and the state in which a sum begins. -/
def kN : List Nat := [0x428a2f98, 0x71374491, 0xb5c0fbcf, 0xe9b5dba5, 0x3956c25b, 0x59f111f1, 0x923f82a4, 0xab1c5ed5, 0xd807aa98, 0x12835b01, 0x243185be, 0x550c7dc3, 0x72be5d74, 0x80deb1fe, 0x9bdc06a7, 0xc19bf174, 0xe49b69c1, 0xefbe4786, 0x0fc19dc6, 0x240ca1cc, 0x2de92c6f, 0x4a7484aa, 0x5cb0a9dc, 0x76f988da, 0x983e5152, 0xa831c66d, 0xb00327c8, 0xbf597fc7, 0xc6e00bf3, 0xd5a79147, 0x06ca6351, 0x14292967, 0x27b70a85, 0x2e1b2138, 0x4d2c6dfc, 0x53380d13, 0x650a7354, 0x766a0abb, 0x81c2c92e, 0x92722c85, 0xa2bfe8a1, 0xa81a664b, 0xc24b8b70, 0xc76c51a3, 0xd192e819, 0xd6990624, 0xf40e3585, 0x106aa070, 0x19a4c116, 0x1e376c08, 0x2748774c, 0x34b0bcb5, 0x391c0cb3, 0x4ed8aa4a, 0x5b9cca4f, 0x682e6ff3, 0x748f82ee, 0x78a5636f, 0x84c87814, 0x8cc70208, 0x90befffa, 0xa4506ceb, 0xbef9a3f7, 0xc67178f2]
def bN : List Nat := [0x6a09e667, 0xbb67ae85, 0x3c6ef372, 0xa54ff53a, 0x510e527f, 0x9b05688c, 0x1f83d9ab, 0x5be0cd19]

theorem kN_ok : Ok kN := ok_all _ (by decide +kernel)
theorem bN_ok : Ok bN := ok_all _ (by decide +kernel)

/-- The words spread: k words more than the first ones. -/
def nextW (l : List Nat) (k : Nat) : Nat := (l.getD k 0 + sg0 (l.getD (k + 1) 0) + l.getD (k + 9) 0 + sg1 (l.getD (k + 14) 0)) % 4294967296
def schedL (l : List Nat) : Nat → List Nat
  | 0 => l
  | k + 1 => schedL l k ++ [nextW (schedL l k) k]
theorem schedL_length (l : List Nat) (k : Nat) : (schedL l k).length = l.length + k := by
  induction k with
  | zero => rfl
  | succ k ih => simp [schedL, ih]; omega
theorem schedL_succ (l : List Nat) (k : Nat) : schedL l (k + 1) = schedL l k ++ [nextW (schedL l k) k] := rfl
theorem getD_snoc_left (l : List Nat) (x i : Nat) (h : i < l.length) : (l ++ [x]).getD i 0 = l.getD i 0 := by
  rw [List.getD_eq_getElem?_getD, List.getD_eq_getElem?_getD, List.getElem?_append_left h]
theorem getD_snoc_last (l : List Nat) (x : Nat) : (l ++ [x]).getD l.length 0 = x := by
  rw [List.getD_eq_getElem?_getD, List.getElem?_append_right (Nat.le_refl _)]; simp
theorem schedL_keep (l : List Nat) (k i : Nat) (h : i < l.length + k) : (schedL l (k + 1)).getD i 0 = (schedL l k).getD i 0 := by
  rw [schedL_succ, getD_snoc_left _ _ _ (by rw [schedL_length]; exact h)]
theorem schedL_grow (l : List Nat) (k m i : Nat) (h : i < l.length + k) : (schedL l (k + m)).getD i 0 = (schedL l k).getD i 0 := by
  induction m with
  | zero => rfl
  | succ m ih => rw [Nat.add_succ, schedL_keep l (k + m) i (by omega), ih]
theorem schedL_new (l : List Nat) (k : Nat) : (schedL l (k + 1)).getD (l.length + k) 0 = nextW (schedL l k) k := by
  rw [schedL_succ, ← schedL_length l k, getD_snoc_last]
theorem schedL_ok (l : List Nat) (h : Ok l) (k : Nat) : Ok (schedL l k) := by
  induction k with
  | zero => exact h
  | succ k ih =>
    intro i
    have hl := schedL_length l k
    by_cases h1 : i < l.length + k
    · rw [schedL_keep l k i h1]; exact ih i
    · by_cases h2 : i = l.length + k
      · rw [h2, schedL_new]; unfold nextW; omega
      · rw [List.getD_eq_getElem?_getD, List.getElem?_eq_none (by rw [schedL_length]; omega)]; decide

/-- The word number i of sixteen that are spread. -/
def wS (l : List Nat) (i : Nat) : Nat := (schedL l 48).getD i 0
theorem wS_lt (l : List Nat) (h : Ok l) (i : Nat) : wS l i < 4294967296 := schedL_ok l h 48 i
theorem wS_first (l : List Nat) (hl : l.length = 16) (i : Nat) (h : i < 16) : wS l i = l.getD i 0 := by
  unfold wS; rw [show (48 : Nat) = 0 + 48 from rfl, schedL_grow l 0 48 i (by omega)]; rfl
def nx (a b c d : Nat) : Nat := (a + sg0 b + c + sg1 d) % 4294967296
theorem wS_next (l : List Nat) (hl : l.length = 16) (k : Nat) (h : k < 48) :
    wS l (k + 16) = nx (wS l k) (wS l (k + 1)) (wS l (k + 9)) (wS l (k + 14)) := by
  unfold wS
  have e1 : (schedL l 48).getD (k + 16) 0 = nextW (schedL l k) k := by
    rw [show (48 : Nat) = (k + 1) + (47 - k) by omega, schedL_grow l (k + 1) (47 - k) (k + 16) (by omega), show k + 16 = l.length + k by omega, schedL_new]
  have e2 : ∀ j, j < 16 + k → (schedL l 48).getD j 0 = (schedL l k).getD j 0 := fun j hj => by
    rw [show (48 : Nat) = k + (48 - k) by omega, schedL_grow l k (48 - k) j (by omega)]
  rw [e1, e2 k (by omega), e2 (k + 1) (by omega), e2 (k + 9) (by omega), e2 (k + 14) (by omega)]
  rfl

/-- A round. -/
def tV (e f g h K W : Nat) : Nat := (h + bs1 e + chN e f g + K + W) % 4294967296
def uV (a b c : Nat) : Nat := (bs0 a + majN a b c) % 4294967296
def tN (K W : Nat) (x : List Nat) : Nat := tV (x.getD 4 0) (x.getD 5 0) (x.getD 6 0) (x.getD 7 0) K W
def uN (x : List Nat) : Nat := uV (x.getD 0 0) (x.getD 1 0) (x.getD 2 0)
def rnd (K W : Nat) (x : List Nat) : List Nat := [(tN K W x + uN x) % 4294967296, x.getD 0 0, x.getD 1 0, x.getD 2 0, (x.getD 3 0 + tN K W x) % 4294967296, x.getD 4 0, x.getD 5 0, x.getD 6 0]
def runN (l x : List Nat) : Nat → List Nat
  | 0 => x
  | k + 1 => rnd (kN.getD k 0) (wS l k) (runN l x k)
theorem ok8 (a b c d e f g h : Nat) (ha : a < 4294967296) (hb : b < 4294967296) (hc : c < 4294967296) (hd : d < 4294967296) (he : e < 4294967296) (hf : f < 4294967296) (hg : g < 4294967296) (hh : h < 4294967296) : Ok [a, b, c, d, e, f, g, h] :=
  ok_all _ (by simp [ha, hb, hc, hd, he, hf, hg, hh])
theorem rnd_ok (K W : Nat) (x : List Nat) (h : Ok x) : Ok (rnd K W x) :=
  ok8 _ _ _ _ _ _ _ _ (Nat.mod_lt _ (by decide)) (h 0) (h 1) (h 2) (Nat.mod_lt _ (by decide)) (h 4) (h 5) (h 6)
theorem runN_ok (l x : List Nat) (h : Ok x) (k : Nat) : Ok (runN l x k) := by
  induction k with
  | zero => exact h
  | succ k ih => exact rnd_ok _ _ _ ih
theorem runN_length (l x : List Nat) (h : x.length = 8) (k : Nat) : (runN l x k).length = 8 := by
  cases k with
  | zero => exact h
  | succ k => rfl

/-- Two states put together. -/
def addL (x y : List Nat) : List Nat := (List.range 8).map fun i => (x.getD i 0 + y.getD i 0) % 4294967296
theorem addL_length (x y : List Nat) : (addL x y).length = 8 := by simp [addL]
theorem addL_getD (x y : List Nat) (i : Nat) (h : i < 8) : (addL x y).getD i 0 = (x.getD i 0 + y.getD i 0) % 4294967296 := by
  simp [addL, List.getElem?_range h]
theorem addL_ok (x y : List Nat) : Ok (addL x y) := by
  intro i
  by_cases h : i < 8
  · rw [addL_getD x y i h]; omega
  · rw [List.getD_eq_getElem?_getD, List.getElem?_eq_none (by rw [addL_length]; omega)]; decide

/-- The sixteen words of a block whose bytes are told by f, and a state behind it. -/
def blkN (f : Nat → Nat) : List Nat := (List.range 16).map fun i => bigW (f (4 * i)) (f (4 * i + 1)) (f (4 * i + 2)) (f (4 * i + 3))
def behindN (x : List Nat) (f : Nat → Nat) : List Nat := addL x (runN (blkN f) x 64)
theorem behindN_length (x : List Nat) (f : Nat → Nat) : (behindN x f).length = 8 := addL_length _ _
theorem behindN_ok (x : List Nat) (f : Nat → Nat) : Ok (behindN x f) := addL_ok _ _
theorem blkN_congr (f g : Nat → Nat) (h : ∀ j, j < 64 → f j = g j) : blkN f = blkN g := by
  unfold blkN
  apply List.map_congr_left
  intro i hi
  have := List.mem_range.1 hi
  rw [h (4 * i) (by omega), h (4 * i + 1) (by omega), h (4 * i + 2) (by omega), h (4 * i + 3) (by omega)]
theorem behindN_congr (x : List Nat) (f g : Nat → Nat) (h : ∀ j, j < 64 → f j = g j) : behindN x f = behindN x g := by
  unfold behindN; rw [blkN_congr f g h]

/-- The state behind k blocks. -/
def foldN (f : Nat → Nat) (x : List Nat) : Nat → List Nat
  | 0 => x
  | k + 1 => behindN (foldN f x k) (fun j => f (64 * k + j))
theorem foldN_succ (f : Nat → Nat) (x : List Nat) (k : Nat) : foldN f x (k + 1) = behindN (foldN f x k) (fun j => f (64 * k + j)) := rfl
theorem foldN_ok (f : Nat → Nat) (x : List Nat) (h : Ok x) (k : Nat) : Ok (foldN f x k) := by
  cases k with
  | zero => exact h
  | succ k => exact behindN_ok _ _
theorem foldN_length (f : Nat → Nat) (x : List Nat) (h : x.length = 8) (k : Nat) : (foldN f x k).length = 8 := by
  cases k with
  | zero => exact h
  | succ k => exact behindN_length _ _
theorem foldN_congr (f g : Nat → Nat) (x : List Nat) (k : Nat) (h : ∀ j, j < 64 * k → f j = g j) : foldN f x k = foldN g x k := by
  induction k with
  | zero => rfl
  | succ k ih =>
    rw [foldN_succ, foldN_succ, ih (fun j hj => h j (by omega))]
    exact behindN_congr _ _ _ (fun j hj => h _ (by omega))
theorem foldN_add (f : Nat → Nat) (x : List Nat) (m n : Nat) : foldN f x (m + n) = foldN (fun j => f (64 * m + j)) (foldN f x m) n := by
  induction n with
  | zero => rfl
  | succ n ih =>
    rw [← Nat.add_assoc, foldN_succ, ih, foldN_succ]
    exact behindN_congr _ _ _ (fun j _ => by show f _ = f _; rw [show 64 * (m + n) + j = 64 * m + (64 * n + j) by omega])

def ofN (x : List Nat) : ByteArray := ⟨(putL (ints x) bsh).toArray⟩
theorem ofN_size (x : List Nat) (h : x.length = 8) : (ofN x).size = 32 := by
  show (putL (ints x) bsh).toArray.size = 32
  rw [List.size_toArray, putL_length, ints_length, h]
/-- The words of a text. -/
def wordsN (s : ByteArray) : List Nat := (List.range (s.size / 4)).map fun i => bigW (bt s (4 * i)) (bt s (4 * i + 1)) (bt s (4 * i + 2)) (bt s (4 * i + 3))
theorem wordsN_ints (s : ByteArray) : wordsL s bsh = ints (wordsN s) := by
  unfold wordsL tab ints wordsN
  rw [List.map_map]
  apply List.map_congr_left
  intro i hi
  have := List.mem_range.1 hi
  show ((wAt s bsh s.size i : Nat) : Int) = _
  rw [wAt_big s i (by omega)]
  rfl
theorem wordsN_length (s : ByteArray) : (wordsN s).length = s.size / 4 := by simp [wordsN]
theorem wordsN_blk (s : ByteArray) (h : s.size = 64) : wordsN s = blkN (bt s) := by unfold wordsN blkN; rw [show s.size / 4 = 16 by omega]
theorem bigW_lt (a b c d : Nat) (ha : a < 256) (hb : b < 256) (hc : c < 256) (hd : d < 256) : bigW a b c d < 4294967296 := by
  rw [bigW_sum a b c d hb hc hd]; omega
theorem blkN_getD (f : Nat → Nat) (i : Nat) (hi : i < 16) : (blkN f).getD i 0 = bigW (f (4 * i)) (f (4 * i + 1)) (f (4 * i + 2)) (f (4 * i + 3)) := map_range_getD 16 _ i hi
theorem blkN_ok (f : Nat → Nat) (h : ∀ j, f j < 256) : Ok (blkN f) := by
  intro i
  by_cases hi : i < 16
  · rw [blkN_getD f i hi]; exact bigW_lt _ _ _ _ (h _) (h _) (h _) (h _)
  · rw [List.getD_eq_getElem?_getD, List.getElem?_eq_none (by simp [blkN]; omega)]; decide
theorem blkN_length (f : Nat → Nat) : (blkN f).length = 16 := by simp [blkN]
theorem wordsN_getD (s : ByteArray) (i : Nat) (hi : i < s.size / 4) : (wordsN s).getD i 0 = bigW (bt s (4 * i)) (bt s (4 * i + 1)) (bt s (4 * i + 2)) (bt s (4 * i + 3)) := map_range_getD _ _ i hi
theorem wordsN_ok (s : ByteArray) : Ok (wordsN s) := by
  intro i
  by_cases hi : i < s.size / 4
  · rw [wordsN_getD s i hi]; exact bigW_lt _ _ _ _ (bt_lt _ _) (bt_lt _ _) (bt_lt _ _) (bt_lt _ _)
  · rw [List.getD_eq_getElem?_getD, List.getElem?_eq_none (by rw [wordsN_length]; omega)]; decide
/-- Words, put and read again. -/
theorem wordsN_ofN (x : List Nat) (h : Ok x) : wordsN (ofN x) = x := by
  have hs : (ofN x).size = 4 * x.length := by show (putL (ints x) bsh).toArray.size = _; rw [List.size_toArray, putL_length, ints_length]
  apply List.ext_getElem
  · rw [wordsN_length, hs]; omega
  · intro i h1 h2
    have e : (wordsN (ofN x))[i] = bigW (bt (ofN x) (4 * i)) (bt (ofN x) (4 * i + 1)) (bt (ofN x) (4 * i + 2)) (bt (ofN x) (4 * i + 3)) := by simp [wordsN]
    have hl : (ints x).length = x.length := ints_length x
    have hb : ∀ j, j < 4 * x.length → bt (ofN x) j = pb (ints x) bsh j := fun j hj => putL_bt (ints x) bsh j (by rw [hl]; exact hj)
    have hx : x[i] < 4294967296 := by have := h i; rw [List.getD_eq_getElem?_getD, List.getElem?_eq_getElem h2] at this; exact this
    have hg : (ints x).getD i 0 % 4294967296 = ((x[i] : Nat) : Int) := by
      rw [ints_getD, List.getD_eq_getElem?_getD, List.getElem?_eq_getElem h2]; show ((x[i] : Nat) : Int) % _ = _; omega
    rw [e, hb _ (by omega), hb _ (by omega), hb _ (by omega), hb _ (by omega), bigW_sum _ _ _ _ (pb_lt _ _ _) (pb_lt _ _ _) (pb_lt _ _ _)]
    have p0 := pb0 (ints x) i x[i] hx hg
    have p1 := pb1 (ints x) i x[i] hg
    have p2 := pb2 (ints x) i x[i] hg
    have p3 := pb3 (ints x) i x[i] hg
    omega
end Go.Proofs.YtglgppeloolbhaaGreatDoor

namespace Go.Proofs.YtglgppeloolbhaaGreatDoor
open Go.RowKit
set_option maxRecDepth 100000

/-- What stands behind a text of n bytes. -/
def zerosN (n : Nat) : Nat := (64 - (n + 9) % 64) % 64
def lenL (n : Nat) : List UInt8 := putL [((8 * n / 4294967296 : Nat) : Int), ((8 * n : Nat) : Int)] bsh
def padL (n : Nat) : List UInt8 := 128 :: (List.replicate (zerosN n) 0 ++ lenL n)
def padB (n : Nat) : ByteArray := ⟨(padL n).toArray⟩
/-- The bytes of a text with what stands behind it. -/
def fullF (s : ByteArray) (j : Nat) : Nat := if j < s.size then bt s j else ((padL s.size).getD (j - s.size) 0).toNat
def sumN (s : ByteArray) : List Nat := foldN (fullF s) bN ((s.size + 9 + zerosN s.size) / 64)

end Go.Proofs.YtglgppeloolbhaaGreatDoor

namespace Go.Proofs.YtglgppeloolbhaaGreatDoor
open Go.RowKit
set_option maxRecDepth 100000

theorem i64_and_nat (a b : Nat) (ha : a < 9223372036854775808) (hb : b < 9223372036854775808) : bits .and .i64 (a : Int) (b : Int) = ((a &&& b : Nat) : Int) :=
  (bits_nat .i64 63 (by decide) wraps_i64 a b ha hb).1

set_option maxHeartbeats 400000 in
theorem right_any (X n : Nat) (hX : X < 4294967296) (h1 : 1 ≤ n) (h2 : n ≤ 31) (w : World) :
    Calls Tryz.prog 94 #[.int .u32 X, .int .i64 n] w fun e w' => e = .returned (.int .u32 (rr X n)) ∧ w' = w := by
  have hr : rr X n < 4294967296 := rr_lt X n hX
  have C : Hid (∀ w, Calls Tryz.prog 101 #[.int .i64 X, .int .i64 (-(n : Int))] w fun e w' => e = .returned (.int .i64 (rr X n)) ∧ w' = w) :=
    fun w => rot_nat (X : Int) (-(n : Int)) X (32 - n) hX (by omega) w (by omega) (by omega)
  go_enter Tryz.func94, Tryz.ntmps94
  go_wp2_with (go_at_call 101; refine (C.out _).mono ?_; rintro e w' ⟨rfl, rfl⟩)
  go_ret
  exact ⟨rfl, rfl⟩

set_option maxHeartbeats 400000 in
theorem rrot_drew (x n : Int) (X k : Nat) (hX : X < 4294967296) (hk : k < 32) (w : World) (ex : x % 4294967296 = (X : Int)) (en : n % 32 = (k : Int)) :
    Calls Tryz.prog 84 #[.int .i64 x, .int .i64 n] w fun e w' => e = .returned (.int .i64 (rotN X k)) ∧ ∃ m, w' = w.drewN m := by
  have h := i64_and31 n
  rw [en] at h
  have hr := rotN_lt X k hX
  clear en
  have hw := fun w => word_any x w
  rw [ex] at hw
  have HW : Hid (∀ w, _) := hw
  clear hw
  go_enter Tryz.func84, Tryz.ntmps84
  go_wp2
  go_quiet ((go_at_call 75; first | exact Calls.quiet_of_same (HW.out _) | exact Calls.quiet_of_same (word_any _ _)))
  go_wp2
  go_ret
  refine ⟨?_, nq, rfl⟩
  rw [← rrot_bits X k hX hk]; rfl

set_option maxHeartbeats 400000 in
theorem rright_any (X n : Nat) (hX : X < 4294967296) (h1 : 1 ≤ n) (h2 : n ≤ 31) (w : World) :
    Calls Tryz.prog 87 #[.int .i64 X, .int .i64 n] w fun e w' => e = .returned (.int .i64 (rr X n)) ∧ ∃ m, w' = w.drewN m := by
  have hr : rr X n < 4294967296 := rr_lt X n hX
  have C : Hid (∀ w, Calls Tryz.prog 84 #[.int .i64 X, .int .i64 (32 - (n : Int))] w fun e w' => e = .returned (.int .i64 (rr X n)) ∧ ∃ m, w' = w.drewN m) :=
    fun w => rrot_drew (X : Int) (32 - (n : Int)) X (32 - n) hX (by omega) w (by omega) (by omega)
  go_enter Tryz.func87, Tryz.ntmps87
  go_wp2_with (go_at_call 84; refine (C.out _).mono ?_; rintro e w' ⟨rfl, m, rfl⟩)
  go_ret
  exact ⟨rfl, m, rfl⟩
end Go.Proofs.YtglgppeloolbhaaGreatDoor

namespace Go.Proofs.YtglgppeloolbhaaGreatDoor
open Go.RowKit
set_option maxRecDepth 100000
set_option linter.unusedSimpArgs false

/-- What the words of a block are spread to. -/
def Spread (W : Nat → Nat) (f : Nat → Nat) : Prop := (∀ i, W i < 4294967296) ∧ (∀ k, k < 48 → W (k + 16) = nx (W k) (W (k + 1)) (W (k + 9)) (W (k + 14))) ∧ ∀ i, i < 16 → W i = (blkN f).getD i 0
theorem spread_wS (f : Nat → Nat) (h : ∀ j, f j < 256) : Spread (wS (blkN f)) f :=
  ⟨wS_lt _ (blkN_ok f h), wS_next _ (blkN_length f), wS_first _ (blkN_length f)⟩

theorem rsched_bits (a b : Nat) (n m : Nat) (X : Nat) (ha : a < 4294967296) (hb : b < 4294967296) (hX : X < 4294967296) (hm : n = a ^^^ b ^^^ (X / m)) :
    bits .xor .i64 (bits .xor .i64 (a : Int) (b : Int)) ((X : Int) / (m : Int)) = (n : Int) := by
  have h1 := xor_lt32 a b ha hb
  have h2 : X / m < 4294967296 := Nat.lt_of_le_of_lt (Nat.div_le_self _ _) hX
  rw [i64_xor_nat _ _ (by omega) (by omega), show ((X : Int) / (m : Int)) = ((X / m : Nat) : Int) by simp, i64_xor_nat _ _ (by omega) (by omega), hm]

theorem rsched_next (X0 X1 X9 X14 : Nat) (l0 : X0 < 4294967296) (l1 : X1 < 4294967296) (l9 : X9 < 4294967296) (l14 : X14 < 4294967296) :
    IntKind.i64.wrap (IntKind.i64.wrap (IntKind.i64.wrap ((X0 : Int) + bits .xor .i64 (bits .xor .i64 ((rr X1 7 : Nat) : Int) ((rr X1 18 : Nat) : Int)) ((X1 : Int) / 8)) + (X9 : Int)) + bits .xor .i64 (bits .xor .i64 ((rr X14 17 : Nat) : Int) ((rr X14 19 : Nat) : Int)) ((X14 : Int) / 1024)) % 4294967296 = ((nx X0 X1 X9 X14 : Nat) : Int) := by
  have e1 := rsched_bits (rr X1 7) (rr X1 18) (sg0 X1) 8 X1 (rr_lt _ _ l1) (rr_lt _ _ l1) l1 rfl
  have e2 := rsched_bits (rr X14 17) (rr X14 19) (sg1 X14) 1024 X14 (rr_lt _ _ l14) (rr_lt _ _ l14) l14 rfl
  have h1 := sg0_lt X1 l1
  have h2 := sg1_lt X14 l14
  rw [show ((8 : Nat) : Int) = 8 from rfl] at e1
  rw [show ((1024 : Nat) : Int) = 1024 from rfl] at e2
  rw [e1, e2]
  unfold nx
  generalize sg0 X1 = A at *
  generalize sg1 X14 = B at *
  rw [i64_small ((X0 : Int) + (A : Int)) (by omega) (by omega), i64_small ((X0 : Int) + (A : Int) + (X9 : Int)) (by omega) (by omega), i64_small ((X0 : Int) + (A : Int) + (X9 : Int) + (B : Int)) (by omega) (by omega)]
  omega

set_option maxHeartbeats 4000000 in
theorem rsched_any (b : ByteArray) (W : Nat → Nat) (w : World) (hs : b.size = 64) (hW : Spread W (bt b)) :
    Calls Tryz.prog 85 #[.string b] w fun e w' => ∃ g c, e = .returned (.slice (some ⟨g, 0, none⟩) 64 c) ∧
      IntsAt w' .i64 (some ⟨g, 0, none⟩) 64 (wT W 64) ∧ Below w.heap.size w w' := by
  have HO : Hid (∀ i, W i < 4294967296) := hW.1
  have HN : Hid (∀ k, k < 48 → W (k + 16) = _) := hW.2.1
  have HF : Hid (wordsL b bsh = wT W 16) := by show _ = _; rw [wordsN_ints, wordsN_blk b hs]; exact wT_first _ _ _ (blkN_length _) hW.2.2
  have CB : Hid (∀ w, _) := fun w => rbig_own b w (by omega) (by omega)
  obtain ⟨i0, hi, hz0, hz1, hz2⟩ := info_parts Tryz.info3
  go_enter Tryz.func85, Tryz.ntmps85
  go_wp2_with fail
  refine (CB.out _).mono ?_
  rintro e w1 ⟨v0, rfl, hown0, hb1⟩
  rw [HF.out, hs] at hown0
  clear CB HF hs hW
  go_wp2
  go_loopw [3, 5] (fun v i wr => ∃ k j : Nat, j ≤ 64 ∧ i = .int .i64 j ∧ Hid (j = k + 16) ∧ OwnV wr w.heap.size 3 .i64 v j (wT W j) ∧ Below w.heap.size w wr) (fun _ i _ => 64 - (intOf i).toNat)
  case atStart => exact ⟨0, 16, by omega, rfl, rfl, hown0, hb1⟩
  case round =>
    clear hown0 hb1
    obtain ⟨k, j, hj, rfl, HJ, hown, hbl⟩ := hrel
    by_cases hlt : j < 64
    · have hJ := HJ.out
      obtain ⟨g, c, rfl, hc⟩ := hown.at (by omega)
      obtain ⟨p1, hp1⟩ : ∃ p, p = k + 1 := ⟨_, rfl⟩
      obtain ⟨p9, hp9⟩ : ∃ p, p = k + 9 := ⟨_, rfl⟩
      obtain ⟨p14, hp14⟩ : ∃ p, p = k + 14 := ⟨_, rfl⟩
      obtain ⟨X0, hX0⟩ : ∃ x, x = W k := ⟨_, rfl⟩
      obtain ⟨X1, hX1⟩ : ∃ x, x = W p1 := ⟨_, rfl⟩
      obtain ⟨X9, hX9⟩ : ∃ x, x = W p9 := ⟨_, rfl⟩
      obtain ⟨X14, hX14⟩ : ∃ x, x = W p14 := ⟨_, rfl⟩
      have c0 := hc k (by omega)
      have c1 := hc p1 (by omega)
      have c9 := hc p9 (by omega)
      have c14 := hc p14 (by omega)
      rw [wT_getD _ _ _ (by omega), ← hX0] at c0
      rw [wT_getD _ _ _ (by omega), ← hX1] at c1
      rw [wT_getD _ _ _ (by omega), ← hX9] at c9
      rw [wT_getD _ _ _ (by omega), ← hX14] at c14
      have l0 : X0 < 4294967296 := by rw [hX0]; exact HO.out _
      have l1 : X1 < 4294967296 := by rw [hX1]; exact HO.out _
      have l9 : X9 < 4294967296 := by rw [hX9]; exact HO.out _
      have l14 : X14 < 4294967296 := by rw [hX14]; exact HO.out _
      have NX : Hid (W j = nx X0 X1 X9 X14) := by
        have := HN.out k (by omega)
        show _ = _
        rw [hJ, this, hX0, hX1, hX9, hX14, hp1, hp9, hp14]
      have q0 : IntKind.i64.wrap ((j : Int) - 16) = (k : Int) := by rw [i64_small _ (by omega) (by omega)]; omega
      have q1 : IntKind.i64.wrap ((j : Int) - 15) = (p1 : Int) := by rw [i64_small _ (by omega) (by omega)]; omega
      have q9 : IntKind.i64.wrap ((j : Int) - 7) = (p9 : Int) := by rw [i64_small _ (by omega) (by omega)]; omega
      have q14 : IntKind.i64.wrap ((j : Int) - 2) = (p14 : Int) := by rw [i64_small _ (by omega) (by omega)]; omega
      have b0 : (k : Int) < (j : Int) := by omega
      have b1 : (p1 : Int) < (j : Int) := by omega
      have b9 : (p9 : Int) < (j : Int) := by omega
      have b14 : (p14 : Int) < (j : Int) := by omega
      have hsz := hbl.size
      have C7 : Hid (∀ w, Calls Tryz.prog 87 #[.int .i64 X1, .int .i64 7] w _) := fun w => rright_any X1 7 l1 (by decide) (by decide) w
      have C18 : Hid (∀ w, Calls Tryz.prog 87 #[.int .i64 X1, .int .i64 18] w _) := fun w => rright_any X1 18 l1 (by decide) (by decide) w
      have C17 : Hid (∀ w, Calls Tryz.prog 87 #[.int .i64 X14, .int .i64 17] w _) := fun w => rright_any X14 17 l14 (by decide) (by decide) w
      have C19 : Hid (∀ w, Calls Tryz.prog 87 #[.int .i64 X14, .int .i64 19] w _) := fun w => rright_any X14 19 l14 (by decide) (by decide) w
      clear hX0 hX1 hX9 hX14 hp1 hp9 hp14 hJ hc
      go_wp2
      go_quiet (fail)
      go_wp2_with fail
      refine (C7.out _).mono ?_
      rintro e w' ⟨rfl, m1, rfl⟩
      go_wp2_with fail
      refine (C18.out _).mono ?_
      rintro e w' ⟨rfl, m2, rfl⟩
      go_wp2_with fail
      refine (C17.out _).mono ?_
      rintro e w' ⟨rfl, m3, rfl⟩
      go_wp2_with fail
      refine (C19.out _).mono ?_
      rintro e w' ⟨rfl, m4, rfl⟩
      go_wp2_with fail
      have hown' := hown.drewN (m := nq + m1 + m2 + m3 + m4)
      have hbl' := below_drewN hbl (nq + m1 + m2 + m3 + m4)
      have d0 : (wr.drewN (nq + m1 + m2 + m3 + m4)).cell? ⟨g, k, none⟩ = _ := c0
      have d9 : (wr.drewN (nq + m1 + m2 + m3 + m4)).cell? ⟨g, p9, none⟩ = _ := c9
      clear C7 C18 C17 C19 c0 c1 c9 c14 hown hbl hsz
      generalize wr.drewN (nq + m1 + m2 + m3 + m4) = wq at *
      have hsz := hbl'.size
      refine wp_region_noPanic ?_
      refine wp_region_held_drew (S := fun _ => True) (by kernel_rfl) (by first | exact trivial | assumption | exact ⟨by assumption, by assumption⟩) (fun hHeld => ?_)
      refine take_at (i := 0) (v := ?_) rfl rfl (by kernel_rfl) (by kernel_rfl) (by kernel_rfl) (fun _ _ _ h => h) (Or.inl ⟨by rfl, ?_⟩) (by assumption) ?_
      rotate_left
      · intro w hSw; (try dsimp only at hSw); go_simp; try with_reducible rfl
      try simp only [Act.put, List.setIfInBounds_toArray, List.set_cons_zero, List.set_cons_succ]
      refine take_at (i := 1) (v := ?_) rfl rfl (by kernel_rfl) (by kernel_rfl) (by kernel_rfl) (fun _ _ _ h => h) (Or.inl ⟨by rfl, ?_⟩) (by assumption) ?_
      rotate_left
      · intro w hSw; (try dsimp only at hSw); go_simp; try with_reducible rfl
      try simp only [Act.put, List.setIfInBounds_toArray, List.set_cons_zero, List.set_cons_succ]
      refine take_at (i := 2) (v := ?_) rfl rfl (by kernel_rfl) (by kernel_rfl) (by kernel_rfl) (fun _ _ _ h => h) (Or.inl ⟨by rfl, ?_⟩) (by assumption) ?_
      rotate_left
      · intro w hSw; (try dsimp only at hSw); go_simp; try with_reducible rfl
      try simp only [Act.put, List.setIfInBounds_toArray, List.set_cons_zero, List.set_cons_succ]
      refine take_at (i := 3) (v := ?_) rfl rfl (by kernel_rfl) (by kernel_rfl) (by kernel_rfl) (fun _ _ _ h => h) (Or.inl ⟨by rfl, ?_⟩) (by assumption) ?_
      rotate_left
      · intro w hSw; (try dsimp only at hSw); go_simp; try with_reducible rfl
      try simp only [Act.put, List.setIfInBounds_toArray, List.set_cons_zero, List.set_cons_succ]
      refine take_at (i := 4) (v := ?_) rfl rfl (by kernel_rfl) (by kernel_rfl) (by kernel_rfl) (fun _ _ _ h => h) (Or.inl ⟨by rfl, ?_⟩) (by assumption) ?_
      rotate_left
      · intro w hSw; (try dsimp only at hSw); go_simp; try with_reducible rfl
      try simp only [Act.put, List.setIfInBounds_toArray, List.set_cons_zero, List.set_cons_succ]
      refine take_at (i := 6) (v := ?_) rfl rfl (by kernel_rfl) (by kernel_rfl) (by kernel_rfl) (fun _ _ _ h => h) (Or.inl ⟨by rfl, ?_⟩) (by assumption) ?_
      rotate_left
      · intro w hSw; (try dsimp only at hSw); go_simp; try with_reducible rfl
      try simp only [Act.put, List.setIfInBounds_toArray, List.set_cons_zero, List.set_cons_succ]
      refine take_at (i := 8) (v := ?_) rfl rfl (by kernel_rfl) (by kernel_rfl) (by kernel_rfl) (fun _ _ _ h => h) (Or.inl ⟨by rfl, ?_⟩) (by assumption) ?_
      rotate_left
      · intro w hSw; (try dsimp only at hSw); go_simp; try with_reducible rfl
      try simp only [Act.put, List.setIfInBounds_toArray, List.set_cons_zero, List.set_cons_succ]
      refine take_at (i := 9) (v := ?_) rfl rfl (by kernel_rfl) (by kernel_rfl) (by kernel_rfl) (fun _ _ _ h => h) (Or.inl ⟨by rfl, ?_⟩) (by assumption) ?_
      rotate_left
      · intro w hSw; (try dsimp only at hSw); go_simp; try with_reducible rfl
      try simp only [Act.put, List.setIfInBounds_toArray, List.set_cons_zero, List.set_cons_succ]
      refine take_at (i := 10) (v := ?_) rfl rfl (by kernel_rfl) (by kernel_rfl) (by kernel_rfl) (fun _ _ _ h => h) (Or.inl ⟨by rfl, ?_⟩) (by assumption) ?_
      rotate_left
      · intro w hSw; (try dsimp only at hSw); go_simp; try with_reducible rfl
      try simp only [Act.put, List.setIfInBounds_toArray, List.set_cons_zero, List.set_cons_succ]
      refine take_at (i := 11) (v := ?_) rfl rfl (by kernel_rfl) (by kernel_rfl) (by kernel_rfl) (fun _ _ _ h => h) (Or.inl ⟨by rfl, ?_⟩) (by assumption) ?_
      rotate_left
      · intro w hSw; (try dsimp only at hSw); go_simp; try with_reducible rfl
      try simp only [Act.put, List.setIfInBounds_toArray, List.set_cons_zero, List.set_cons_succ]
      refine take_at (i := 14) (v := ?_) rfl rfl (by kernel_rfl) (by kernel_rfl) (by kernel_rfl) (fun _ _ _ h => h) (Or.inl ⟨by rfl, ?_⟩) (by assumption) ?_
      rotate_left
      · intro w hSw; (try dsimp only at hSw); go_simp; try with_reducible rfl
      try simp only [Act.put, List.setIfInBounds_toArray, List.set_cons_zero, List.set_cons_succ]
      refine wpAnyH_ready (rs := [5, 12]) (by kernel_rfl) (by simp) ?_
      refine AllReadyH.cons rfl (fun K hK => ?_) (AllReadyH.cons rfl (fun K hK => ?_) AllReadyH.nil)
      · go_simp
        refine hK.out _ _ trivial (fun hHeld => ?_)
        clear hK K
        refine take_at (i := 7) (v := ?_) rfl rfl (by kernel_rfl) (by kernel_rfl) (by kernel_rfl) (fun _ _ _ h => h) (Or.inl ⟨by rfl, ?_⟩) (by assumption) ?_
        rotate_left
        · intro w hSw; (try dsimp only at hSw); go_simp; try with_reducible rfl
        try simp only [Act.put, List.setIfInBounds_toArray, List.set_cons_zero, List.set_cons_succ]
        refine wpAnyH_ready (rs := [12]) (by kernel_rfl) (by simp) ?_
        refine AllReadyH.cons rfl (fun K hK => ?_) AllReadyH.nil
        go_simp
        refine hK.out _ _ trivial (fun hHeld => ?_)
        clear hK K
        refine take_at (i := 13) (v := ?_) rfl rfl (by kernel_rfl) (by kernel_rfl) (by kernel_rfl) (fun _ _ _ h => h) (Or.inl ⟨by rfl, ?_⟩) (by assumption) ?_
        rotate_left
        · intro w hSw; (try dsimp only at hSw); go_simp; try with_reducible rfl
        try simp only [Act.put, List.setIfInBounds_toArray, List.set_cons_zero, List.set_cons_succ]
        refine take_at (i := 15) (v := ?_) rfl rfl (by kernel_rfl) (by kernel_rfl) (by kernel_rfl) (fun _ _ _ h => h) (Or.inl ⟨by rfl, ?_⟩) (by assumption) ?_
        rotate_left
        · intro w hSw; (try dsimp only at hSw); go_simp; try with_reducible rfl
        try simp only [Act.put, List.setIfInBounds_toArray, List.set_cons_zero, List.set_cons_succ]
        refine wpAnyH_ready (rs := [16]) (by kernel_rfl) (by simp) ?_
        refine AllReadyH.cons rfl (fun K hK => ?_) AllReadyH.nil
        go_simp
        refine (word_any _ _).mono ?_
        rintro e w' ⟨rfl, rfl⟩
        refine hK.out _ _ trivial (fun hHeld => ?_)
        clear hK K
        refine wpAnyH_ready (rs := [17]) (by kernel_rfl) (by simp) ?_
        refine AllReadyH.cons rfl (fun K hK => ?_) AllReadyH.nil
        go_simp
        refine hK.out _ _ trivial (fun hHeld => ?_)
        clear hK K
        refine wpAnyH_ready (rs := [18]) (by kernel_rfl) (by simp) ?_
        refine AllReadyH.cons rfl (fun K hK => ?_) AllReadyH.nil
        refine step_app1 rfl rfl _ _ 47 rfl w.heap.size 3 i0 .i64 8 Tryz.underlying47 hi hz0 hz1 hz2 wq (.slice (some ⟨g, 0, none⟩) j c) j _ rfl hown' _ rfl (by omega) (by omega) (by exact hsz) ?_
        intro v' w2 hown1 hbl1
        refine hK.out _ _ trivial (fun hHeld => ?_)
        clear hK K
        refine take_at (i := 19) (v := ?_) rfl rfl (by kernel_rfl) (by kernel_rfl) (by kernel_rfl) (fun _ _ _ h => h) (Or.inl ⟨by rfl, ?_⟩) (by assumption) ?_
        rotate_left
        · intro w hSw; (try dsimp only at hSw); go_simp; try with_reducible rfl
        try simp only [Act.put, List.setIfInBounds_toArray, List.set_cons_zero, List.set_cons_succ]
        refine wpAnyH_done (by kernel_rfl) (NoPanic.normal ?_) _
        rw [rsched_next X0 X1 X9 X14 l0 l1 l9 l14, wT_snoc _ _ _ (by rw [NX.out])] at hown1
        have HB := hbl'.trans hbl1
        clear hbl1 hown' hbl' d0 d9
        go_wp2
        go_roundw
        case rel =>
          refine ⟨k + 1, j + 1, by omega, by go_num, ?_, hown1, HB⟩
          have := HJ.out; show j + 1 = k + 1 + 16; omega
        case measure => simp [intOf]; omega
      · go_simp
        refine hK.out _ _ trivial (fun hHeld => ?_)
        clear hK K
        refine wpAnyH_ready (rs := [5]) (by kernel_rfl) (by simp) ?_
        refine AllReadyH.cons rfl (fun K hK => ?_) AllReadyH.nil
        go_simp
        refine hK.out _ _ trivial (fun hHeld => ?_)
        clear hK K
        refine take_at (i := 7) (v := ?_) rfl rfl (by kernel_rfl) (by kernel_rfl) (by kernel_rfl) (fun _ _ _ h => h) (Or.inl ⟨by rfl, ?_⟩) (by assumption) ?_
        rotate_left
        · intro w hSw; (try dsimp only at hSw); go_simp; try with_reducible rfl
        try simp only [Act.put, List.setIfInBounds_toArray, List.set_cons_zero, List.set_cons_succ]
        refine take_at (i := 13) (v := ?_) rfl rfl (by kernel_rfl) (by kernel_rfl) (by kernel_rfl) (fun _ _ _ h => h) (Or.inl ⟨by rfl, ?_⟩) (by assumption) ?_
        rotate_left
        · intro w hSw; (try dsimp only at hSw); go_simp; try with_reducible rfl
        try simp only [Act.put, List.setIfInBounds_toArray, List.set_cons_zero, List.set_cons_succ]
        refine take_at (i := 15) (v := ?_) rfl rfl (by kernel_rfl) (by kernel_rfl) (by kernel_rfl) (fun _ _ _ h => h) (Or.inl ⟨by rfl, ?_⟩) (by assumption) ?_
        rotate_left
        · intro w hSw; (try dsimp only at hSw); go_simp; try with_reducible rfl
        try simp only [Act.put, List.setIfInBounds_toArray, List.set_cons_zero, List.set_cons_succ]
        refine wpAnyH_ready (rs := [16]) (by kernel_rfl) (by simp) ?_
        refine AllReadyH.cons rfl (fun K hK => ?_) AllReadyH.nil
        go_simp
        refine (word_any _ _).mono ?_
        rintro e w' ⟨rfl, rfl⟩
        refine hK.out _ _ trivial (fun hHeld => ?_)
        clear hK K
        refine wpAnyH_ready (rs := [17]) (by kernel_rfl) (by simp) ?_
        refine AllReadyH.cons rfl (fun K hK => ?_) AllReadyH.nil
        go_simp
        refine hK.out _ _ trivial (fun hHeld => ?_)
        clear hK K
        refine wpAnyH_ready (rs := [18]) (by kernel_rfl) (by simp) ?_
        refine AllReadyH.cons rfl (fun K hK => ?_) AllReadyH.nil
        refine step_app1 rfl rfl _ _ 47 rfl w.heap.size 3 i0 .i64 8 Tryz.underlying47 hi hz0 hz1 hz2 wq (.slice (some ⟨g, 0, none⟩) j c) j _ rfl hown' _ rfl (by omega) (by omega) (by exact hsz) ?_
        intro v' w2 hown1 hbl1
        refine hK.out _ _ trivial (fun hHeld => ?_)
        clear hK K
        refine take_at (i := 19) (v := ?_) rfl rfl (by kernel_rfl) (by kernel_rfl) (by kernel_rfl) (fun _ _ _ h => h) (Or.inl ⟨by rfl, ?_⟩) (by assumption) ?_
        rotate_left
        · intro w hSw; (try dsimp only at hSw); go_simp; try with_reducible rfl
        try simp only [Act.put, List.setIfInBounds_toArray, List.set_cons_zero, List.set_cons_succ]
        refine wpAnyH_done (by kernel_rfl) (NoPanic.normal ?_) _
        rw [rsched_next X0 X1 X9 X14 l0 l1 l9 l14, wT_snoc _ _ _ (by rw [NX.out])] at hown1
        have HB := hbl'.trans hbl1
        clear hbl1 hown' hbl' d0 d9
        go_wp2
        go_roundw
        case rel =>
          refine ⟨k + 1, j + 1, by omega, by go_num, ?_, hown1, HB⟩
          have := HJ.out; show j + 1 = k + 1 + 16; omega
        case measure => simp [intOf]; omega
    · have hk' : j = 64 := by omega
      subst hk'
      obtain ⟨g, c, rfl, hc⟩ := hown.at (by omega)
      have HI : Hid (IntsAt wr .i64 (some ⟨g, 0, none⟩) 64 (wT W 64)) := ⟨wT_length W 64, .inr ⟨g, 0, rfl, fun i hi => by rw [Nat.zero_add]; exact hc i hi⟩⟩
      clear hc hown hi hz0 hz1 hz2
      go_wp2
      go_ret
      exact ⟨g, c, rfl, HI.out, hbl⟩
end Go.Proofs.YtglgppeloolbhaaGreatDoor

namespace Go.Proofs.YtglgppeloolbhaaGreatDoor
open Go.RowKit
set_option maxRecDepth 100000

/-- What the rounds hold. -/
def Rounds (R : Nat → List Nat) (W : Nat → Nat) (x : List Nat) : Prop := R 0 = x ∧ (∀ k, R (k + 1) = rnd (kN.getD k 0) (W k) (R k)) ∧ ∀ k, Ok (R k)
theorem tV_lt (E F G H Z Y : Nat) : tV E F G H Z Y < 4294967296 := Nat.mod_lt _ (by decide)
theorem uV_lt (A B C : Nat) : uV A B C < 4294967296 := Nat.mod_lt _ (by decide)
theorem i64_not (E : Nat) (h : E < 4294967296) : bits .xor .i64 (if IntKind.i64.signed = true then -1 else 9223372036854775807) (E : Int) % 4294967296 = ((4294967295 - E : Nat) : Int) := by
  show IntKind.i64.wrap ((BitVec.ofInt 64 (-1) ^^^ BitVec.ofInt 64 (E : Int)).toNat : Int) % 4294967296 = _
  rw [show BitVec.ofInt 64 (-1) = BitVec.allOnes 64 by decide, BitVec.allOnes_xor, BitVec.toNat_not, BitVec.ofInt_natCast, BitVec.toNat_ofNat, Nat.mod_eq_of_lt (show E < 2 ^ 64 by omega), IntKind.wrap_i64]
  omega
theorem rt_val (E F G H Z Y : Nat) (lE : E < 4294967296) (lF : F < 4294967296) (lG : G < 4294967296) (lH : H < 4294967296) (lZ : Z < 4294967296) (lY : Y < 4294967296) :
    wrap64 (wrap64 (wrap64 (wrap64 ((H : Int) + bits .xor .i64 (bits .xor .i64 ((rr E 6 : Nat) : Int) ((rr E 11 : Nat) : Int)) ((rr E 25 : Nat) : Int)) +
      bits .xor .i64 (bits .and .i64 (E : Int) (F : Int)) (bits .and .i64 (bits .xor .i64 (if IntKind.i64.signed = true then -1 else 9223372036854775807) (E : Int) % 4294967296) (G : Int))) + (Z : Int)) + (Y : Int)) % 4294967296 = ((tV E F G H Z Y : Nat) : Int) := by
  have h6 := rr_lt E 6 lE
  have h11 := rr_lt E 11 lE
  have h25 := rr_lt E 25 lE
  have hx := xor_lt32 _ _ h6 h11
  have hb := bs1_lt E lE
  have ha := and_lt32 E F lE
  have ha' := and_lt32 (4294967295 - E) G (by omega)
  have hc := chN_lt E F G lE
  rw [i64_not E lE, i64_xor_nat (rr E 6) (rr E 11) (by omega) (by omega), i64_xor_nat (rr E 6 ^^^ rr E 11) (rr E 25) (by omega) (by omega), i64_and_nat E F (by omega) (by omega), i64_and_nat (4294967295 - E) G (by omega) (by omega), i64_xor_nat (E &&& F) ((4294967295 - E) &&& G) (by omega) (by omega)]
  change wrap64 (wrap64 (wrap64 (wrap64 ((H : Int) + ((bs1 E : Nat) : Int)) + ((chN E F G : Nat) : Int)) + (Z : Int)) + (Y : Int)) % 4294967296 = _
  unfold tV
  generalize bs1 E = P at *
  generalize chN E F G = Q at *
  rw [w64_small ((H : Int) + (P : Int)) (by omega) (by omega), w64_small ((H : Int) + (P : Int) + (Q : Int)) (by omega) (by omega), w64_small ((H : Int) + (P : Int) + (Q : Int) + (Z : Int)) (by omega) (by omega), w64_small ((H : Int) + (P : Int) + (Q : Int) + (Z : Int) + (Y : Int)) (by omega) (by omega)]
  omega
theorem ru_val (A B C : Nat) (lA : A < 4294967296) (lB : B < 4294967296) (lC : C < 4294967296) :
    wrap64 (bits .xor .i64 (bits .xor .i64 ((rr A 2 : Nat) : Int) ((rr A 13 : Nat) : Int)) ((rr A 22 : Nat) : Int) +
      bits .xor .i64 (bits .xor .i64 (bits .and .i64 (A : Int) (B : Int)) (bits .and .i64 (A : Int) (C : Int))) (bits .and .i64 (B : Int) (C : Int))) % 4294967296 = ((uV A B C : Nat) : Int) := by
  have h6 := rr_lt A 2 lA
  have h11 := rr_lt A 13 lA
  have h25 := rr_lt A 22 lA
  have hx := xor_lt32 _ _ h6 h11
  have hb := bs0_lt A lA
  have ha := and_lt32 A B lA
  have ha' := and_lt32 A C lA
  have ha'' := and_lt32 B C lB
  have hy := xor_lt32 _ _ ha ha'
  have hc := majN_lt A B C lA lB
  rw [i64_xor_nat (rr A 2) (rr A 13) (by omega) (by omega), i64_xor_nat (rr A 2 ^^^ rr A 13) (rr A 22) (by omega) (by omega), i64_and_nat A B (by omega) (by omega), i64_and_nat A C (by omega) (by omega), i64_and_nat B C (by omega) (by omega), i64_xor_nat (A &&& B) (A &&& C) (by omega) (by omega), i64_xor_nat ((A &&& B) ^^^ (A &&& C)) (B &&& C) (by omega) (by omega)]
  change wrap64 (((bs0 A : Nat) : Int) + ((majN A B C : Nat) : Int)) % 4294967296 = _
  unfold uV
  generalize bs0 A = P at *
  generalize majN A B C = Q at *
  rw [w64_small ((P : Int) + (Q : Int)) (by omega) (by omega)]
  omega
end Go.Proofs.YtglgppeloolbhaaGreatDoor

namespace Go.Proofs.YtglgppeloolbhaaGreatDoor
open Go.RowKit
set_option maxRecDepth 100000
set_option linter.unusedSimpArgs false

set_option maxHeartbeats 4000000 in
theorem rconst_any (w : World) :
    Calls Tryz.prog 86 #[] w fun e w' => e = .returned (.slice (some ⟨w.heap.size, 0, none⟩) 64 64) ∧
      IntsAt w' .i64 (some ⟨w.heap.size, 0, none⟩) 64 (ints kN) ∧ Below w.heap.size w w' := by
  go_enter Tryz.func86, Tryz.ntmps86
  go_wp2
  go_ret
  exact ⟨rfl, ints_alloc _ (ints kN) _ 64 _ (by kernel_rfl) (by kernel_rfl), below_new _ _⟩

set_option maxHeartbeats 4000000 in
theorem rbegin_any (w : World) :
    Calls Tryz.prog 77 #[] w fun e w' => e = .returned (.string (ofN bN)) ∧ Below w.heap.size w w' := by
  go_enter Tryz.func77, Tryz.ntmps77
  go_wp2_with fail
  refine (rputBig_any _ 8 _ (ints bN) _ (by omega) (ints_alloc _ (ints bN) _ 8 _ (by kernel_rfl) (by kernel_rfl))).mono ?_
  rintro e w1 ⟨rfl, hb1⟩
  go_wp2_with fail
  go_ret
  exact ⟨rfl, below_step (below_new _ _) (Nat.le_refl _) hb1⟩

/-- A slice of eight words at the head of a block. -/
def At8 (w : World) (v : Value) (x : List Nat) : Prop := ∃ g c, v = .slice (some ⟨g, 0, none⟩) 8 c ∧ ∀ j, j < 8 → w.cell? ⟨g, j, none⟩ = some (.int .i64 ((x.getD j 0 : Nat) : Int))
theorem rbig8 (s : ByteArray) (w : World) (hs : s.size = 32) :
    Calls Tryz.prog 69 #[.string s] w fun e w' => ∃ g c, e = .returned (.tuple #[.slice (some ⟨g, 0, none⟩) 8 c, .int .i64 0]) ∧
      (∀ j, j < 8 → w'.cell? ⟨g, j, none⟩ = some (.int .i64 (((wordsN s).getD j 0 : Nat) : Int))) ∧ Below w.heap.size w w' := by
  refine (rbig_own s w (by omega) (by omega)).mono ?_
  rintro e w' ⟨v, rfl, ho, hb⟩
  rw [wordsN_ints, show s.size / 4 = 8 by omega] at ho
  obtain ⟨g, c, rfl, hc⟩ := ho.at (by omega)
  exact ⟨g, c, rfl, fun j hj => by rw [hc j hj, ints_getD], hb⟩

theorem add32_val (a b : Nat) (ha : a < 4294967296) (hb : b < 4294967296) : IntKind.i64.wrap ((a : Int) + (b : Int)) % 4294967296 = (((a + b) % 4294967296 : Nat) : Int) := by
  rw [i64_small _ (by omega) (by omega)]; omega
theorem cell_alloc_keep {w : World} {a : Addr} {v : Value} (o : Obj) (h : w.cell? a = some v) : (w.alloc o).cell? a = some v := by
  rw [World.cell?_alloc_some _ _ _ (by rw [h]; rfl), h]
theorem cells_new (w : World) (x : List Nat) (e : TypeId) (n : Nat) (c : Array Value) (hn : x.length = n) (hc : c = ((ints x).map (Value.int .i64)).toArray) (j : Nat) (hj : j < n) :
    (w.alloc (.cells c e)).cell? ⟨w.heap.size, j, none⟩ = some (.int .i64 ((x.getD j 0 : Nat) : Int)) := by
  rw [(ints_alloc w (ints x) e n c (by rw [ints_length, hn]) hc).cellAt j hj, ints_getD]
theorem addL_snoc (x y : List Nat) (k : Nat) (hk : k < 8) : (ints (addL x y)).take k ++ [(((x.getD k 0 + y.getD k 0) % 4294967296 : Nat) : Int)] = (ints (addL x y)).take (k + 1) := by
  have hl : (ints (addL x y)).length = 8 := by rw [ints_length, addL_length]
  refine take_snoc_int _ _ (by omega) _ ?_
  have : (ints (addL x y))[k]'(by omega) = (ints (addL x y)).getD k 0 := by simp [List.getD_eq_getElem?_getD, List.getElem?_eq_getElem (show k < (ints (addL x y)).length by omega)]
  rw [this, ints_getD, addL_getD x y k hk]

set_option maxRecDepth 100000 in
set_option maxHeartbeats 8000000 in
theorem rblock_walk (s b : ByteArray) (W : Nat → Nat) (R : Nat → List Nat) (x : List Nat) (w : World) (hs : s.size = 32) (hb : b.size = 64) (hx : x = wordsN s) (hW : Spread W (bt b)) (hR : Rounds R W x) :
    Calls Tryz.prog 78 #[.string s, .string b] w fun e w' => e = .returned (.tuple #[.string (ofN (addL x (R 64))), .int .i64 0]) ∧ Below w.heap.size w w' := by
  have HWl : Hid (∀ i, W i < 4294967296) := hW.1
  have CS : Hid (∀ w, _) := fun w => rsched_any b W w hb hW
  have CG : Hid (∀ w, _) := fun w => rbig8 s w hs
  rw [← hx] at CG
  have HR : Hid (Rounds R W x) := hR
  clear hW hx hR
  have hn : (((s.size : Int) != 32)) = false := by rw [bne_eq_false_iff_eq]; omega
  have hn' : (((b.size : Int) != 64)) = false := by rw [bne_eq_false_iff_eq]; omega
  obtain ⟨i0, hi, hz0, hz1, hz2⟩ := info_parts Tryz.info3
  go_enter Tryz.func78, Tryz.ntmps78
  go_wp2_with fail
  refine (CS.out _).mono ?_
  rintro e w1 ⟨gw, cw, rfl, hI1, hb1⟩
  have HI1 : Hid (IntsAt w1 _ _ _ _) := hI1
  clear hI1 CS
  go_wp2_with fail
  refine (rconst_any _).mono ?_
  rintro e w2 ⟨rfl, hI2, hb2⟩
  have HI2 : Hid (IntsAt w2 _ _ _ _) := hI2
  clear hI2
  go_wp2_with fail
  refine (CG.out _).mono ?_
  rintro e w3 ⟨g3, c3, rfl, hc3, hb3⟩
  have HC3 : Hid (∀ j, j < 8 → w3.cell? ⟨g3, j, none⟩ = _) := hc3
  clear hc3
  go_wp2_with fail
  refine (CG.out _).mono ?_
  rintro e w4 ⟨g4, c4, rfl, hc4, hb4⟩
  have HC4 : Hid (∀ j, j < 8 → w4.cell? ⟨g4, j, none⟩ = _) := hc4
  clear hc4 CG
  -- the slices, as they stand ahead of the rounds
  have HB : Hid (Below w.heap.size w w4) := below_step (below_step (below_step hb1 (Nat.le_refl _) hb2) (Nat.le_refl _) hb3) (Nat.le_refl _) hb4
  have KW : Hid (∀ j, j < 64 → w4.cell? ⟨gw, j, none⟩ = some (.int .i64 (W j : Int))) := fun j hj => by
    rw [(((HI1.out.below hb2).below hb3).below hb4).cellAt j hj, wT_getD _ _ _ hj]
  have KK : Hid (∀ j, j < 64 → w4.cell? ⟨w1.heap.size, j, none⟩ = some (.int .i64 ((kN.getD j 0 : Nat) : Int))) := fun j hj => by
    rw [((HI2.out.below hb3).below hb4).cellAt j hj, ints_getD]
  have KV : Hid (∀ j, j < 8 → w4.cell? ⟨g3, j, none⟩ = some (.int .i64 ((x.getD j 0 : Nat) : Int))) := fun j hj => by
    have h1 := HC3.out j hj
    rw [hb4.cell (p := ⟨g3, j, none⟩) (World.block_lt_of_cell? w3 _ h1), h1]
  clear HI1 HI2 HC3 hb1 hb2 hb3 hb4 hs hb
  generalize w1.heap.size = gk at *
  clear w1 w2 w3
  go_wp2_with fail
  go_loopw [10, 12] (fun v i wr => ∃ k : Nat, k ≤ 64 ∧ i = .int .i64 k ∧ At8 wr v (R k) ∧ Below w4.heap.size w4 wr) (fun _ i _ => 64 - (intOf i).toNat)
  case atStart => exact ⟨0, by omega, rfl, ⟨g4, c4, rfl, by rw [HR.out.1]; exact HC4.out⟩, Below.refl _ _⟩
  case round =>
    clear HC4
    obtain ⟨k, hk, rfl, ⟨g, c, rfl, hc⟩, hbl⟩ := hrel
    by_cases hlt : k < 64
    · obtain ⟨A, hA⟩ : ∃ a, a = (R k).getD 0 0 := ⟨_, rfl⟩
      obtain ⟨B, hB⟩ : ∃ a, a = (R k).getD 1 0 := ⟨_, rfl⟩
      obtain ⟨C, hC⟩ : ∃ a, a = (R k).getD 2 0 := ⟨_, rfl⟩
      obtain ⟨D, hD⟩ : ∃ a, a = (R k).getD 3 0 := ⟨_, rfl⟩
      obtain ⟨E, hE⟩ : ∃ a, a = (R k).getD 4 0 := ⟨_, rfl⟩
      obtain ⟨F, hF⟩ : ∃ a, a = (R k).getD 5 0 := ⟨_, rfl⟩
      obtain ⟨G, hG⟩ : ∃ a, a = (R k).getD 6 0 := ⟨_, rfl⟩
      obtain ⟨H, hH⟩ : ∃ a, a = (R k).getD 7 0 := ⟨_, rfl⟩
      obtain ⟨Z, hZ⟩ : ∃ a, a = kN.getD k 0 := ⟨_, rfl⟩
      obtain ⟨Y, hY⟩ : ∃ a, a = W k := ⟨_, rfl⟩
      have c0 := hc 0 (by omega)
      have c1 := hc 1 (by omega)
      have c2 := hc 2 (by omega)
      have c3' := hc 3 (by omega)
      have c4' := hc 4 (by omega)
      have c5 := hc 5 (by omega)
      have c6 := hc 6 (by omega)
      have c7 := hc 7 (by omega)
      have cK := KK.out k hlt
      have cW := KW.out k hlt
      rw [← hbl.cell (p := ⟨gk, k, none⟩) (World.block_lt_of_cell? w4 _ cK), ← hZ] at cK
      rw [← hbl.cell (p := ⟨gw, k, none⟩) (World.block_lt_of_cell? w4 _ cW), ← hY] at cW
      rw [← hA] at c0
      rw [← hB] at c1
      rw [← hC] at c2
      rw [← hD] at c3'
      rw [← hE] at c4'
      rw [← hF] at c5
      rw [← hG] at c6
      rw [← hH] at c7
      have ok := HR.out.2.2 k
      have lA : A < 4294967296 := by rw [hA]; exact ok 0
      have lB : B < 4294967296 := by rw [hB]; exact ok 1
      have lC : C < 4294967296 := by rw [hC]; exact ok 2
      have lD : D < 4294967296 := by rw [hD]; exact ok 3
      have lE : E < 4294967296 := by rw [hE]; exact ok 4
      have lF : F < 4294967296 := by rw [hF]; exact ok 5
      have lG : G < 4294967296 := by rw [hG]; exact ok 6
      have lH : H < 4294967296 := by rw [hH]; exact ok 7
      have lZ : Z < 4294967296 := by rw [hZ]; exact kN_ok k
      have lY : Y < 4294967296 := by rw [hY]; exact HWl.out k
      have NX : Hid (R (k + 1) = [(tV E F G H Z Y + uV A B C) % 4294967296, A, B, C, (D + tV E F G H Z Y) % 4294967296, E, F, G]) := by
        show _ = _
        rw [HR.out.2.1 k, hA, hB, hC, hD, hE, hF, hG, hH, hZ, hY]; rfl
      clear hA hB hC hD hE hF hG hH hZ hY ok hc
      have b0 : (k : Int) < 64 := by omega
      have C6 : Hid (∀ w, Calls Tryz.prog 87 #[.int .i64 E, .int .i64 6] w _) := fun w => rright_any E 6 lE (by decide) (by decide) w
      have C11 : Hid (∀ w, Calls Tryz.prog 87 #[.int .i64 E, .int .i64 11] w _) := fun w => rright_any E 11 lE (by decide) (by decide) w
      have C25 : Hid (∀ w, Calls Tryz.prog 87 #[.int .i64 E, .int .i64 25] w _) := fun w => rright_any E 25 lE (by decide) (by decide) w
      have C2 : Hid (∀ w, Calls Tryz.prog 87 #[.int .i64 A, .int .i64 2] w _) := fun w => rright_any A 2 lA (by decide) (by decide) w
      have C13 : Hid (∀ w, Calls Tryz.prog 87 #[.int .i64 A, .int .i64 13] w _) := fun w => rright_any A 13 lA (by decide) (by decide) w
      have C22 : Hid (∀ w, Calls Tryz.prog 87 #[.int .i64 A, .int .i64 22] w _) := fun w => rright_any A 22 lA (by decide) (by decide) w
      go_wp2
      go_quiet (fail)
      go_wp2
      go_quiet (fail)
      go_wp2
      generalize hq : World.drewN (World.drewN wr _) _ = wq
      have d3 : wq.cell? ⟨g, 3, none⟩ = some (.int .i64 (D : Int)) := by rw [← hq]; exact c3'
      have d7 : wq.cell? ⟨g, 7, none⟩ = some (.int .i64 (H : Int)) := by rw [← hq]; exact c7
      have dK : wq.cell? ⟨gk, k, none⟩ = some (.int .i64 (Z : Int)) := by rw [← hq]; exact cK
      have dW : wq.cell? ⟨gw, k, none⟩ = some (.int .i64 (Y : Int)) := by rw [← hq]; exact cW
      have hblq : Below w4.heap.size w4 wq := by rw [← hq]; exact below_drewN (below_drewN hbl _) _
      clear hq c0 c1 c2 c3' c4' c5 c6 c7 cK cW hbl
      go_quiet (first
        | (go_at_call_of 87 (Value.int IntKind.i64 6); exact Calls.quiet_of (C6.out _))
        | (go_at_call_of 87 (Value.int IntKind.i64 11); exact Calls.quiet_of (C11.out _))
        | (go_at_call_of 87 (Value.int IntKind.i64 25); exact Calls.quiet_of (C25.out _))
        | (go_at_call 75; exact Calls.quiet_of_same (word_any _ _)))
      rw [rt_val E F G H Z Y lE lF lG lH lZ lY]
      have lT := tV_lt E F G H Z Y
      have lU := uV_lt A B C
      generalize tV E F G H Z Y = T at *
      have VU : Hid (_ = _) := ru_val A B C lA lB lC
      generalize uV A B C = U at *
      clear C6 C11 C25 d7 dK dW
      go_wp2_with fail
      refine (C2.out _).mono ?_
      rintro e w' ⟨rfl, m1, rfl⟩
      go_wp2_with fail
      refine (C13.out _).mono ?_
      rintro e w' ⟨rfl, m2, rfl⟩
      go_wp2_with fail
      refine (C22.out _).mono ?_
      rintro e w' ⟨rfl, m3, rfl⟩
      go_wp2_with fail
      refine (word_any _ _).mono ?_
      rintro e w' ⟨rfl, rfl⟩
      rw [VU.out]
      clear C2 C13 C22 VU
      go_wp2_with fail
      generalize hq : World.drewN wq _ = wz
      have e3 : wz.cell? ⟨g, 3, none⟩ = some (.int .i64 (D : Int)) := by rw [← hq]; exact d3
      have hblz : Below w4.heap.size w4 wz := by rw [← hq]; exact below_drewN hblq _
      clear hq d3 hblq
      refine wp_region_noPanic ?_
      refine wp_region_held_drew (S := fun w => w.cell? ⟨g, 3, none⟩ = some (.int .i64 (D : Int))) (by kernel_rfl) (by first | exact trivial | assumption | exact ⟨by assumption, by assumption⟩) (fun hHeld => ?_)
      refine take_at (i := 0) (v := ?_) rfl rfl (by kernel_rfl) (by kernel_rfl) (by kernel_rfl) (fun _ _ _ h => h) (Or.inl ⟨by rfl, ?_⟩) (by assumption) ?_
      rotate_left
      · intro w hSw; (try dsimp only at hSw); go_simp; try with_reducible rfl
      try simp only [Act.put, List.setIfInBounds_toArray, List.set_cons_zero, List.set_cons_succ]
      refine take_at (i := 1) (v := ?_) rfl rfl (by kernel_rfl) (by kernel_rfl) (by kernel_rfl) (fun _ _ _ h => h) (Or.inl ⟨by rfl, ?_⟩) (by assumption) ?_
      rotate_left
      · intro w hSw; (try dsimp only at hSw); go_simp; try with_reducible rfl
      try simp only [Act.put, List.setIfInBounds_toArray, List.set_cons_zero, List.set_cons_succ]
      refine take_at (i := 2) (v := ?_) rfl rfl (by kernel_rfl) (by kernel_rfl) (by kernel_rfl) (fun _ _ _ h => h) (Or.inl ⟨by rfl, ?_⟩) (by assumption) ?_
      rotate_left
      · intro w hSw; (try dsimp only at hSw); go_simp; try with_reducible rfl
      try simp only [Act.put, List.setIfInBounds_toArray, List.set_cons_zero, List.set_cons_succ]
      refine take_at (i := 4) (v := ?_) rfl rfl (by kernel_rfl) (by kernel_rfl) (by kernel_rfl) (fun _ _ _ h => h) (Or.inl ⟨by rfl, ?_⟩) (by assumption) ?_
      rotate_left
      · intro w hSw; (try dsimp only at hSw); go_simp; try with_reducible rfl
      try simp only [Act.put, List.setIfInBounds_toArray, List.set_cons_zero, List.set_cons_succ]
      refine take_at (i := 5) (v := ?_) rfl rfl (by kernel_rfl) (by kernel_rfl) (by kernel_rfl) (fun _ _ _ h => h) (Or.inl ⟨by rfl, ?_⟩) (by assumption) ?_
      rotate_left
      · intro w hSw; (try dsimp only at hSw); go_simp; try with_reducible rfl
      try simp only [Act.put, List.setIfInBounds_toArray, List.set_cons_zero, List.set_cons_succ]
      refine take_at (i := 6) (v := ?_) rfl rfl (by kernel_rfl) (by kernel_rfl) (by kernel_rfl) (fun _ _ _ h => h) (Or.inl ⟨by rfl, ?_⟩) (by assumption) ?_
      rotate_left
      · intro w hSw; (try dsimp only at hSw); go_simp; try with_reducible rfl
      try simp only [Act.put, List.setIfInBounds_toArray, List.set_cons_zero, List.set_cons_succ]
      refine take_at (i := 7) (v := ?_) rfl rfl (by kernel_rfl) (by kernel_rfl) (by kernel_rfl) (fun _ _ _ h => h) (Or.inl ⟨by rfl, ?_⟩) (by assumption) ?_
      rotate_left
      · intro w hSw; (try dsimp only at hSw); go_simp; try with_reducible rfl
      try simp only [Act.put, List.setIfInBounds_toArray, List.set_cons_zero, List.set_cons_succ]
      refine take_at (i := 8) (v := ?_) rfl rfl (by kernel_rfl) (by kernel_rfl) (by kernel_rfl) (fun _ _ _ h => h) (Or.inl ⟨by rfl, ?_⟩) (by assumption) ?_
      rotate_left
      · intro w hSw; (try dsimp only at hSw); go_simp; try with_reducible rfl
      try simp only [Act.put, List.setIfInBounds_toArray, List.set_cons_zero, List.set_cons_succ]
      refine take_at (i := 9) (v := ?_) rfl rfl (by kernel_rfl) (by kernel_rfl) (by kernel_rfl) (fun _ _ _ h => h) (Or.inl ⟨by rfl, ?_⟩) (by assumption) ?_
      rotate_left
      · intro w hSw; (try dsimp only at hSw); go_simp; try with_reducible rfl
      try simp only [Act.put, List.setIfInBounds_toArray, List.set_cons_zero, List.set_cons_succ]
      refine take_at (i := 10) (v := ?_) rfl rfl (by kernel_rfl) (by kernel_rfl) (by kernel_rfl) (fun _ _ _ h => h) (Or.inl ⟨by rfl, ?_⟩) (by assumption) ?_
      rotate_left
      · intro w hSw; (try dsimp only at hSw); go_simp; try with_reducible rfl
      try simp only [Act.put, List.setIfInBounds_toArray, List.set_cons_zero, List.set_cons_succ]
      refine take_at (i := 11) (v := ?_) rfl rfl (by kernel_rfl) (by kernel_rfl) (by kernel_rfl) (fun _ _ _ h => h) (Or.inl ⟨by rfl, ?_⟩) (by assumption) ?_
      rotate_left
      · intro w hSw; (try dsimp only at hSw); go_simp; try with_reducible rfl
      try simp only [Act.put, List.setIfInBounds_toArray, List.set_cons_zero, List.set_cons_succ]
      refine take_at (i := 13) (v := ?_) rfl rfl (by kernel_rfl) (by kernel_rfl) (by kernel_rfl) (fun _ _ _ h => h) (Or.inl ⟨by rfl, ?_⟩) (by assumption) ?_
      rotate_left
      · intro w hSw; (try dsimp only at hSw); go_simp; try with_reducible rfl
      try simp only [Act.put, List.setIfInBounds_toArray, List.set_cons_zero, List.set_cons_succ]
      refine take_at (i := 14) (v := ?_) rfl rfl (by kernel_rfl) (by kernel_rfl) (by kernel_rfl) (fun _ _ _ h => h) (Or.inl ⟨by rfl, ?_⟩) (by assumption) ?_
      rotate_left
      · intro w hSw; (try dsimp only at hSw); go_simp; try with_reducible rfl
      try simp only [Act.put, List.setIfInBounds_toArray, List.set_cons_zero, List.set_cons_succ]
      refine take_at (i := 15) (v := ?_) rfl rfl (by kernel_rfl) (by kernel_rfl) (by kernel_rfl) (fun _ _ _ h => h) (Or.inl ⟨by rfl, ?_⟩) (by assumption) ?_
      rotate_left
      · intro w hSw; (try dsimp only at hSw); go_simp; try with_reducible rfl
      try simp only [Act.put, List.setIfInBounds_toArray, List.set_cons_zero, List.set_cons_succ]
      refine wpAnyH_ready (rs := [3]) (by kernel_rfl) (by simp) ?_
      refine AllReadyH.cons rfl (fun K hK => ?_) AllReadyH.nil
      go_simp
      refine (word_any _ _).mono ?_
      rintro e w' ⟨rfl, rfl⟩
      refine hK.out _ _ e3 (fun hHeld => ?_)
      clear hK K
      refine wpAnyH_ready (rs := [12]) (by kernel_rfl) (by simp) ?_
      refine AllReadyH.cons rfl (fun K hK => ?_) AllReadyH.nil
      go_simp
      refine (word_any _ _).mono ?_
      rintro e w' ⟨rfl, rfl⟩
      refine hK.out _ _ e3 (fun hHeld => ?_)
      clear hK K
      refine wpAnyH_ready (rs := [16]) (by kernel_rfl) (by simp) ?_
      refine AllReadyH.cons rfl (fun K hK => ?_) AllReadyH.nil
      go_simp
      refine hK.out _ _ (cell_alloc_keep _ e3) (fun hHeld => ?_)
      clear hK K
      refine take_at (i := 17) (v := ?_) rfl rfl (by kernel_rfl) (by kernel_rfl) (by kernel_rfl) (fun _ _ _ h => h) (Or.inl ⟨by rfl, ?_⟩) (by assumption) ?_
      rotate_left
      · intro w hSw; (try dsimp only at hSw); go_simp; try with_reducible rfl
      try simp only [Act.put, List.setIfInBounds_toArray, List.set_cons_zero, List.set_cons_succ]
      refine wpAnyH_done (by kernel_rfl) (NoPanic.normal ?_) _
      obtain ⟨N0, hN0⟩ : ∃ n, n = (T + U) % 4294967296 := ⟨_, rfl⟩
      obtain ⟨N4, hN4⟩ : ∃ n, n = (D + T) % 4294967296 := ⟨_, rfl⟩
      rw [add32_val T U lT lU, add32_val D T lD lT, ← hN0, ← hN4]
      have NX' := NX.out
      rw [← hN0, ← hN4] at NX'
      have HC := cells_new wz (R (k + 1)) 3 8 #[.int .i64 (N0 : Int), .int .i64 (A : Int), .int .i64 (B : Int), .int .i64 (C : Int), .int .i64 (N4 : Int), .int .i64 (E : Int), .int .i64 (F : Int), .int .i64 (G : Int)] (by rw [NX']; rfl) (by rw [NX']; rfl)
      have HBz := Below.alloc hblz hblz.size (.cells #[.int .i64 (N0 : Int), .int .i64 (A : Int), .int .i64 (B : Int), .int .i64 (C : Int), .int .i64 (N4 : Int), .int .i64 (E : Int), .int .i64 (F : Int), .int .i64 (G : Int)] 3)
      clear hN0 hN4 NX' NX
      have HCz : Hid (∀ j, j < 8 → _) := HC
      clear e3 hblz HC
      go_wp2
      go_roundw
      case rel => exact ⟨k + 1, by omega, by go_num, ⟨wz.heap.size, 8, rfl, HCz.out⟩, HBz.drew⟩
      case measure => simp [intOf]; omega
    · have hk' : k = 64 := by omega
      subst hk'
      obtain ⟨w5, h5⟩ : ∃ w5, w5 = wr := ⟨_, rfl⟩
      rw [← h5] at hc hbl ⊢
      clear h5
      have HC5 : Hid (∀ j, j < 8 → w5.cell? ⟨g, j, none⟩ = _) := hc
      have HV5 : Hid (∀ j, j < 8 → w5.cell? ⟨g3, j, none⟩ = some (.int .i64 ((x.getD j 0 : Nat) : Int))) := fun j hj => by
        have h1 := KV.out j hj
        rw [hbl.cell (p := ⟨g3, j, none⟩) (World.block_lt_of_cell? w4 _ h1), h1]
      have hB5 : Hid (Below w.heap.size w w5) := below_step HB.out (Nat.le_refl _) hbl
      have HO64 : Hid (Ok (R 64)) := HR.out.2.2 64
      have HOx : Hid (Ok x) := by have := HR.out.2.2 0; rw [HR.out.1] at this; exact this
      clear hc hbl KV KW KK HB HR HWl
      obtain ⟨r, hr⟩ : ∃ r, r = R 64 := ⟨_, rfl⟩
      have Hr : Hid (r = R 64) := hr
      rw [← hr] at HC5 HO64
      clear hr
      go_wp2_with fail
      go_loopw [21, 22] (fun v i wr => ∃ k : Nat, k ≤ 8 ∧ i = .int .i64 k ∧ OwnV wr w5.heap.size 3 .i64 v k ((ints (addL x r)).take k) ∧ Below w5.heap.size w5 wr) (fun _ i _ => 8 - (intOf i).toNat)
      case atStart => exact ⟨0, by omega, rfl, OwnV.nil _ _ _ _, Below.refl _ _⟩
      case round =>
        obtain ⟨k, hk, rfl, hown, hbl⟩ := hrel
        by_cases hlt : k < 8
        · obtain ⟨X, hX⟩ : ∃ a, a = x.getD k 0 := ⟨_, rfl⟩
          obtain ⟨Y, hY⟩ : ∃ a, a = r.getD k 0 := ⟨_, rfl⟩
          have c0 := HV5.out k hlt
          have c1 := HC5.out k hlt
          rw [← hbl.cell (p := ⟨g3, k, none⟩) (World.block_lt_of_cell? w5 _ c0), ← hX] at c0
          rw [← hbl.cell (p := ⟨g, k, none⟩) (World.block_lt_of_cell? w5 _ c1), ← hY] at c1
          have lX : X < 4294967296 := by rw [hX]; exact HOx.out k
          have lY : Y < 4294967296 := by rw [hY]; exact HO64.out k
          have NX : Hid ((((X + Y) % 4294967296 : Nat) : Int) = (((x.getD k 0 + r.getD k 0) % 4294967296 : Nat) : Int)) := by show _ = _; rw [hX, hY]
          clear hX hY
          have b0 : (k : Int) < 8 := by omega
          have hsz := hbl.size
          go_wp2
          refine wp_region_noPanic ?_
          refine wp_region_held_drew (S := fun _ => True) (by kernel_rfl) (by first | exact trivial | assumption | exact ⟨by assumption, by assumption⟩) (fun hHeld => ?_)
          refine take_at (i := 0) (v := ?_) rfl rfl (by kernel_rfl) (by kernel_rfl) (by kernel_rfl) (fun _ _ _ h => h) (Or.inl ⟨by rfl, ?_⟩) (by assumption) ?_
          rotate_left
          · intro w hSw; (try dsimp only at hSw); go_simp; try with_reducible rfl
          try simp only [Act.put, List.setIfInBounds_toArray, List.set_cons_zero, List.set_cons_succ]
          refine take_at (i := 1) (v := ?_) rfl rfl (by kernel_rfl) (by kernel_rfl) (by kernel_rfl) (fun _ _ _ h => h) (Or.inl ⟨by rfl, ?_⟩) (by assumption) ?_
          rotate_left
          · intro w hSw; (try dsimp only at hSw); go_simp; try with_reducible rfl
          try simp only [Act.put, List.setIfInBounds_toArray, List.set_cons_zero, List.set_cons_succ]
          refine take_at (i := 2) (v := ?_) rfl rfl (by kernel_rfl) (by kernel_rfl) (by kernel_rfl) (fun _ _ _ h => h) (Or.inl ⟨by rfl, ?_⟩) (by assumption) ?_
          rotate_left
          · intro w hSw; (try dsimp only at hSw); go_simp; try with_reducible rfl
          try simp only [Act.put, List.setIfInBounds_toArray, List.set_cons_zero, List.set_cons_succ]
          refine take_at (i := 3) (v := ?_) rfl rfl (by kernel_rfl) (by kernel_rfl) (by kernel_rfl) (fun _ _ _ h => h) (Or.inl ⟨by rfl, ?_⟩) (by assumption) ?_
          rotate_left
          · intro w hSw; (try dsimp only at hSw); go_simp; try with_reducible rfl
          try simp only [Act.put, List.setIfInBounds_toArray, List.set_cons_zero, List.set_cons_succ]
          refine take_at (i := 5) (v := ?_) rfl rfl (by kernel_rfl) (by kernel_rfl) (by kernel_rfl) (fun _ _ _ h => h) (Or.inl ⟨by rfl, ?_⟩) (by assumption) ?_
          rotate_left
          · intro w hSw; (try dsimp only at hSw); go_simp; try with_reducible rfl
          try simp only [Act.put, List.setIfInBounds_toArray, List.set_cons_zero, List.set_cons_succ]
          refine take_at (i := 6) (v := ?_) rfl rfl (by kernel_rfl) (by kernel_rfl) (by kernel_rfl) (fun _ _ _ h => h) (Or.inl ⟨by rfl, ?_⟩) (by assumption) ?_
          rotate_left
          · intro w hSw; (try dsimp only at hSw); go_simp; try with_reducible rfl
          try simp only [Act.put, List.setIfInBounds_toArray, List.set_cons_zero, List.set_cons_succ]
          refine take_at (i := 7) (v := ?_) rfl rfl (by kernel_rfl) (by kernel_rfl) (by kernel_rfl) (fun _ _ _ h => h) (Or.inl ⟨by rfl, ?_⟩) (by assumption) ?_
          rotate_left
          · intro w hSw; (try dsimp only at hSw); go_simp; try with_reducible rfl
          try simp only [Act.put, List.setIfInBounds_toArray, List.set_cons_zero, List.set_cons_succ]
          refine wpAnyH_ready (rs := [4, 8]) (by kernel_rfl) (by simp) ?_
          refine AllReadyH.cons rfl (fun K hK => ?_) (AllReadyH.cons rfl (fun K hK => ?_) AllReadyH.nil)
          · go_simp
            refine hK.out _ _ trivial (fun hHeld => ?_)
            clear hK K
            refine wpAnyH_ready (rs := [8]) (by kernel_rfl) (by simp) ?_
            refine AllReadyH.cons rfl (fun K hK => ?_) AllReadyH.nil
            go_simp
            refine hK.out _ _ trivial (fun hHeld => ?_)
            clear hK K
            refine take_at (i := 9) (v := ?_) rfl rfl (by kernel_rfl) (by kernel_rfl) (by kernel_rfl) (fun _ _ _ h => h) (Or.inl ⟨by rfl, ?_⟩) (by assumption) ?_
            rotate_left
            · intro w hSw; (try dsimp only at hSw); go_simp; try with_reducible rfl
            try simp only [Act.put, List.setIfInBounds_toArray, List.set_cons_zero, List.set_cons_succ]
            refine wpAnyH_ready (rs := [10]) (by kernel_rfl) (by simp) ?_
            refine AllReadyH.cons rfl (fun K hK => ?_) AllReadyH.nil
            go_simp
            refine (word_any _ _).mono ?_
            rintro e w' ⟨rfl, rfl⟩
            refine hK.out _ _ trivial (fun hHeld => ?_)
            clear hK K
            refine wpAnyH_ready (rs := [11]) (by kernel_rfl) (by simp) ?_
            refine AllReadyH.cons rfl (fun K hK => ?_) AllReadyH.nil
            go_simp
            refine hK.out _ _ trivial (fun hHeld => ?_)
            clear hK K
            refine wpAnyH_ready (rs := [12]) (by kernel_rfl) (by simp) ?_
            refine AllReadyH.cons rfl (fun K hK => ?_) AllReadyH.nil
            refine step_app1 rfl rfl _ _ 47 rfl w5.heap.size 3 i0 .i64 8 Tryz.underlying47 hi hz0 hz1 hz2 wr u21 k _ rfl hown _ rfl (by omega) (by omega) (by exact hsz) ?_
            intro v' w2 hown1 hbl1
            refine hK.out _ _ trivial (fun hHeld => ?_)
            clear hK K
            refine take_at (i := 13) (v := ?_) rfl rfl (by kernel_rfl) (by kernel_rfl) (by kernel_rfl) (fun _ _ _ h => h) (Or.inl ⟨by rfl, ?_⟩) (by assumption) ?_
            rotate_left
            · intro w hSw; (try dsimp only at hSw); go_simp; try with_reducible rfl
            try simp only [Act.put, List.setIfInBounds_toArray, List.set_cons_zero, List.set_cons_succ]
            refine wpAnyH_done (by kernel_rfl) (NoPanic.normal ?_) _
            rw [add32_val X Y lX lY, NX.out, addL_snoc x _ k hlt] at hown1
            have HB2 := hbl.trans hbl1
            clear hbl1 hown hbl c0 c1
            go_wp2
            go_roundw
            case rel =>
              (repeat apply Exists.intro)
              refine ⟨?_, rfl⟩
              exact ⟨k + 1, by omega, by go_num, hown1, HB2⟩
            case measure => simp [intOf]; omega
          · go_simp
            refine hK.out _ _ trivial (fun hHeld => ?_)
            clear hK K
            refine wpAnyH_ready (rs := [4]) (by kernel_rfl) (by simp) ?_
            refine AllReadyH.cons rfl (fun K hK => ?_) AllReadyH.nil
            go_simp
            refine hK.out _ _ trivial (fun hHeld => ?_)
            clear hK K
            refine take_at (i := 9) (v := ?_) rfl rfl (by kernel_rfl) (by kernel_rfl) (by kernel_rfl) (fun _ _ _ h => h) (Or.inl ⟨by rfl, ?_⟩) (by assumption) ?_
            rotate_left
            · intro w hSw; (try dsimp only at hSw); go_simp; try with_reducible rfl
            try simp only [Act.put, List.setIfInBounds_toArray, List.set_cons_zero, List.set_cons_succ]
            refine wpAnyH_ready (rs := [10]) (by kernel_rfl) (by simp) ?_
            refine AllReadyH.cons rfl (fun K hK => ?_) AllReadyH.nil
            go_simp
            refine (word_any _ _).mono ?_
            rintro e w' ⟨rfl, rfl⟩
            refine hK.out _ _ trivial (fun hHeld => ?_)
            clear hK K
            refine wpAnyH_ready (rs := [11]) (by kernel_rfl) (by simp) ?_
            refine AllReadyH.cons rfl (fun K hK => ?_) AllReadyH.nil
            go_simp
            refine hK.out _ _ trivial (fun hHeld => ?_)
            clear hK K
            refine wpAnyH_ready (rs := [12]) (by kernel_rfl) (by simp) ?_
            refine AllReadyH.cons rfl (fun K hK => ?_) AllReadyH.nil
            refine step_app1 rfl rfl _ _ 47 rfl w5.heap.size 3 i0 .i64 8 Tryz.underlying47 hi hz0 hz1 hz2 wr u21 k _ rfl hown _ rfl (by omega) (by omega) (by exact hsz) ?_
            intro v' w2 hown1 hbl1
            refine hK.out _ _ trivial (fun hHeld => ?_)
            clear hK K
            refine take_at (i := 13) (v := ?_) rfl rfl (by kernel_rfl) (by kernel_rfl) (by kernel_rfl) (fun _ _ _ h => h) (Or.inl ⟨by rfl, ?_⟩) (by assumption) ?_
            rotate_left
            · intro w hSw; (try dsimp only at hSw); go_simp; try with_reducible rfl
            try simp only [Act.put, List.setIfInBounds_toArray, List.set_cons_zero, List.set_cons_succ]
            refine wpAnyH_done (by kernel_rfl) (NoPanic.normal ?_) _
            rw [add32_val X Y lX lY, NX.out, addL_snoc x _ k hlt] at hown1
            have HB2 := hbl.trans hbl1
            clear hbl1 hown hbl c0 c1
            go_wp2
            go_roundw
            case rel =>
              (repeat apply Exists.intro)
              refine ⟨?_, rfl⟩
              exact ⟨k + 1, by omega, by go_num, hown1, HB2⟩
            case measure => simp [intOf]; omega
        · have hk8 : k = 8 := by omega
          subst hk8
          rw [List.take_of_length_le (by rw [ints_length, addL_length]; omega)] at hown
          obtain ⟨a, c', rfl, hI⟩ := hown.ints
          have HI : Hid (IntsAt wr .i64 a 8 _) := hI
          clear hI hown hi hz0 hz1 hz2
          go_wp2_with fail
          refine (rputBig_any _ 8 _ _ _ (by omega) HI.out).mono ?_
          rintro e w6 ⟨rfl, hb6⟩
          go_wp2_with fail
          go_ret2
          refine ⟨?_, below_step (below_step hB5.out (Nat.le_refl _) hbl) (Nat.le_refl _) hb6⟩
          rw [← Hr.out]; rfl

theorem rblock_ok (s b : ByteArray) (w : World) (hs : s.size = 32) (hb : b.size = 64) :
    Calls Tryz.prog 78 #[.string s, .string b] w fun e w' => e = .returned (.tuple #[.string (ofN (behindN (wordsN s) (bt b))), .int .i64 0]) ∧ Below w.heap.size w w' :=
  rblock_walk s b (wS (blkN (bt b))) (runN (blkN (bt b)) (wordsN s)) (wordsN s) w hs hb rfl (spread_wS (bt b) (bt_lt b)) ⟨rfl, fun _ => rfl, runN_ok _ _ (wordsN_ok s)⟩
end Go.Proofs.YtglgppeloolbhaaGreatDoor
