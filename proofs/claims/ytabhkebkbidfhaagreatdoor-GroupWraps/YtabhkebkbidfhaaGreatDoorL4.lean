import Derived.Maps.RangeWalk
import Derived.Test.YtabhkebkbidfhaaGreatDoorG
import Derived.Deep.WholeRow
import Derived.Laws.CopyOwn
import Derived.Deep.MidRow
import Derived.Test.YtabhkebkbidfhaaGreatDoorRows
import Derived.Lib.LaidTab
import Derived.MakeChecks
import Derived.Stop.LaidErr
import Derived.Test.YtabhkebkbidfhaaGreatDoorShelfV
import Derived.Test.YtabhkebkbidfhaaGreatDoorShelfK
import Derived.Test.YtabhkebkbidfhaaGreatDoorL1
import Derived.Room.AppendFits
namespace Go.Proofs.YtabhkebkbidfhaaGreatDoor
open Go.RowKit
set_option maxRecDepth 100000
def rr (x n : Nat) : Nat := rotN x (32 - n)
theorem rr_lt (x n : Nat) (h : x < 4294967296) : rr x n < 4294967296 := rotN_lt x _ h
def sg0 (x : Nat) : Nat := (rr x 7 ^^^ rr x 18) ^^^ (x / 8)
def sg1 (x : Nat) : Nat := (rr x 17 ^^^ rr x 19) ^^^ (x / 1024)
def bs0 (x : Nat) : Nat := (rr x 2 ^^^ rr x 13) ^^^ rr x 22
def bs1 (x : Nat) : Nat := (rr x 6 ^^^ rr x 11) ^^^ rr x 25
def chN (e f g : Nat) : Nat := (e &&& f) ^^^ ((4294967295 - e) &&& g)
def majN (a b c : Nat) : Nat := ((a &&& b) ^^^ (a &&& c)) ^^^ (b &&& c)
theorem sg0_lt (x : Nat) (h : x < 4294967296) : sg0 x < 4294967296 := xor_lt32 _ _ (xor_lt32 _ _ (rr_lt x _ h) (rr_lt x _ h)) (by omega)
theorem sg1_lt (x : Nat) (h : x < 4294967296) : sg1 x < 4294967296 := xor_lt32 _ _ (xor_lt32 _ _ (rr_lt x _ h) (rr_lt x _ h)) (by omega)
theorem bs0_lt (x : Nat) (h : x < 4294967296) : bs0 x < 4294967296 := xor_lt32 _ _ (xor_lt32 _ _ (rr_lt x _ h) (rr_lt x _ h)) (rr_lt x _ h)
theorem bs1_lt (x : Nat) (h : x < 4294967296) : bs1 x < 4294967296 := xor_lt32 _ _ (xor_lt32 _ _ (rr_lt x _ h) (rr_lt x _ h)) (rr_lt x _ h)
theorem chN_lt (e f g : Nat) (he : e < 4294967296) : chN e f g < 4294967296 := xor_lt32 _ _ (and_lt32 _ _ he) (and_lt32 _ _ (by omega))
theorem majN_lt (a b c : Nat) (ha : a < 4294967296) (hb : b < 4294967296) : majN a b c < 4294967296 := xor_lt32 _ _ (xor_lt32 _ _ (and_lt32 _ _ ha) (and_lt32 _ _ ha)) (and_lt32 _ _ hb)
def kN : List Nat := [0x428a2f98, 0x71374491, 0xb5c0fbcf, 0xe9b5dba5, 0x3956c25b, 0x59f111f1, 0x923f82a4, 0xab1c5ed5, 0xd807aa98, 0x12835b01, 0x243185be, 0x550c7dc3, 0x72be5d74, 0x80deb1fe, 0x9bdc06a7, 0xc19bf174, 0xe49b69c1, 0xefbe4786, 0x0fc19dc6, 0x240ca1cc, 0x2de92c6f, 0x4a7484aa, 0x5cb0a9dc, 0x76f988da, 0x983e5152, 0xa831c66d, 0xb00327c8, 0xbf597fc7, 0xc6e00bf3, 0xd5a79147, 0x06ca6351, 0x14292967, 0x27b70a85, 0x2e1b2138, 0x4d2c6dfc, 0x53380d13, 0x650a7354, 0x766a0abb, 0x81c2c92e, 0x92722c85, 0xa2bfe8a1, 0xa81a664b, 0xc24b8b70, 0xc76c51a3, 0xd192e819, 0xd6990624, 0xf40e3585, 0x106aa070, 0x19a4c116, 0x1e376c08, 0x2748774c, 0x34b0bcb5, 0x391c0cb3, 0x4ed8aa4a, 0x5b9cca4f, 0x682e6ff3, 0x748f82ee, 0x78a5636f, 0x84c87814, 0x8cc70208, 0x90befffa, 0xa4506ceb, 0xbef9a3f7, 0xc67178f2]
def bN : List Nat := [0x6a09e667, 0xbb67ae85, 0x3c6ef372, 0xa54ff53a, 0x510e527f, 0x9b05688c, 0x1f83d9ab, 0x5be0cd19]
theorem kN_ok : Ok kN := ok_all _ (by decide +kernel)
theorem bN_ok : Ok bN := ok_all _ (by decide +kernel)
def nextW (l : List Nat) (k : Nat) : Nat := (l.getD k 0 + sg0 (l.getD (k + 1) 0) + l.getD (k + 9) 0 + sg1 (l.getD (k + 14) 0)) % 4294967296
def schedL (l : List Nat) : Nat → List Nat
  | 0 => l
  | k + 1 => schedL l k ++ [nextW (schedL l k) k]
theorem schedL_length (l : List Nat) (k : Nat) : (schedL l k).length = l.length + k := by
  induction k with
  | zero => rfl
  | succ k ih => simp [schedL, ih]; omega
theorem schedL_succ (l : List Nat) (k : Nat) : schedL l (k + 1) = schedL l k ++ [nextW (schedL l k) k] := rfl
theorem getD_snoc_left (l : List Nat) (x i : Nat) (h : i < l.length) : (l ++ [x]).getD i 0 = l.getD i 0 := by
  rw [List.getD_eq_getElem?_getD, List.getD_eq_getElem?_getD, List.getElem?_append_left h]
theorem getD_snoc_last (l : List Nat) (x : Nat) : (l ++ [x]).getD l.length 0 = x := by
  rw [List.getD_eq_getElem?_getD, List.getElem?_append_right (Nat.le_refl _)]; simp
theorem schedL_keep (l : List Nat) (k i : Nat) (h : i < l.length + k) : (schedL l (k + 1)).getD i 0 = (schedL l k).getD i 0 := by
  rw [schedL_succ, getD_snoc_left _ _ _ (by rw [schedL_length]; exact h)]
theorem schedL_grow (l : List Nat) (k m i : Nat) (h : i < l.length + k) : (schedL l (k + m)).getD i 0 = (schedL l k).getD i 0 := by
  induction m with
  | zero => rfl
  | succ m ih => rw [Nat.add_succ, schedL_keep l (k + m) i (by omega), ih]
theorem schedL_new (l : List Nat) (k : Nat) : (schedL l (k + 1)).getD (l.length + k) 0 = nextW (schedL l k) k := by
  rw [schedL_succ, ← schedL_length l k, getD_snoc_last]
theorem schedL_ok (l : List Nat) (h : Ok l) (k : Nat) : Ok (schedL l k) := by
  induction k with
  | zero => exact h
  | succ k ih =>
    intro i
    have hl := schedL_length l k
    by_cases h1 : i < l.length + k
    · rw [schedL_keep l k i h1]; exact ih i
    · by_cases h2 : i = l.length + k
      · rw [h2, schedL_new]; unfold nextW; omega
      · rw [List.getD_eq_getElem?_getD, List.getElem?_eq_none (by rw [schedL_length]; omega)]; decide
def wS (l : List Nat) (i : Nat) : Nat := (schedL l 48).getD i 0
theorem wS_lt (l : List Nat) (h : Ok l) (i : Nat) : wS l i < 4294967296 := schedL_ok l h 48 i
theorem wS_first (l : List Nat) (hl : l.length = 16) (i : Nat) (h : i < 16) : wS l i = l.getD i 0 := by
  unfold wS; rw [show (48 : Nat) = 0 + 48 from rfl, schedL_grow l 0 48 i (by omega)]; rfl
def nx (a b c d : Nat) : Nat := (a + sg0 b + c + sg1 d) % 4294967296
theorem wS_next (l : List Nat) (hl : l.length = 16) (k : Nat) (h : k < 48) :
    wS l (k + 16) = nx (wS l k) (wS l (k + 1)) (wS l (k + 9)) (wS l (k + 14)) := by
  unfold wS
  have e1 : (schedL l 48).getD (k + 16) 0 = nextW (schedL l k) k := by
    rw [show (48 : Nat) = (k + 1) + (47 - k) by omega, schedL_grow l (k + 1) (47 - k) (k + 16) (by omega), show k + 16 = l.length + k by omega, schedL_new]
  have e2 : ∀ j, j < 16 + k → (schedL l 48).getD j 0 = (schedL l k).getD j 0 := fun j hj => by
    rw [show (48 : Nat) = k + (48 - k) by omega, schedL_grow l k (48 - k) j (by omega)]
  rw [e1, e2 k (by omega), e2 (k + 1) (by omega), e2 (k + 9) (by omega), e2 (k + 14) (by omega)]
  rfl
def tV (e f g h K W : Nat) : Nat := (h + bs1 e + chN e f g + K + W) % 4294967296
def uV (a b c : Nat) : Nat := (bs0 a + majN a b c) % 4294967296
def tN (K W : Nat) (x : List Nat) : Nat := tV (x.getD 4 0) (x.getD 5 0) (x.getD 6 0) (x.getD 7 0) K W
def uN (x : List Nat) : Nat := uV (x.getD 0 0) (x.getD 1 0) (x.getD 2 0)
def rnd (K W : Nat) (x : List Nat) : List Nat := [(tN K W x + uN x) % 4294967296, x.getD 0 0, x.getD 1 0, x.getD 2 0, (x.getD 3 0 + tN K W x) % 4294967296, x.getD 4 0, x.getD 5 0, x.getD 6 0]
def runN (l x : List Nat) : Nat → List Nat
  | 0 => x
  | k + 1 => rnd (kN.getD k 0) (wS l k) (runN l x k)
theorem ok8 (a b c d e f g h : Nat) (ha : a < 4294967296) (hb : b < 4294967296) (hc : c < 4294967296) (hd : d < 4294967296) (he : e < 4294967296) (hf : f < 4294967296) (hg : g < 4294967296) (hh : h < 4294967296) : Ok [a, b, c, d, e, f, g, h] :=
  ok_all _ (by simp [ha, hb, hc, hd, he, hf, hg, hh])
theorem rnd_ok (K W : Nat) (x : List Nat) (h : Ok x) : Ok (rnd K W x) :=
  ok8 _ _ _ _ _ _ _ _ (Nat.mod_lt _ (by decide)) (h 0) (h 1) (h 2) (Nat.mod_lt _ (by decide)) (h 4) (h 5) (h 6)
theorem runN_ok (l x : List Nat) (h : Ok x) (k : Nat) : Ok (runN l x k) := by
  induction k with
  | zero => exact h
  | succ k ih => exact rnd_ok _ _ _ ih
theorem runN_length (l x : List Nat) (h : x.length = 8) (k : Nat) : (runN l x k).length = 8 := by
  cases k with
  | zero => exact h
  | succ k => rfl
def addL (x y : List Nat) : List Nat := (List.range 8).map fun i => (x.getD i 0 + y.getD i 0) % 4294967296
theorem addL_length (x y : List Nat) : (addL x y).length = 8 := by simp [addL]
theorem addL_getD (x y : List Nat) (i : Nat) (h : i < 8) : (addL x y).getD i 0 = (x.getD i 0 + y.getD i 0) % 4294967296 := by
  simp [addL, List.getElem?_range h]
theorem addL_ok (x y : List Nat) : Ok (addL x y) := by
  intro i
  by_cases h : i < 8
  · rw [addL_getD x y i h]; omega
  · rw [List.getD_eq_getElem?_getD, List.getElem?_eq_none (by rw [addL_length]; omega)]; decide
def blkN (f : Nat → Nat) : List Nat := (List.range 16).map fun i => bigW (f (4 * i)) (f (4 * i + 1)) (f (4 * i + 2)) (f (4 * i + 3))
def behindN (x : List Nat) (f : Nat → Nat) : List Nat := addL x (runN (blkN f) x 64)
theorem behindN_length (x : List Nat) (f : Nat → Nat) : (behindN x f).length = 8 := addL_length _ _
theorem behindN_ok (x : List Nat) (f : Nat → Nat) : Ok (behindN x f) := addL_ok _ _
theorem blkN_congr (f g : Nat → Nat) (h : ∀ j, j < 64 → f j = g j) : blkN f = blkN g := by
  unfold blkN
  apply List.map_congr_left
  intro i hi
  have := List.mem_range.1 hi
  rw [h (4 * i) (by omega), h (4 * i + 1) (by omega), h (4 * i + 2) (by omega), h (4 * i + 3) (by omega)]
theorem behindN_congr (x : List Nat) (f g : Nat → Nat) (h : ∀ j, j < 64 → f j = g j) : behindN x f = behindN x g := by
  unfold behindN; rw [blkN_congr f g h]
def foldN (f : Nat → Nat) (x : List Nat) : Nat → List Nat
  | 0 => x
  | k + 1 => behindN (foldN f x k) (fun j => f (64 * k + j))
theorem foldN_succ (f : Nat → Nat) (x : List Nat) (k : Nat) : foldN f x (k + 1) = behindN (foldN f x k) (fun j => f (64 * k + j)) := rfl
theorem foldN_ok (f : Nat → Nat) (x : List Nat) (h : Ok x) (k : Nat) : Ok (foldN f x k) := by
  cases k with
  | zero => exact h
  | succ k => exact behindN_ok _ _
theorem foldN_length (f : Nat → Nat) (x : List Nat) (h : x.length = 8) (k : Nat) : (foldN f x k).length = 8 := by
  cases k with
  | zero => exact h
  | succ k => exact behindN_length _ _
theorem foldN_congr (f g : Nat → Nat) (x : List Nat) (k : Nat) (h : ∀ j, j < 64 * k → f j = g j) : foldN f x k = foldN g x k := by
  induction k with
  | zero => rfl
  | succ k ih =>
    rw [foldN_succ, foldN_succ, ih (fun j hj => h j (by omega))]
    exact behindN_congr _ _ _ (fun j hj => h _ (by omega))
theorem foldN_add (f : Nat → Nat) (x : List Nat) (m n : Nat) : foldN f x (m + n) = foldN (fun j => f (64 * m + j)) (foldN f x m) n := by
  induction n with
  | zero => rfl
  | succ n ih =>
    rw [← Nat.add_assoc, foldN_succ, ih, foldN_succ]
    exact behindN_congr _ _ _ (fun j _ => by show f _ = f _; rw [show 64 * (m + n) + j = 64 * m + (64 * n + j) by omega])
def ofN (x : List Nat) : ByteArray := ⟨(putL (ints x) bsh).toArray⟩
theorem ofN_size (x : List Nat) (h : x.length = 8) : (ofN x).size = 32 := by
  show (putL (ints x) bsh).toArray.size = 32
  rw [List.size_toArray, putL_length, ints_length, h]
def wordsN (s : ByteArray) : List Nat := (List.range (s.size / 4)).map fun i => bigW (bt s (4 * i)) (bt s (4 * i + 1)) (bt s (4 * i + 2)) (bt s (4 * i + 3))
theorem wordsN_ints (s : ByteArray) : wordsL s bsh = ints (wordsN s) := by
  unfold wordsL tab ints wordsN
  rw [List.map_map]
  apply List.map_congr_left
  intro i hi
  have := List.mem_range.1 hi
  show ((wAt s bsh s.size i : Nat) : Int) = _
  rw [wAt_big s i (by omega)]
  rfl
theorem wordsN_length (s : ByteArray) : (wordsN s).length = s.size / 4 := by simp [wordsN]
theorem wordsN_blk (s : ByteArray) (h : s.size = 64) : wordsN s = blkN (bt s) := by unfold wordsN blkN; rw [show s.size / 4 = 16 by omega]
theorem bigW_lt (a b c d : Nat) (ha : a < 256) (hb : b < 256) (hc : c < 256) (hd : d < 256) : bigW a b c d < 4294967296 := by
  rw [bigW_sum a b c d hb hc hd]; omega
theorem blkN_getD (f : Nat → Nat) (i : Nat) (hi : i < 16) : (blkN f).getD i 0 = bigW (f (4 * i)) (f (4 * i + 1)) (f (4 * i + 2)) (f (4 * i + 3)) := map_range_getD 16 _ i hi
theorem blkN_ok (f : Nat → Nat) (h : ∀ j, f j < 256) : Ok (blkN f) := by
  intro i
  by_cases hi : i < 16
  · rw [blkN_getD f i hi]; exact bigW_lt _ _ _ _ (h _) (h _) (h _) (h _)
  · rw [List.getD_eq_getElem?_getD, List.getElem?_eq_none (by simp [blkN]; omega)]; decide
theorem blkN_length (f : Nat → Nat) : (blkN f).length = 16 := by simp [blkN]
theorem wordsN_getD (s : ByteArray) (i : Nat) (hi : i < s.size / 4) : (wordsN s).getD i 0 = bigW (bt s (4 * i)) (bt s (4 * i + 1)) (bt s (4 * i + 2)) (bt s (4 * i + 3)) := map_range_getD _ _ i hi
theorem wordsN_ok (s : ByteArray) : Ok (wordsN s) := by
  intro i
  by_cases hi : i < s.size / 4
  · rw [wordsN_getD s i hi]; exact bigW_lt _ _ _ _ (bt_lt _ _) (bt_lt _ _) (bt_lt _ _) (bt_lt _ _)
  · rw [List.getD_eq_getElem?_getD, List.getElem?_eq_none (by rw [wordsN_length]; omega)]; decide
theorem wordsN_ofN (x : List Nat) (h : Ok x) : wordsN (ofN x) = x := by
  have hs : (ofN x).size = 4 * x.length := by show (putL (ints x) bsh).toArray.size = _; rw [List.size_toArray, putL_length, ints_length]
  apply List.ext_getElem
  · rw [wordsN_length, hs]; omega
  · intro i h1 h2
    have e : (wordsN (ofN x))[i] = bigW (bt (ofN x) (4 * i)) (bt (ofN x) (4 * i + 1)) (bt (ofN x) (4 * i + 2)) (bt (ofN x) (4 * i + 3)) := by simp [wordsN]
    have hl : (ints x).length = x.length := ints_length x
    have hb : ∀ j, j < 4 * x.length → bt (ofN x) j = pb (ints x) bsh j := fun j hj => putL_bt (ints x) bsh j (by rw [hl]; exact hj)
    have hx : x[i] < 4294967296 := by have := h i; rw [List.getD_eq_getElem?_getD, List.getElem?_eq_getElem h2] at this; exact this
    have hg : (ints x).getD i 0 % 4294967296 = ((x[i] : Nat) : Int) := by
      rw [ints_getD, List.getD_eq_getElem?_getD, List.getElem?_eq_getElem h2]; show ((x[i] : Nat) : Int) % _ = _; omega
    rw [e, hb _ (by omega), hb _ (by omega), hb _ (by omega), hb _ (by omega), bigW_sum _ _ _ _ (pb_lt _ _ _) (pb_lt _ _ _) (pb_lt _ _ _)]
    have p0 := pb0 (ints x) i x[i] hx hg
    have p1 := pb1 (ints x) i x[i] hg
    have p2 := pb2 (ints x) i x[i] hg
    have p3 := pb3 (ints x) i x[i] hg
    omega
def zerosN (n : Nat) : Nat := (64 - (n + 9) % 64) % 64
def lenL (n : Nat) : List UInt8 := putL [((8 * n / 4294967296 : Nat) : Int), ((8 * n : Nat) : Int)] bsh
def padL (n : Nat) : List UInt8 := 128 :: (List.replicate (zerosN n) 0 ++ lenL n)
def padB (n : Nat) : ByteArray := ⟨(padL n).toArray⟩
def fullF (s : ByteArray) (j : Nat) : Nat := if j < s.size then bt s j else ((padL s.size).getD (j - s.size) 0).toNat
def sumN (s : ByteArray) : List Nat := foldN (fullF s) bN ((s.size + 9 + zerosN s.size) / 64)
theorem i64_and_nat (a b : Nat) (ha : a < 9223372036854775808) (hb : b < 9223372036854775808) : bits .and .i64 (a : Int) (b : Int) = ((a &&& b : Nat) : Int) :=
  (bits_nat .i64 63 (by decide) wraps_i64 a b ha hb).1
set_option maxHeartbeats 400000 in
theorem right_any (X n : Nat) (hX : X < 4294967296) (h1 : 1 ≤ n) (h2 : n ≤ 31) (w : World) :
    Calls Tryz.prog 171 #[.int .u32 X, .int .i64 n] w fun e w' => e = .returned (.int .u32 (rr X n)) ∧ w' = w := by
  have hr : rr X n < 4294967296 := rr_lt X n hX
  have C : Hid (∀ w, Calls Tryz.prog 183 #[.int .i64 X, .int .i64 (-(n : Int))] w fun e w' => e = .returned (.int .i64 (rr X n)) ∧ w' = w) :=
    fun w => rot_nat (X : Int) (-(n : Int)) X (32 - n) hX (by omega) w (by omega) (by omega)
  go_enter Tryz.func171, Tryz.ntmps171
  go_wp2_with (go_at_call 183; refine (C.out _).mono ?_; rintro e w' ⟨rfl, rfl⟩)
  go_ret
  exact ⟨rfl, rfl⟩
set_option maxHeartbeats 400000 in
theorem rrot_drew (x n : Int) (X k : Nat) (hX : X < 4294967296) (hk : k < 32) (w : World) (ex : x % 4294967296 = (X : Int)) (en : n % 32 = (k : Int)) :
    Calls Tryz.prog 165 #[.int .i64 x, .int .i64 n] w fun e w' => e = .returned (.int .i64 (rotN X k)) ∧ ∃ m, w' = w.drewN m := by
  have h := i64_and31 n
  rw [en] at h
  have hr := rotN_lt X k hX
  clear en
  have hw := fun w => word_any x w
  rw [ex] at hw
  have HW : Hid (∀ w, _) := hw
  clear hw
  go_enter Tryz.func165, Tryz.ntmps165
  go_wp2
  go_quiet ((go_at_call 149; first | exact Calls.quiet_of_same (HW.out _) | exact Calls.quiet_of_same (word_any _ _)))
  go_wp2
  go_ret
  refine ⟨?_, nq, rfl⟩
  rw [← rrot_bits X k hX hk]; rfl
set_option maxHeartbeats 400000 in
theorem rright_any (X n : Nat) (hX : X < 4294967296) (h1 : 1 ≤ n) (h2 : n ≤ 31) (w : World) :
    Calls Tryz.prog 150 #[.int .i64 X, .int .i64 n] w fun e w' => e = .returned (.int .i64 (rr X n)) ∧ ∃ m, w' = w.drewN m := by
  have hr : rr X n < 4294967296 := rr_lt X n hX
  have C : Hid (∀ w, Calls Tryz.prog 165 #[.int .i64 X, .int .i64 (32 - (n : Int))] w fun e w' => e = .returned (.int .i64 (rr X n)) ∧ ∃ m, w' = w.drewN m) :=
    fun w => rrot_drew (X : Int) (32 - (n : Int)) X (32 - n) hX (by omega) w (by omega) (by omega)
  go_enter Tryz.func150, Tryz.ntmps150
  go_wp2_with (go_at_call 165; refine (C.out _).mono ?_; rintro e w' ⟨rfl, m, rfl⟩)
  go_ret
  exact ⟨rfl, m, rfl⟩
set_option linter.unusedSimpArgs false
def Spread (W : Nat → Nat) (f : Nat → Nat) : Prop := (∀ i, W i < 4294967296) ∧ (∀ k, k < 48 → W (k + 16) = nx (W k) (W (k + 1)) (W (k + 9)) (W (k + 14))) ∧ ∀ i, i < 16 → W i = (blkN f).getD i 0
theorem spread_wS (f : Nat → Nat) (h : ∀ j, f j < 256) : Spread (wS (blkN f)) f :=
  ⟨wS_lt _ (blkN_ok f h), wS_next _ (blkN_length f), wS_first _ (blkN_length f)⟩
theorem rsched_bits (a b : Nat) (n m : Nat) (X : Nat) (ha : a < 4294967296) (hb : b < 4294967296) (hX : X < 4294967296) (hm : n = a ^^^ b ^^^ (X / m)) :
    bits .xor .i64 (bits .xor .i64 (a : Int) (b : Int)) ((X : Int) / (m : Int)) = (n : Int) := by
  have h1 := xor_lt32 a b ha hb
  have h2 : X / m < 4294967296 := Nat.lt_of_le_of_lt (Nat.div_le_self _ _) hX
  rw [i64_xor_nat _ _ (by omega) (by omega), show ((X : Int) / (m : Int)) = ((X / m : Nat) : Int) by simp, i64_xor_nat _ _ (by omega) (by omega), hm]
theorem rsched_next (X0 X1 X9 X14 : Nat) (l0 : X0 < 4294967296) (l1 : X1 < 4294967296) (l9 : X9 < 4294967296) (l14 : X14 < 4294967296) :
    IntKind.i64.wrap (IntKind.i64.wrap (IntKind.i64.wrap ((X0 : Int) + bits .xor .i64 (bits .xor .i64 ((rr X1 7 : Nat) : Int) ((rr X1 18 : Nat) : Int)) ((X1 : Int) / 8)) + (X9 : Int)) + bits .xor .i64 (bits .xor .i64 ((rr X14 17 : Nat) : Int) ((rr X14 19 : Nat) : Int)) ((X14 : Int) / 1024)) % 4294967296 = ((nx X0 X1 X9 X14 : Nat) : Int) := by
  have e1 := rsched_bits (rr X1 7) (rr X1 18) (sg0 X1) 8 X1 (rr_lt _ _ l1) (rr_lt _ _ l1) l1 rfl
  have e2 := rsched_bits (rr X14 17) (rr X14 19) (sg1 X14) 1024 X14 (rr_lt _ _ l14) (rr_lt _ _ l14) l14 rfl
  have h1 := sg0_lt X1 l1
  have h2 := sg1_lt X14 l14
  rw [show ((8 : Nat) : Int) = 8 from rfl] at e1
  rw [show ((1024 : Nat) : Int) = 1024 from rfl] at e2
  rw [e1, e2]
  unfold nx
  generalize sg0 X1 = A at *
  generalize sg1 X14 = B at *
  rw [i64_small ((X0 : Int) + (A : Int)) (by omega) (by omega), i64_small ((X0 : Int) + (A : Int) + (X9 : Int)) (by omega) (by omega), i64_small ((X0 : Int) + (A : Int) + (X9 : Int) + (B : Int)) (by omega) (by omega)]
  omega
set_option maxHeartbeats 4000000 in
theorem rsched_any (b : ByteArray) (W : Nat → Nat) (w : World) (hs : b.size = 64) (hW : Spread W (bt b)) :
    Calls Tryz.prog 146 #[.string b] w fun e w' => ∃ g c, e = .returned (.slice (some ⟨g, 0, none⟩) 64 c) ∧
      IntsAt w' .i64 (some ⟨g, 0, none⟩) 64 (wT W 64) ∧ Below w.heap.size w w' := by
  have HO : Hid (∀ i, W i < 4294967296) := hW.1
  have HN : Hid (∀ k, k < 48 → W (k + 16) = _) := hW.2.1
  have HF : Hid (wordsL b bsh = wT W 16) := by show _ = _; rw [wordsN_ints, wordsN_blk b hs]; exact wT_first _ _ _ (blkN_length _) hW.2.2
  have CB : Hid (∀ w, _) := fun w => rbig_own b w (by omega) (by omega)
  obtain ⟨i0, hi, hz0, hz1, hz2⟩ := info_parts Tryz.info3
  go_enter Tryz.func146, Tryz.ntmps146
  go_wp2_with fail
  refine (CB.out _).mono ?_
  rintro e w1 ⟨v0, rfl, hown0, hb1⟩
  rw [HF.out, hs] at hown0
  clear CB HF hs hW
  go_wp2
  go_loopw [3, 5] (fun v i wr => ∃ k j : Nat, j ≤ 64 ∧ i = .int .i64 j ∧ Hid (j = k + 16) ∧ OwnV wr w.heap.size 3 .i64 v j (wT W j) ∧ Below w.heap.size w wr) (fun _ i _ => 64 - (intOf i).toNat)
  case atStart => exact ⟨0, 16, by omega, rfl, rfl, hown0, hb1⟩
  case round =>
    clear hown0 hb1
    obtain ⟨k, j, hj, rfl, HJ, hown, hbl⟩ := hrel
    by_cases hlt : j < 64
    · have hJ := HJ.out
      obtain ⟨g, c, rfl, hc⟩ := hown.at (by omega)
      obtain ⟨p1, hp1⟩ : ∃ p, p = k + 1 := ⟨_, rfl⟩
      obtain ⟨p9, hp9⟩ : ∃ p, p = k + 9 := ⟨_, rfl⟩
      obtain ⟨p14, hp14⟩ : ∃ p, p = k + 14 := ⟨_, rfl⟩
      obtain ⟨X0, hX0⟩ : ∃ x, x = W k := ⟨_, rfl⟩
      obtain ⟨X1, hX1⟩ : ∃ x, x = W p1 := ⟨_, rfl⟩
      obtain ⟨X9, hX9⟩ : ∃ x, x = W p9 := ⟨_, rfl⟩
      obtain ⟨X14, hX14⟩ : ∃ x, x = W p14 := ⟨_, rfl⟩
      have c0 := hc k (by omega)
      have c1 := hc p1 (by omega)
      have c9 := hc p9 (by omega)
      have c14 := hc p14 (by omega)
      rw [wT_getD _ _ _ (by omega), ← hX0] at c0
      rw [wT_getD _ _ _ (by omega), ← hX1] at c1
      rw [wT_getD _ _ _ (by omega), ← hX9] at c9
      rw [wT_getD _ _ _ (by omega), ← hX14] at c14
      have l0 : X0 < 4294967296 := by rw [hX0]; exact HO.out _
      have l1 : X1 < 4294967296 := by rw [hX1]; exact HO.out _
      have l9 : X9 < 4294967296 := by rw [hX9]; exact HO.out _
      have l14 : X14 < 4294967296 := by rw [hX14]; exact HO.out _
      have NX : Hid (W j = nx X0 X1 X9 X14) := by
        have := HN.out k (by omega)
        show _ = _
        rw [hJ, this, hX0, hX1, hX9, hX14, hp1, hp9, hp14]
      have q0 : IntKind.i64.wrap ((j : Int) - 16) = (k : Int) := by rw [i64_small _ (by omega) (by omega)]; omega
      have q1 : IntKind.i64.wrap ((j : Int) - 15) = (p1 : Int) := by rw [i64_small _ (by omega) (by omega)]; omega
      have q9 : IntKind.i64.wrap ((j : Int) - 7) = (p9 : Int) := by rw [i64_small _ (by omega) (by omega)]; omega
      have q14 : IntKind.i64.wrap ((j : Int) - 2) = (p14 : Int) := by rw [i64_small _ (by omega) (by omega)]; omega
      have b0 : (k : Int) < (j : Int) := by omega
      have b1 : (p1 : Int) < (j : Int) := by omega
      have b9 : (p9 : Int) < (j : Int) := by omega
      have b14 : (p14 : Int) < (j : Int) := by omega
      have hsz := hbl.size
      have C7 : Hid (∀ w, Calls Tryz.prog 150 #[.int .i64 X1, .int .i64 7] w _) := fun w => rright_any X1 7 l1 (by decide) (by decide) w
      have C18 : Hid (∀ w, Calls Tryz.prog 150 #[.int .i64 X1, .int .i64 18] w _) := fun w => rright_any X1 18 l1 (by decide) (by decide) w
      have C17 : Hid (∀ w, Calls Tryz.prog 150 #[.int .i64 X14, .int .i64 17] w _) := fun w => rright_any X14 17 l14 (by decide) (by decide) w
      have C19 : Hid (∀ w, Calls Tryz.prog 150 #[.int .i64 X14, .int .i64 19] w _) := fun w => rright_any X14 19 l14 (by decide) (by decide) w
      clear hX0 hX1 hX9 hX14 hp1 hp9 hp14 hJ hc
      go_wp2
      go_quiet (fail)
      go_wp2_with fail
      refine (C7.out _).mono ?_
      rintro e w' ⟨rfl, m1, rfl⟩
      go_wp2_with fail
      refine (C18.out _).mono ?_
      rintro e w' ⟨rfl, m2, rfl⟩
      go_wp2_with fail
      refine (C17.out _).mono ?_
      rintro e w' ⟨rfl, m3, rfl⟩
      go_wp2_with fail
      refine (C19.out _).mono ?_
      rintro e w' ⟨rfl, m4, rfl⟩
      go_wp2_with fail
      have hown' := hown.drewN (m := nq + m1 + m2 + m3 + m4)
      have hbl' := below_drewN hbl (nq + m1 + m2 + m3 + m4)
      have d0 : (wr.drewN (nq + m1 + m2 + m3 + m4)).cell? ⟨g, k, none⟩ = _ := c0
      have d9 : (wr.drewN (nq + m1 + m2 + m3 + m4)).cell? ⟨g, p9, none⟩ = _ := c9
      clear C7 C18 C17 C19 c0 c1 c9 c14 hown hbl hsz
      generalize wr.drewN (nq + m1 + m2 + m3 + m4) = wq at *
      have hsz := hbl'.size
      refine wp_region_noPanic ?_
      refine wp_region_held_drew (S := fun _ => True) (by kernel_rfl) (by first | exact trivial | assumption | exact ⟨by assumption, by assumption⟩) (fun hHeld => ?_)
      refine take_at (i := 0) (v := ?_) rfl rfl (by kernel_rfl) (by kernel_rfl) (by kernel_rfl) (fun _ _ _ h => h) (Or.inl ⟨by rfl, ?_⟩) (by assumption) ?_
      rotate_left
      · intro w hSw; (try dsimp only at hSw); go_simp; try with_reducible rfl
      try go_frame
      refine take_at (i := 1) (v := ?_) rfl rfl (by kernel_rfl) (by kernel_rfl) (by kernel_rfl) (fun _ _ _ h => h) (Or.inl ⟨by rfl, ?_⟩) (by assumption) ?_
      rotate_left
      · intro w hSw; (try dsimp only at hSw); go_simp; try with_reducible rfl
      try go_frame
      refine take_at (i := 2) (v := ?_) rfl rfl (by kernel_rfl) (by kernel_rfl) (by kernel_rfl) (fun _ _ _ h => h) (Or.inl ⟨by rfl, ?_⟩) (by assumption) ?_
      rotate_left
      · intro w hSw; (try dsimp only at hSw); go_simp; try with_reducible rfl
      try go_frame
      refine take_at (i := 3) (v := ?_) rfl rfl (by kernel_rfl) (by kernel_rfl) (by kernel_rfl) (fun _ _ _ h => h) (Or.inl ⟨by rfl, ?_⟩) (by assumption) ?_
      rotate_left
      · intro w hSw; (try dsimp only at hSw); go_simp; try with_reducible rfl
      try go_frame
      refine take_at (i := 4) (v := ?_) rfl rfl (by kernel_rfl) (by kernel_rfl) (by kernel_rfl) (fun _ _ _ h => h) (Or.inl ⟨by rfl, ?_⟩) (by assumption) ?_
      rotate_left
      · intro w hSw; (try dsimp only at hSw); go_simp; try with_reducible rfl
      try go_frame
      refine take_at (i := 6) (v := ?_) rfl rfl (by kernel_rfl) (by kernel_rfl) (by kernel_rfl) (fun _ _ _ h => h) (Or.inl ⟨by rfl, ?_⟩) (by assumption) ?_
      rotate_left
      · intro w hSw; (try dsimp only at hSw); go_simp; try with_reducible rfl
      try go_frame
      refine take_at (i := 8) (v := ?_) rfl rfl (by kernel_rfl) (by kernel_rfl) (by kernel_rfl) (fun _ _ _ h => h) (Or.inl ⟨by rfl, ?_⟩) (by assumption) ?_
      rotate_left
      · intro w hSw; (try dsimp only at hSw); go_simp; try with_reducible rfl
      try go_frame
      refine take_at (i := 9) (v := ?_) rfl rfl (by kernel_rfl) (by kernel_rfl) (by kernel_rfl) (fun _ _ _ h => h) (Or.inl ⟨by rfl, ?_⟩) (by assumption) ?_
      rotate_left
      · intro w hSw; (try dsimp only at hSw); go_simp; try with_reducible rfl
      try go_frame
      refine take_at (i := 10) (v := ?_) rfl rfl (by kernel_rfl) (by kernel_rfl) (by kernel_rfl) (fun _ _ _ h => h) (Or.inl ⟨by rfl, ?_⟩) (by assumption) ?_
      rotate_left
      · intro w hSw; (try dsimp only at hSw); go_simp; try with_reducible rfl
      try go_frame
      refine take_at (i := 11) (v := ?_) rfl rfl (by kernel_rfl) (by kernel_rfl) (by kernel_rfl) (fun _ _ _ h => h) (Or.inl ⟨by rfl, ?_⟩) (by assumption) ?_
      rotate_left
      · intro w hSw; (try dsimp only at hSw); go_simp; try with_reducible rfl
      try go_frame
      refine take_at (i := 14) (v := ?_) rfl rfl (by kernel_rfl) (by kernel_rfl) (by kernel_rfl) (fun _ _ _ h => h) (Or.inl ⟨by rfl, ?_⟩) (by assumption) ?_
      rotate_left
      · intro w hSw; (try dsimp only at hSw); go_simp; try with_reducible rfl
      try go_frame
      refine wpAnyH_ready (rs := [5, 12]) (by kernel_rfl) (by simp) ?_
      refine AllReadyH.cons rfl (fun K hK => ?_) (AllReadyH.cons rfl (fun K hK => ?_) AllReadyH.nil)
      · go_simp
        refine hK.out _ _ trivial (fun hHeld => ?_)
        clear hK K
        refine take_at (i := 7) (v := ?_) rfl rfl (by kernel_rfl) (by kernel_rfl) (by kernel_rfl) (fun _ _ _ h => h) (Or.inl ⟨by rfl, ?_⟩) (by assumption) ?_
        rotate_left
        · intro w hSw; (try dsimp only at hSw); go_simp; try with_reducible rfl
        try go_frame
        refine wpAnyH_ready (rs := [12]) (by kernel_rfl) (by simp) ?_
        refine AllReadyH.cons rfl (fun K hK => ?_) AllReadyH.nil
        go_simp
        refine hK.out _ _ trivial (fun hHeld => ?_)
        clear hK K
        refine take_at (i := 13) (v := ?_) rfl rfl (by kernel_rfl) (by kernel_rfl) (by kernel_rfl) (fun _ _ _ h => h) (Or.inl ⟨by rfl, ?_⟩) (by assumption) ?_
        rotate_left
        · intro w hSw; (try dsimp only at hSw); go_simp; try with_reducible rfl
        try go_frame
        refine take_at (i := 15) (v := ?_) rfl rfl (by kernel_rfl) (by kernel_rfl) (by kernel_rfl) (fun _ _ _ h => h) (Or.inl ⟨by rfl, ?_⟩) (by assumption) ?_
        rotate_left
        · intro w hSw; (try dsimp only at hSw); go_simp; try with_reducible rfl
        try go_frame
        refine wpAnyH_ready (rs := [16]) (by kernel_rfl) (by simp) ?_
        refine AllReadyH.cons rfl (fun K hK => ?_) AllReadyH.nil
        go_simp
        refine (word_any _ _).mono ?_
        rintro e w' ⟨rfl, rfl⟩
        refine hK.out _ _ trivial (fun hHeld => ?_)
        clear hK K
        refine wpAnyH_ready (rs := [17]) (by kernel_rfl) (by simp) ?_
        refine AllReadyH.cons rfl (fun K hK => ?_) AllReadyH.nil
        go_simp
        refine hK.out _ _ trivial (fun hHeld => ?_)
        clear hK K
        refine wpAnyH_ready (rs := [18]) (by kernel_rfl) (by simp) ?_
        refine AllReadyH.cons rfl (fun K hK => ?_) AllReadyH.nil
        refine step_app1 rfl rfl _ _ 123 rfl w.heap.size 3 i0 .i64 8 Tryz.underlying123 hi hz0 hz1 hz2 wq (.slice (some ⟨g, 0, none⟩) j c) j _ rfl hown' _ rfl (by omega) (by omega) (by exact hsz) ?_
        intro v' w2 hown1 hbl1
        refine hK.out _ _ trivial (fun hHeld => ?_)
        clear hK K
        refine take_at (i := 19) (v := ?_) rfl rfl (by kernel_rfl) (by kernel_rfl) (by kernel_rfl) (fun _ _ _ h => h) (Or.inl ⟨by rfl, ?_⟩) (by assumption) ?_
        rotate_left
        · intro w hSw; (try dsimp only at hSw); go_simp; try with_reducible rfl
        try go_frame
        refine wpAnyH_done (by kernel_rfl) (NoPanic.normal ?_) _
        rw [rsched_next X0 X1 X9 X14 l0 l1 l9 l14, wT_snoc _ _ _ (by rw [NX.out])] at hown1
        have HB := hbl'.trans hbl1
        clear hbl1 hown' hbl' d0 d9
        go_wp2
        go_roundw
        case rel =>
          refine ⟨k + 1, j + 1, by omega, by go_num, ?_, hown1, HB⟩
          have := HJ.out; show j + 1 = k + 1 + 16; omega
        case measure => simp [intOf]; omega
      · go_simp
        refine hK.out _ _ trivial (fun hHeld => ?_)
        clear hK K
        refine wpAnyH_ready (rs := [5]) (by kernel_rfl) (by simp) ?_
        refine AllReadyH.cons rfl (fun K hK => ?_) AllReadyH.nil
        go_simp
        refine hK.out _ _ trivial (fun hHeld => ?_)
        clear hK K
        refine take_at (i := 7) (v := ?_) rfl rfl (by kernel_rfl) (by kernel_rfl) (by kernel_rfl) (fun _ _ _ h => h) (Or.inl ⟨by rfl, ?_⟩) (by assumption) ?_
        rotate_left
        · intro w hSw; (try dsimp only at hSw); go_simp; try with_reducible rfl
        try go_frame
        refine take_at (i := 13) (v := ?_) rfl rfl (by kernel_rfl) (by kernel_rfl) (by kernel_rfl) (fun _ _ _ h => h) (Or.inl ⟨by rfl, ?_⟩) (by assumption) ?_
        rotate_left
        · intro w hSw; (try dsimp only at hSw); go_simp; try with_reducible rfl
        try go_frame
        refine take_at (i := 15) (v := ?_) rfl rfl (by kernel_rfl) (by kernel_rfl) (by kernel_rfl) (fun _ _ _ h => h) (Or.inl ⟨by rfl, ?_⟩) (by assumption) ?_
        rotate_left
        · intro w hSw; (try dsimp only at hSw); go_simp; try with_reducible rfl
        try go_frame
        refine wpAnyH_ready (rs := [16]) (by kernel_rfl) (by simp) ?_
        refine AllReadyH.cons rfl (fun K hK => ?_) AllReadyH.nil
        go_simp
        refine (word_any _ _).mono ?_
        rintro e w' ⟨rfl, rfl⟩
        refine hK.out _ _ trivial (fun hHeld => ?_)
        clear hK K
        refine wpAnyH_ready (rs := [17]) (by kernel_rfl) (by simp) ?_
        refine AllReadyH.cons rfl (fun K hK => ?_) AllReadyH.nil
        go_simp
        refine hK.out _ _ trivial (fun hHeld => ?_)
        clear hK K
        refine wpAnyH_ready (rs := [18]) (by kernel_rfl) (by simp) ?_
        refine AllReadyH.cons rfl (fun K hK => ?_) AllReadyH.nil
        refine step_app1 rfl rfl _ _ 123 rfl w.heap.size 3 i0 .i64 8 Tryz.underlying123 hi hz0 hz1 hz2 wq (.slice (some ⟨g, 0, none⟩) j c) j _ rfl hown' _ rfl (by omega) (by omega) (by exact hsz) ?_
        intro v' w2 hown1 hbl1
        refine hK.out _ _ trivial (fun hHeld => ?_)
        clear hK K
        refine take_at (i := 19) (v := ?_) rfl rfl (by kernel_rfl) (by kernel_rfl) (by kernel_rfl) (fun _ _ _ h => h) (Or.inl ⟨by rfl, ?_⟩) (by assumption) ?_
        rotate_left
        · intro w hSw; (try dsimp only at hSw); go_simp; try with_reducible rfl
        try go_frame
        refine wpAnyH_done (by kernel_rfl) (NoPanic.normal ?_) _
        rw [rsched_next X0 X1 X9 X14 l0 l1 l9 l14, wT_snoc _ _ _ (by rw [NX.out])] at hown1
        have HB := hbl'.trans hbl1
        clear hbl1 hown' hbl' d0 d9
        go_wp2
        go_roundw
        case rel =>
          refine ⟨k + 1, j + 1, by omega, by go_num, ?_, hown1, HB⟩
          have := HJ.out; show j + 1 = k + 1 + 16; omega
        case measure => simp [intOf]; omega
    · have hk' : j = 64 := by omega
      subst hk'
      obtain ⟨g, c, rfl, hc⟩ := hown.at (by omega)
      have HI : Hid (IntsAt wr .i64 (some ⟨g, 0, none⟩) 64 (wT W 64)) := ⟨wT_length W 64, .inr ⟨g, 0, rfl, fun i hi => by rw [Nat.zero_add]; exact hc i hi⟩⟩
      clear hc hown hi hz0 hz1 hz2
      go_wp2
      go_ret
      exact ⟨g, c, rfl, HI.out, hbl⟩
def Rounds (R : Nat → List Nat) (W : Nat → Nat) (x : List Nat) : Prop := R 0 = x ∧ (∀ k, R (k + 1) = rnd (kN.getD k 0) (W k) (R k)) ∧ ∀ k, Ok (R k)
theorem tV_lt (E F G H Z Y : Nat) : tV E F G H Z Y < 4294967296 := Nat.mod_lt _ (by decide)
theorem uV_lt (A B C : Nat) : uV A B C < 4294967296 := Nat.mod_lt _ (by decide)
theorem i64_not (E : Nat) (h : E < 4294967296) : bits .xor .i64 (if IntKind.i64.signed = true then -1 else 9223372036854775807) (E : Int) % 4294967296 = ((4294967295 - E : Nat) : Int) := by
  show IntKind.i64.wrap ((BitVec.ofInt 64 (-1) ^^^ BitVec.ofInt 64 (E : Int)).toNat : Int) % 4294967296 = _
  rw [show BitVec.ofInt 64 (-1) = BitVec.allOnes 64 by decide, BitVec.allOnes_xor, BitVec.toNat_not, BitVec.ofInt_natCast, BitVec.toNat_ofNat, Nat.mod_eq_of_lt (show E < 2 ^ 64 by omega), IntKind.wrap_i64]
  omega
theorem rt_val (E F G H Z Y : Nat) (lE : E < 4294967296) (lF : F < 4294967296) (lG : G < 4294967296) (lH : H < 4294967296) (lZ : Z < 4294967296) (lY : Y < 4294967296) :
    wrap64 (wrap64 (wrap64 (wrap64 ((H : Int) + bits .xor .i64 (bits .xor .i64 ((rr E 6 : Nat) : Int) ((rr E 11 : Nat) : Int)) ((rr E 25 : Nat) : Int)) +
      bits .xor .i64 (bits .and .i64 (E : Int) (F : Int)) (bits .and .i64 (bits .xor .i64 (if IntKind.i64.signed = true then -1 else 9223372036854775807) (E : Int) % 4294967296) (G : Int))) + (Z : Int)) + (Y : Int)) % 4294967296 = ((tV E F G H Z Y : Nat) : Int) := by
  have h6 := rr_lt E 6 lE
  have h11 := rr_lt E 11 lE
  have h25 := rr_lt E 25 lE
  have hx := xor_lt32 _ _ h6 h11
  have hb := bs1_lt E lE
  have ha := and_lt32 E F lE
  have ha' := and_lt32 (4294967295 - E) G (by omega)
  have hc := chN_lt E F G lE
  rw [i64_not E lE, i64_xor_nat (rr E 6) (rr E 11) (by omega) (by omega), i64_xor_nat (rr E 6 ^^^ rr E 11) (rr E 25) (by omega) (by omega), i64_and_nat E F (by omega) (by omega), i64_and_nat (4294967295 - E) G (by omega) (by omega), i64_xor_nat (E &&& F) ((4294967295 - E) &&& G) (by omega) (by omega)]
  change wrap64 (wrap64 (wrap64 (wrap64 ((H : Int) + ((bs1 E : Nat) : Int)) + ((chN E F G : Nat) : Int)) + (Z : Int)) + (Y : Int)) % 4294967296 = _
  unfold tV
  generalize bs1 E = P at *
  generalize chN E F G = Q at *
  rw [w64_small ((H : Int) + (P : Int)) (by omega) (by omega), w64_small ((H : Int) + (P : Int) + (Q : Int)) (by omega) (by omega), w64_small ((H : Int) + (P : Int) + (Q : Int) + (Z : Int)) (by omega) (by omega), w64_small ((H : Int) + (P : Int) + (Q : Int) + (Z : Int) + (Y : Int)) (by omega) (by omega)]
  omega
theorem ru_val (A B C : Nat) (lA : A < 4294967296) (lB : B < 4294967296) (lC : C < 4294967296) :
    wrap64 (bits .xor .i64 (bits .xor .i64 ((rr A 2 : Nat) : Int) ((rr A 13 : Nat) : Int)) ((rr A 22 : Nat) : Int) +
      bits .xor .i64 (bits .xor .i64 (bits .and .i64 (A : Int) (B : Int)) (bits .and .i64 (A : Int) (C : Int))) (bits .and .i64 (B : Int) (C : Int))) % 4294967296 = ((uV A B C : Nat) : Int) := by
  have h6 := rr_lt A 2 lA
  have h11 := rr_lt A 13 lA
  have h25 := rr_lt A 22 lA
  have hx := xor_lt32 _ _ h6 h11
  have hb := bs0_lt A lA
  have ha := and_lt32 A B lA
  have ha' := and_lt32 A C lA
  have ha'' := and_lt32 B C lB
  have hy := xor_lt32 _ _ ha ha'
  have hc := majN_lt A B C lA lB
  rw [i64_xor_nat (rr A 2) (rr A 13) (by omega) (by omega), i64_xor_nat (rr A 2 ^^^ rr A 13) (rr A 22) (by omega) (by omega), i64_and_nat A B (by omega) (by omega), i64_and_nat A C (by omega) (by omega), i64_and_nat B C (by omega) (by omega), i64_xor_nat (A &&& B) (A &&& C) (by omega) (by omega), i64_xor_nat ((A &&& B) ^^^ (A &&& C)) (B &&& C) (by omega) (by omega)]
  change wrap64 (((bs0 A : Nat) : Int) + ((majN A B C : Nat) : Int)) % 4294967296 = _
  unfold uV
  generalize bs0 A = P at *
  generalize majN A B C = Q at *
  rw [w64_small ((P : Int) + (Q : Int)) (by omega) (by omega)]
  omega
set_option maxHeartbeats 4000000 in
theorem rconst_any (w : World) :
    Calls Tryz.prog 147 #[] w fun e w' => e = .returned (.slice (some ⟨w.heap.size, 0, none⟩) 64 64) ∧
      IntsAt w' .i64 (some ⟨w.heap.size, 0, none⟩) 64 (ints kN) ∧ Below w.heap.size w w' := by
  go_enter Tryz.func147, Tryz.ntmps147
  go_wp2
  go_ret
  exact ⟨rfl, ints_alloc _ (ints kN) _ 64 _ (by kernel_rfl) (by kernel_rfl), below_new _ _⟩
set_option maxHeartbeats 4000000 in
theorem rbegin_any (w : World) :
    Calls Tryz.prog 119 #[] w fun e w' => e = .returned (.string (ofN bN)) ∧ Below w.heap.size w w' := by
  go_enter Tryz.func119, Tryz.ntmps119
  go_wp2_with fail
  refine (rputBig_any _ 8 _ (ints bN) _ (by omega) (ints_alloc _ (ints bN) _ 8 _ (by kernel_rfl) (by kernel_rfl))).mono ?_
  rintro e w1 ⟨rfl, hb1⟩
  go_wp2_with fail
  go_ret
  exact ⟨rfl, below_step (below_new _ _) (Nat.le_refl _) hb1⟩
def At8 (w : World) (v : Value) (x : List Nat) : Prop := ∃ g c, v = .slice (some ⟨g, 0, none⟩) 8 c ∧ ∀ j, j < 8 → w.cell? ⟨g, j, none⟩ = some (.int .i64 ((x.getD j 0 : Nat) : Int))
theorem rbig8 (s : ByteArray) (w : World) (hs : s.size = 32) :
    Calls Tryz.prog 148 #[.string s] w fun e w' => ∃ g c, e = .returned (.tuple #[.slice (some ⟨g, 0, none⟩) 8 c, .int .i64 0]) ∧
      (∀ j, j < 8 → w'.cell? ⟨g, j, none⟩ = some (.int .i64 (((wordsN s).getD j 0 : Nat) : Int))) ∧ Below w.heap.size w w' := by
  refine (rbig_own s w (by omega) (by omega)).mono ?_
  rintro e w' ⟨v, rfl, ho, hb⟩
  rw [wordsN_ints, show s.size / 4 = 8 by omega] at ho
  obtain ⟨g, c, rfl, hc⟩ := ho.at (by omega)
  exact ⟨g, c, rfl, fun j hj => by rw [hc j hj, ints_getD], hb⟩
theorem add32_val (a b : Nat) (ha : a < 4294967296) (hb : b < 4294967296) : IntKind.i64.wrap ((a : Int) + (b : Int)) % 4294967296 = (((a + b) % 4294967296 : Nat) : Int) := by
  rw [i64_small _ (by omega) (by omega)]; omega
theorem cell_alloc_keep {w : World} {a : Addr} {v : Value} (o : Obj) (h : w.cell? a = some v) : (w.alloc o).cell? a = some v := by
  rw [World.cell?_alloc_some _ _ _ (by rw [h]; rfl), h]
theorem cells_new (w : World) (x : List Nat) (e : TypeId) (n : Nat) (c : Array Value) (hn : x.length = n) (hc : c = ((ints x).map (Value.int .i64)).toArray) (j : Nat) (hj : j < n) :
    (w.alloc (.cells c e)).cell? ⟨w.heap.size, j, none⟩ = some (.int .i64 ((x.getD j 0 : Nat) : Int)) := by
  rw [(ints_alloc w (ints x) e n c (by rw [ints_length, hn]) hc).cellAt j hj, ints_getD]
theorem addL_snoc (x y : List Nat) (k : Nat) (hk : k < 8) : (ints (addL x y)).take k ++ [(((x.getD k 0 + y.getD k 0) % 4294967296 : Nat) : Int)] = (ints (addL x y)).take (k + 1) := by
  have hl : (ints (addL x y)).length = 8 := by rw [ints_length, addL_length]
  refine take_snoc_int _ _ (by omega) _ ?_
  have : (ints (addL x y))[k]'(by omega) = (ints (addL x y)).getD k 0 := by simp [List.getD_eq_getElem?_getD, List.getElem?_eq_getElem (show k < (ints (addL x y)).length by omega)]
  rw [this, ints_getD, addL_getD x y k hk]
set_option maxRecDepth 100000 in
set_option maxHeartbeats 8000000 in
theorem rblock_walk (s b : ByteArray) (W : Nat → Nat) (R : Nat → List Nat) (x : List Nat) (w : World) (hs : s.size = 32) (hb : b.size = 64) (hx : x = wordsN s) (hW : Spread W (bt b)) (hR : Rounds R W x) :
    Calls Tryz.prog 120 #[.string s, .string b] w fun e w' => e = .returned (.tuple #[.string (ofN (addL x (R 64))), .int .i64 0]) ∧ Below w.heap.size w w' := by
  have HWl : Hid (∀ i, W i < 4294967296) := hW.1
  have CS : Hid (∀ w, _) := fun w => rsched_any b W w hb hW
  have CG : Hid (∀ w, _) := fun w => rbig8 s w hs
  rw [← hx] at CG
  have HR : Hid (Rounds R W x) := hR
  clear hW hx hR
  have hn : (((s.size : Int) != 32)) = false := by rw [bne_eq_false_iff_eq]; omega
  have hn' : (((b.size : Int) != 64)) = false := by rw [bne_eq_false_iff_eq]; omega
  obtain ⟨i0, hi, hz0, hz1, hz2⟩ := info_parts Tryz.info3
  go_enter Tryz.func120, Tryz.ntmps120
  go_wp2_with fail
  refine (CS.out _).mono ?_
  rintro e w1 ⟨gw, cw, rfl, hI1, hb1⟩
  have HI1 : Hid (IntsAt w1 _ _ _ _) := hI1
  clear hI1 CS
  go_wp2_with fail
  refine (rconst_any _).mono ?_
  rintro e w2 ⟨rfl, hI2, hb2⟩
  have HI2 : Hid (IntsAt w2 _ _ _ _) := hI2
  clear hI2
  go_wp2_with fail
  refine (CG.out _).mono ?_
  rintro e w3 ⟨g3, c3, rfl, hc3, hb3⟩
  have HC3 : Hid (∀ j, j < 8 → w3.cell? ⟨g3, j, none⟩ = _) := hc3
  clear hc3
  go_wp2_with fail
  refine (CG.out _).mono ?_
  rintro e w4 ⟨g4, c4, rfl, hc4, hb4⟩
  have HC4 : Hid (∀ j, j < 8 → w4.cell? ⟨g4, j, none⟩ = _) := hc4
  clear hc4 CG
  -- the slices, as they stand ahead of the rounds
  have HB : Hid (Below w.heap.size w w4) := below_step (below_step (below_step hb1 (Nat.le_refl _) hb2) (Nat.le_refl _) hb3) (Nat.le_refl _) hb4
  have KW : Hid (∀ j, j < 64 → w4.cell? ⟨gw, j, none⟩ = some (.int .i64 (W j : Int))) := fun j hj => by
    rw [(((HI1.out.below hb2).below hb3).below hb4).cellAt j hj, wT_getD _ _ _ hj]
  have KK : Hid (∀ j, j < 64 → w4.cell? ⟨w1.heap.size, j, none⟩ = some (.int .i64 ((kN.getD j 0 : Nat) : Int))) := fun j hj => by
    rw [((HI2.out.below hb3).below hb4).cellAt j hj, ints_getD]
  have KV : Hid (∀ j, j < 8 → w4.cell? ⟨g3, j, none⟩ = some (.int .i64 ((x.getD j 0 : Nat) : Int))) := fun j hj => by
    have h1 := HC3.out j hj
    rw [hb4.cell (p := ⟨g3, j, none⟩) (World.block_lt_of_cell? w3 _ h1), h1]
  clear HI1 HI2 HC3 hb1 hb2 hb3 hb4 hs hb
  generalize w1.heap.size = gk at *
  clear w1 w2 w3
  go_wp2_with fail
  go_loopw [10, 12] (fun v i wr => ∃ k : Nat, k ≤ 64 ∧ i = .int .i64 k ∧ At8 wr v (R k) ∧ Below w4.heap.size w4 wr) (fun _ i _ => 64 - (intOf i).toNat)
  case atStart => exact ⟨0, by omega, rfl, ⟨g4, c4, rfl, by rw [HR.out.1]; exact HC4.out⟩, Below.refl _ _⟩
  case round =>
    clear HC4
    obtain ⟨k, hk, rfl, ⟨g, c, rfl, hc⟩, hbl⟩ := hrel
    by_cases hlt : k < 64
    · obtain ⟨A, hA⟩ : ∃ a, a = (R k).getD 0 0 := ⟨_, rfl⟩
      obtain ⟨B, hB⟩ : ∃ a, a = (R k).getD 1 0 := ⟨_, rfl⟩
      obtain ⟨C, hC⟩ : ∃ a, a = (R k).getD 2 0 := ⟨_, rfl⟩
      obtain ⟨D, hD⟩ : ∃ a, a = (R k).getD 3 0 := ⟨_, rfl⟩
      obtain ⟨E, hE⟩ : ∃ a, a = (R k).getD 4 0 := ⟨_, rfl⟩
      obtain ⟨F, hF⟩ : ∃ a, a = (R k).getD 5 0 := ⟨_, rfl⟩
      obtain ⟨G, hG⟩ : ∃ a, a = (R k).getD 6 0 := ⟨_, rfl⟩
      obtain ⟨H, hH⟩ : ∃ a, a = (R k).getD 7 0 := ⟨_, rfl⟩
      obtain ⟨Z, hZ⟩ : ∃ a, a = kN.getD k 0 := ⟨_, rfl⟩
      obtain ⟨Y, hY⟩ : ∃ a, a = W k := ⟨_, rfl⟩
      have c0 := hc 0 (by omega)
      have c1 := hc 1 (by omega)
      have c2 := hc 2 (by omega)
      have c3' := hc 3 (by omega)
      have c4' := hc 4 (by omega)
      have c5 := hc 5 (by omega)
      have c6 := hc 6 (by omega)
      have c7 := hc 7 (by omega)
      have cK := KK.out k hlt
      have cW := KW.out k hlt
      rw [← hbl.cell (p := ⟨gk, k, none⟩) (World.block_lt_of_cell? w4 _ cK), ← hZ] at cK
      rw [← hbl.cell (p := ⟨gw, k, none⟩) (World.block_lt_of_cell? w4 _ cW), ← hY] at cW
      rw [← hA] at c0
      rw [← hB] at c1
      rw [← hC] at c2
      rw [← hD] at c3'
      rw [← hE] at c4'
      rw [← hF] at c5
      rw [← hG] at c6
      rw [← hH] at c7
      have ok := HR.out.2.2 k
      have lA : A < 4294967296 := by rw [hA]; exact ok 0
      have lB : B < 4294967296 := by rw [hB]; exact ok 1
      have lC : C < 4294967296 := by rw [hC]; exact ok 2
      have lD : D < 4294967296 := by rw [hD]; exact ok 3
      have lE : E < 4294967296 := by rw [hE]; exact ok 4
      have lF : F < 4294967296 := by rw [hF]; exact ok 5
      have lG : G < 4294967296 := by rw [hG]; exact ok 6
      have lH : H < 4294967296 := by rw [hH]; exact ok 7
      have lZ : Z < 4294967296 := by rw [hZ]; exact kN_ok k
      have lY : Y < 4294967296 := by rw [hY]; exact HWl.out k
      have NX : Hid (R (k + 1) = [(tV E F G H Z Y + uV A B C) % 4294967296, A, B, C, (D + tV E F G H Z Y) % 4294967296, E, F, G]) := by
        show _ = _
        rw [HR.out.2.1 k, hA, hB, hC, hD, hE, hF, hG, hH, hZ, hY]; rfl
      clear hA hB hC hD hE hF hG hH hZ hY ok hc
      have b0 : (k : Int) < 64 := by omega
      have C6 : Hid (∀ w, Calls Tryz.prog 150 #[.int .i64 E, .int .i64 6] w _) := fun w => rright_any E 6 lE (by decide) (by decide) w
      have C11 : Hid (∀ w, Calls Tryz.prog 150 #[.int .i64 E, .int .i64 11] w _) := fun w => rright_any E 11 lE (by decide) (by decide) w
      have C25 : Hid (∀ w, Calls Tryz.prog 150 #[.int .i64 E, .int .i64 25] w _) := fun w => rright_any E 25 lE (by decide) (by decide) w
      have C2 : Hid (∀ w, Calls Tryz.prog 150 #[.int .i64 A, .int .i64 2] w _) := fun w => rright_any A 2 lA (by decide) (by decide) w
      have C13 : Hid (∀ w, Calls Tryz.prog 150 #[.int .i64 A, .int .i64 13] w _) := fun w => rright_any A 13 lA (by decide) (by decide) w
      have C22 : Hid (∀ w, Calls Tryz.prog 150 #[.int .i64 A, .int .i64 22] w _) := fun w => rright_any A 22 lA (by decide) (by decide) w
      go_wp2
      go_quiet (fail)
      go_wp2
      go_quiet (fail)
      go_wp2
      generalize hq : World.drewN (World.drewN wr _) _ = wq
      have d3 : wq.cell? ⟨g, 3, none⟩ = some (.int .i64 (D : Int)) := by rw [← hq]; exact c3'
      have d7 : wq.cell? ⟨g, 7, none⟩ = some (.int .i64 (H : Int)) := by rw [← hq]; exact c7
      have dK : wq.cell? ⟨gk, k, none⟩ = some (.int .i64 (Z : Int)) := by rw [← hq]; exact cK
      have dW : wq.cell? ⟨gw, k, none⟩ = some (.int .i64 (Y : Int)) := by rw [← hq]; exact cW
      have hblq : Below w4.heap.size w4 wq := by rw [← hq]; exact below_drewN (below_drewN hbl _) _
      clear hq c0 c1 c2 c3' c4' c5 c6 c7 cK cW hbl
      go_quiet (first
        | (go_at_call_of 150 (Value.int IntKind.i64 6); exact Calls.quiet_of (C6.out _))
        | (go_at_call_of 150 (Value.int IntKind.i64 11); exact Calls.quiet_of (C11.out _))
        | (go_at_call_of 150 (Value.int IntKind.i64 25); exact Calls.quiet_of (C25.out _))
        | (go_at_call 149; exact Calls.quiet_of_same (word_any _ _)))
      rw [rt_val E F G H Z Y lE lF lG lH lZ lY]
      have lT := tV_lt E F G H Z Y
      have lU := uV_lt A B C
      generalize tV E F G H Z Y = T at *
      have VU : Hid (_ = _) := ru_val A B C lA lB lC
      generalize uV A B C = U at *
      clear C6 C11 C25 d7 dK dW
      go_wp2_with fail
      refine (C2.out _).mono ?_
      rintro e w' ⟨rfl, m1, rfl⟩
      go_wp2_with fail
      refine (C13.out _).mono ?_
      rintro e w' ⟨rfl, m2, rfl⟩
      go_wp2_with fail
      refine (C22.out _).mono ?_
      rintro e w' ⟨rfl, m3, rfl⟩
      go_wp2_with fail
      refine (word_any _ _).mono ?_
      rintro e w' ⟨rfl, rfl⟩
      rw [VU.out]
      clear C2 C13 C22 VU
      go_wp2_with fail
      generalize hq : World.drewN wq _ = wz
      have e3 : wz.cell? ⟨g, 3, none⟩ = some (.int .i64 (D : Int)) := by rw [← hq]; exact d3
      have hblz : Below w4.heap.size w4 wz := by rw [← hq]; exact below_drewN hblq _
      clear hq d3 hblq
      refine wp_region_noPanic ?_
      refine wp_region_held_drew (S := fun w => w.cell? ⟨g, 3, none⟩ = some (.int .i64 (D : Int))) (by kernel_rfl) (by first | exact trivial | assumption | exact ⟨by assumption, by assumption⟩) (fun hHeld => ?_)
      refine take_at (i := 0) (v := ?_) rfl rfl (by kernel_rfl) (by kernel_rfl) (by kernel_rfl) (fun _ _ _ h => h) (Or.inl ⟨by rfl, ?_⟩) (by assumption) ?_
      rotate_left
      · intro w hSw; (try dsimp only at hSw); go_simp; try with_reducible rfl
      try go_frame
      refine take_at (i := 1) (v := ?_) rfl rfl (by kernel_rfl) (by kernel_rfl) (by kernel_rfl) (fun _ _ _ h => h) (Or.inl ⟨by rfl, ?_⟩) (by assumption) ?_
      rotate_left
      · intro w hSw; (try dsimp only at hSw); go_simp; try with_reducible rfl
      try go_frame
      refine take_at (i := 2) (v := ?_) rfl rfl (by kernel_rfl) (by kernel_rfl) (by kernel_rfl) (fun _ _ _ h => h) (Or.inl ⟨by rfl, ?_⟩) (by assumption) ?_
      rotate_left
      · intro w hSw; (try dsimp only at hSw); go_simp; try with_reducible rfl
      try go_frame
      refine take_at (i := 4) (v := ?_) rfl rfl (by kernel_rfl) (by kernel_rfl) (by kernel_rfl) (fun _ _ _ h => h) (Or.inl ⟨by rfl, ?_⟩) (by assumption) ?_
      rotate_left
      · intro w hSw; (try dsimp only at hSw); go_simp; try with_reducible rfl
      try go_frame
      refine take_at (i := 5) (v := ?_) rfl rfl (by kernel_rfl) (by kernel_rfl) (by kernel_rfl) (fun _ _ _ h => h) (Or.inl ⟨by rfl, ?_⟩) (by assumption) ?_
      rotate_left
      · intro w hSw; (try dsimp only at hSw); go_simp; try with_reducible rfl
      try go_frame
      refine take_at (i := 6) (v := ?_) rfl rfl (by kernel_rfl) (by kernel_rfl) (by kernel_rfl) (fun _ _ _ h => h) (Or.inl ⟨by rfl, ?_⟩) (by assumption) ?_
      rotate_left
      · intro w hSw; (try dsimp only at hSw); go_simp; try with_reducible rfl
      try go_frame
      refine take_at (i := 7) (v := ?_) rfl rfl (by kernel_rfl) (by kernel_rfl) (by kernel_rfl) (fun _ _ _ h => h) (Or.inl ⟨by rfl, ?_⟩) (by assumption) ?_
      rotate_left
      · intro w hSw; (try dsimp only at hSw); go_simp; try with_reducible rfl
      try go_frame
      refine take_at (i := 8) (v := ?_) rfl rfl (by kernel_rfl) (by kernel_rfl) (by kernel_rfl) (fun _ _ _ h => h) (Or.inl ⟨by rfl, ?_⟩) (by assumption) ?_
      rotate_left
      · intro w hSw; (try dsimp only at hSw); go_simp; try with_reducible rfl
      try go_frame
      refine take_at (i := 9) (v := ?_) rfl rfl (by kernel_rfl) (by kernel_rfl) (by kernel_rfl) (fun _ _ _ h => h) (Or.inl ⟨by rfl, ?_⟩) (by assumption) ?_
      rotate_left
      · intro w hSw; (try dsimp only at hSw); go_simp; try with_reducible rfl
      try go_frame
      refine take_at (i := 10) (v := ?_) rfl rfl (by kernel_rfl) (by kernel_rfl) (by kernel_rfl) (fun _ _ _ h => h) (Or.inl ⟨by rfl, ?_⟩) (by assumption) ?_
      rotate_left
      · intro w hSw; (try dsimp only at hSw); go_simp; try with_reducible rfl
      try go_frame
      refine take_at (i := 11) (v := ?_) rfl rfl (by kernel_rfl) (by kernel_rfl) (by kernel_rfl) (fun _ _ _ h => h) (Or.inl ⟨by rfl, ?_⟩) (by assumption) ?_
      rotate_left
      · intro w hSw; (try dsimp only at hSw); go_simp; try with_reducible rfl
      try go_frame
      refine take_at (i := 13) (v := ?_) rfl rfl (by kernel_rfl) (by kernel_rfl) (by kernel_rfl) (fun _ _ _ h => h) (Or.inl ⟨by rfl, ?_⟩) (by assumption) ?_
      rotate_left
      · intro w hSw; (try dsimp only at hSw); go_simp; try with_reducible rfl
      try go_frame
      refine take_at (i := 14) (v := ?_) rfl rfl (by kernel_rfl) (by kernel_rfl) (by kernel_rfl) (fun _ _ _ h => h) (Or.inl ⟨by rfl, ?_⟩) (by assumption) ?_
      rotate_left
      · intro w hSw; (try dsimp only at hSw); go_simp; try with_reducible rfl
      try go_frame
      refine take_at (i := 15) (v := ?_) rfl rfl (by kernel_rfl) (by kernel_rfl) (by kernel_rfl) (fun _ _ _ h => h) (Or.inl ⟨by rfl, ?_⟩) (by assumption) ?_
      rotate_left
      · intro w hSw; (try dsimp only at hSw); go_simp; try with_reducible rfl
      try go_frame
      refine wpAnyH_ready (rs := [3]) (by kernel_rfl) (by simp) ?_
      refine AllReadyH.cons rfl (fun K hK => ?_) AllReadyH.nil
      go_simp
      refine (word_any _ _).mono ?_
      rintro e w' ⟨rfl, rfl⟩
      refine hK.out _ _ e3 (fun hHeld => ?_)
      clear hK K
      refine wpAnyH_ready (rs := [12]) (by kernel_rfl) (by simp) ?_
      refine AllReadyH.cons rfl (fun K hK => ?_) AllReadyH.nil
      go_simp
      refine (word_any _ _).mono ?_
      rintro e w' ⟨rfl, rfl⟩
      refine hK.out _ _ e3 (fun hHeld => ?_)
      clear hK K
      refine wpAnyH_ready (rs := [16]) (by kernel_rfl) (by simp) ?_
      refine AllReadyH.cons rfl (fun K hK => ?_) AllReadyH.nil
      go_simp
      refine hK.out _ _ (cell_alloc_keep _ e3) (fun hHeld => ?_)
      clear hK K
      refine take_at (i := 17) (v := ?_) rfl rfl (by kernel_rfl) (by kernel_rfl) (by kernel_rfl) (fun _ _ _ h => h) (Or.inl ⟨by rfl, ?_⟩) (by assumption) ?_
      rotate_left
      · intro w hSw; (try dsimp only at hSw); go_simp; try with_reducible rfl
      try go_frame
      refine wpAnyH_done (by kernel_rfl) (NoPanic.normal ?_) _
      obtain ⟨N0, hN0⟩ : ∃ n, n = (T + U) % 4294967296 := ⟨_, rfl⟩
      obtain ⟨N4, hN4⟩ : ∃ n, n = (D + T) % 4294967296 := ⟨_, rfl⟩
      rw [add32_val T U lT lU, add32_val D T lD lT, ← hN0, ← hN4]
      have NX' := NX.out
      rw [← hN0, ← hN4] at NX'
      have HC := cells_new wz (R (k + 1)) 3 8 #[.int .i64 (N0 : Int), .int .i64 (A : Int), .int .i64 (B : Int), .int .i64 (C : Int), .int .i64 (N4 : Int), .int .i64 (E : Int), .int .i64 (F : Int), .int .i64 (G : Int)] (by rw [NX']; rfl) (by rw [NX']; rfl)
      have HBz := Below.alloc hblz hblz.size (.cells #[.int .i64 (N0 : Int), .int .i64 (A : Int), .int .i64 (B : Int), .int .i64 (C : Int), .int .i64 (N4 : Int), .int .i64 (E : Int), .int .i64 (F : Int), .int .i64 (G : Int)] 3)
      clear hN0 hN4 NX' NX
      have HCz : Hid (∀ j, j < 8 → _) := HC
      clear e3 hblz HC
      go_wp2
      go_roundw
      case rel => exact ⟨k + 1, by omega, by go_num, ⟨wz.heap.size, 8, rfl, HCz.out⟩, HBz.drew⟩
      case measure => simp [intOf]; omega
    · have hk' : k = 64 := by omega
      subst hk'
      obtain ⟨w5, h5⟩ : ∃ w5, w5 = wr := ⟨_, rfl⟩
      rw [← h5] at hc hbl ⊢
      clear h5
      have HC5 : Hid (∀ j, j < 8 → w5.cell? ⟨g, j, none⟩ = _) := hc
      have HV5 : Hid (∀ j, j < 8 → w5.cell? ⟨g3, j, none⟩ = some (.int .i64 ((x.getD j 0 : Nat) : Int))) := fun j hj => by
        have h1 := KV.out j hj
        rw [hbl.cell (p := ⟨g3, j, none⟩) (World.block_lt_of_cell? w4 _ h1), h1]
      have hB5 : Hid (Below w.heap.size w w5) := below_step HB.out (Nat.le_refl _) hbl
      have HO64 : Hid (Ok (R 64)) := HR.out.2.2 64
      have HOx : Hid (Ok x) := by have := HR.out.2.2 0; rw [HR.out.1] at this; exact this
      clear hc hbl KV KW KK HB HR HWl
      obtain ⟨r, hr⟩ : ∃ r, r = R 64 := ⟨_, rfl⟩
      have Hr : Hid (r = R 64) := hr
      rw [← hr] at HC5 HO64
      clear hr
      go_wp2_with fail
      go_loopw [21, 22] (fun v i wr => ∃ k : Nat, k ≤ 8 ∧ i = .int .i64 k ∧ OwnV wr w5.heap.size 3 .i64 v k ((ints (addL x r)).take k) ∧ Below w5.heap.size w5 wr) (fun _ i _ => 8 - (intOf i).toNat)
      case atStart => exact ⟨0, by omega, rfl, OwnV.nil _ _ _ _, Below.refl _ _⟩
      case round =>
        obtain ⟨k, hk, rfl, hown, hbl⟩ := hrel
        by_cases hlt : k < 8
        · obtain ⟨X, hX⟩ : ∃ a, a = x.getD k 0 := ⟨_, rfl⟩
          obtain ⟨Y, hY⟩ : ∃ a, a = r.getD k 0 := ⟨_, rfl⟩
          have c0 := HV5.out k hlt
          have c1 := HC5.out k hlt
          rw [← hbl.cell (p := ⟨g3, k, none⟩) (World.block_lt_of_cell? w5 _ c0), ← hX] at c0
          rw [← hbl.cell (p := ⟨g, k, none⟩) (World.block_lt_of_cell? w5 _ c1), ← hY] at c1
          have lX : X < 4294967296 := by rw [hX]; exact HOx.out k
          have lY : Y < 4294967296 := by rw [hY]; exact HO64.out k
          have NX : Hid ((((X + Y) % 4294967296 : Nat) : Int) = (((x.getD k 0 + r.getD k 0) % 4294967296 : Nat) : Int)) := by show _ = _; rw [hX, hY]
          clear hX hY
          have b0 : (k : Int) < 8 := by omega
          have hsz := hbl.size
          go_wp2
          refine wp_region_noPanic ?_
          refine wp_region_held_drew (S := fun _ => True) (by kernel_rfl) (by first | exact trivial | assumption | exact ⟨by assumption, by assumption⟩) (fun hHeld => ?_)
          refine take_at (i := 0) (v := ?_) rfl rfl (by kernel_rfl) (by kernel_rfl) (by kernel_rfl) (fun _ _ _ h => h) (Or.inl ⟨by rfl, ?_⟩) (by assumption) ?_
          rotate_left
          · intro w hSw; (try dsimp only at hSw); go_simp; try with_reducible rfl
          try go_frame
          refine take_at (i := 1) (v := ?_) rfl rfl (by kernel_rfl) (by kernel_rfl) (by kernel_rfl) (fun _ _ _ h => h) (Or.inl ⟨by rfl, ?_⟩) (by assumption) ?_
          rotate_left
          · intro w hSw; (try dsimp only at hSw); go_simp; try with_reducible rfl
          try go_frame
          refine take_at (i := 2) (v := ?_) rfl rfl (by kernel_rfl) (by kernel_rfl) (by kernel_rfl) (fun _ _ _ h => h) (Or.inl ⟨by rfl, ?_⟩) (by assumption) ?_
          rotate_left
          · intro w hSw; (try dsimp only at hSw); go_simp; try with_reducible rfl
          try go_frame
          refine take_at (i := 3) (v := ?_) rfl rfl (by kernel_rfl) (by kernel_rfl) (by kernel_rfl) (fun _ _ _ h => h) (Or.inl ⟨by rfl, ?_⟩) (by assumption) ?_
          rotate_left
          · intro w hSw; (try dsimp only at hSw); go_simp; try with_reducible rfl
          try go_frame
          refine take_at (i := 5) (v := ?_) rfl rfl (by kernel_rfl) (by kernel_rfl) (by kernel_rfl) (fun _ _ _ h => h) (Or.inl ⟨by rfl, ?_⟩) (by assumption) ?_
          rotate_left
          · intro w hSw; (try dsimp only at hSw); go_simp; try with_reducible rfl
          try go_frame
          refine take_at (i := 6) (v := ?_) rfl rfl (by kernel_rfl) (by kernel_rfl) (by kernel_rfl) (fun _ _ _ h => h) (Or.inl ⟨by rfl, ?_⟩) (by assumption) ?_
          rotate_left
          · intro w hSw; (try dsimp only at hSw); go_simp; try with_reducible rfl
          try go_frame
          refine take_at (i := 7) (v := ?_) rfl rfl (by kernel_rfl) (by kernel_rfl) (by kernel_rfl) (fun _ _ _ h => h) (Or.inl ⟨by rfl, ?_⟩) (by assumption) ?_
          rotate_left
          · intro w hSw; (try dsimp only at hSw); go_simp; try with_reducible rfl
          try go_frame
          refine wpAnyH_ready (rs := [4, 8]) (by kernel_rfl) (by simp) ?_
          refine AllReadyH.cons rfl (fun K hK => ?_) (AllReadyH.cons rfl (fun K hK => ?_) AllReadyH.nil)
          · go_simp
            refine hK.out _ _ trivial (fun hHeld => ?_)
            clear hK K
            refine wpAnyH_ready (rs := [8]) (by kernel_rfl) (by simp) ?_
            refine AllReadyH.cons rfl (fun K hK => ?_) AllReadyH.nil
            go_simp
            refine hK.out _ _ trivial (fun hHeld => ?_)
            clear hK K
            refine take_at (i := 9) (v := ?_) rfl rfl (by kernel_rfl) (by kernel_rfl) (by kernel_rfl) (fun _ _ _ h => h) (Or.inl ⟨by rfl, ?_⟩) (by assumption) ?_
            rotate_left
            · intro w hSw; (try dsimp only at hSw); go_simp; try with_reducible rfl
            try go_frame
            refine wpAnyH_ready (rs := [10]) (by kernel_rfl) (by simp) ?_
            refine AllReadyH.cons rfl (fun K hK => ?_) AllReadyH.nil
            go_simp
            refine (word_any _ _).mono ?_
            rintro e w' ⟨rfl, rfl⟩
            refine hK.out _ _ trivial (fun hHeld => ?_)
            clear hK K
            refine wpAnyH_ready (rs := [11]) (by kernel_rfl) (by simp) ?_
            refine AllReadyH.cons rfl (fun K hK => ?_) AllReadyH.nil
            go_simp
            refine hK.out _ _ trivial (fun hHeld => ?_)
            clear hK K
            refine wpAnyH_ready (rs := [12]) (by kernel_rfl) (by simp) ?_
            refine AllReadyH.cons rfl (fun K hK => ?_) AllReadyH.nil
            refine step_app1 rfl rfl _ _ 123 rfl w5.heap.size 3 i0 .i64 8 Tryz.underlying123 hi hz0 hz1 hz2 wr u21 k _ rfl hown _ rfl (by omega) (by omega) (by exact hsz) ?_
            intro v' w2 hown1 hbl1
            refine hK.out _ _ trivial (fun hHeld => ?_)
            clear hK K
            refine take_at (i := 13) (v := ?_) rfl rfl (by kernel_rfl) (by kernel_rfl) (by kernel_rfl) (fun _ _ _ h => h) (Or.inl ⟨by rfl, ?_⟩) (by assumption) ?_
            rotate_left
            · intro w hSw; (try dsimp only at hSw); go_simp; try with_reducible rfl
            try go_frame
            refine wpAnyH_done (by kernel_rfl) (NoPanic.normal ?_) _
            rw [add32_val X Y lX lY, NX.out, addL_snoc x _ k hlt] at hown1
            have HB2 := hbl.trans hbl1
            clear hbl1 hown hbl c0 c1
            go_wp2
            go_roundw
            case rel =>
              (repeat apply Exists.intro)
              refine ⟨?_, rfl⟩
              exact ⟨k + 1, by omega, by go_num, hown1, HB2⟩
            case measure => simp [intOf]; omega
          · go_simp
            refine hK.out _ _ trivial (fun hHeld => ?_)
            clear hK K
            refine wpAnyH_ready (rs := [4]) (by kernel_rfl) (by simp) ?_
            refine AllReadyH.cons rfl (fun K hK => ?_) AllReadyH.nil
            go_simp
            refine hK.out _ _ trivial (fun hHeld => ?_)
            clear hK K
            refine take_at (i := 9) (v := ?_) rfl rfl (by kernel_rfl) (by kernel_rfl) (by kernel_rfl) (fun _ _ _ h => h) (Or.inl ⟨by rfl, ?_⟩) (by assumption) ?_
            rotate_left
            · intro w hSw; (try dsimp only at hSw); go_simp; try with_reducible rfl
            try go_frame
            refine wpAnyH_ready (rs := [10]) (by kernel_rfl) (by simp) ?_
            refine AllReadyH.cons rfl (fun K hK => ?_) AllReadyH.nil
            go_simp
            refine (word_any _ _).mono ?_
            rintro e w' ⟨rfl, rfl⟩
            refine hK.out _ _ trivial (fun hHeld => ?_)
            clear hK K
            refine wpAnyH_ready (rs := [11]) (by kernel_rfl) (by simp) ?_
            refine AllReadyH.cons rfl (fun K hK => ?_) AllReadyH.nil
            go_simp
            refine hK.out _ _ trivial (fun hHeld => ?_)
            clear hK K
            refine wpAnyH_ready (rs := [12]) (by kernel_rfl) (by simp) ?_
            refine AllReadyH.cons rfl (fun K hK => ?_) AllReadyH.nil
            refine step_app1 rfl rfl _ _ 123 rfl w5.heap.size 3 i0 .i64 8 Tryz.underlying123 hi hz0 hz1 hz2 wr u21 k _ rfl hown _ rfl (by omega) (by omega) (by exact hsz) ?_
            intro v' w2 hown1 hbl1
            refine hK.out _ _ trivial (fun hHeld => ?_)
            clear hK K
            refine take_at (i := 13) (v := ?_) rfl rfl (by kernel_rfl) (by kernel_rfl) (by kernel_rfl) (fun _ _ _ h => h) (Or.inl ⟨by rfl, ?_⟩) (by assumption) ?_
            rotate_left
            · intro w hSw; (try dsimp only at hSw); go_simp; try with_reducible rfl
            try go_frame
            refine wpAnyH_done (by kernel_rfl) (NoPanic.normal ?_) _
            rw [add32_val X Y lX lY, NX.out, addL_snoc x _ k hlt] at hown1
            have HB2 := hbl.trans hbl1
            clear hbl1 hown hbl c0 c1
            go_wp2
            go_roundw
            case rel =>
              (repeat apply Exists.intro)
              refine ⟨?_, rfl⟩
              exact ⟨k + 1, by omega, by go_num, hown1, HB2⟩
            case measure => simp [intOf]; omega
        · have hk8 : k = 8 := by omega
          subst hk8
          rw [List.take_of_length_le (by rw [ints_length, addL_length]; omega)] at hown
          obtain ⟨a, c', rfl, hI⟩ := hown.ints
          have HI : Hid (IntsAt wr .i64 a 8 _) := hI
          clear hI hown hi hz0 hz1 hz2
          go_wp2_with fail
          refine (rputBig_any _ 8 _ _ _ (by omega) HI.out).mono ?_
          rintro e w6 ⟨rfl, hb6⟩
          go_wp2_with fail
          go_ret2
          refine ⟨?_, below_step (below_step hB5.out (Nat.le_refl _) hbl) (Nat.le_refl _) hb6⟩
          rw [← Hr.out]; rfl
theorem rblock_ok (s b : ByteArray) (w : World) (hs : s.size = 32) (hb : b.size = 64) :
    Calls Tryz.prog 120 #[.string s, .string b] w fun e w' => e = .returned (.tuple #[.string (ofN (behindN (wordsN s) (bt b))), .int .i64 0]) ∧ Below w.heap.size w w' :=
  rblock_walk s b (wS (blkN (bt b))) (runN (blkN (bt b)) (wordsN s)) (wordsN s) w hs hb rfl (spread_wS (bt b) (bt_lt b)) ⟨rfl, fun _ => rfl, runN_ok _ _ (wordsN_ok s)⟩
end Go.Proofs.YtabhkebkbidfhaaGreatDoor

namespace Go.Proofs.YtabhkebkbidfhaaGreatDoor
open Go.RowKit
set_option maxRecDepth 100000
set_option linter.unusedSimpArgs false
theorem Tryz.arr8 : (Tryz.prog.info? 152).map (·.size) = some 8 := by kernel_rfl
theorem Tryz.arr64 : (Tryz.prog.info? 178).map (·.size) = some 64 := by kernel_rfl
set_option maxHeartbeats 2000000 in
theorem put_any (l : List Nat) (w : World) (hl : l.length = 8) (ho : Ok l) :
    Calls Tryz.prog 133 #[.agg (vals l)] w fun e w' => e = .returned (.string (ofN l)) ∧ Below w.heap.size w w' := by
  obtain ⟨i0, hi, hz0, hz1, hz2⟩ := info_parts Tryz.info3
  go_enter Tryz.func133, Tryz.ntmps133
  go_wp2_with (at_make; refine wpList_make_full _ rfl _ _ 123 rfl (w.heap.size + 1) 3 i0 (.int .i64 0) 1 Tryz.underlying123 hi hz0 hz1 _ _ _ _ 8 rfl rfl ?b4 ?b5 ?b1 ?b2 ?b3 ?_)
  case b1 => rw [hz2]; omega
  case b2 => unfold maxLen; omega
  case b3 => simp
  case b4 => omega
  case b5 => omega
  intro w1 hown0 hgrow
  have hown : Own w1 (w.heap.size + 1) 3 .i64 (w.heap.size + 1) 8 (tab 8 (upTo l 0)) := Own.made' _ (fun i _ => upTo_zero l i) hown0
  have hbl : Below (w.heap.size + 1) (w.alloc (.cells (vals l) 152)) w1 := (Below.refl _ _).grown hgrow (by simp) (fun k hk => by cases hk)
  have harr := (Arr.new w 152 l (vals l) rfl).below hbl (by omega)
  have HA : Hid (Arr w1 152 w.heap.size l) := harr
  have HB : Hid (Below w.heap.size w w1) := (below_new w _).trans (hbl.mono (by omega))
  have hg1 : w.heap.size + 1 ≤ w1.heap.size := by have := hbl.size; simp at this; exact this
  clear hown0 hgrow hi hz0 hz1 hz2 hbl harr
  go_wp2
  go_loopw [6] (fun i wr => ∃ k : Nat, k ≤ 8 ∧ i = .int .i64 k ∧ Own wr (w.heap.size + 1) 3 .i64 (w.heap.size + 1) 8 (tab 8 (upTo l k)) ∧ Below (w.heap.size + 1) w1 wr) (fun i _ => 8 - (intOf i).toNat)
  case atStart => exact ⟨0, Nat.zero_le _, rfl, hown, Below.refl _ _⟩
  case round =>
    clear hown
    obtain ⟨k, hk, rfl, hown, hbl⟩ := hrel
    by_cases hlt : k < 8
    · obtain ⟨X, hX⟩ : ∃ x, x = l.getD k 0 := ⟨_, rfl⟩
      have lX : X < 4294967296 := by rw [hX]; exact ho k
      have c0 := (HA.out.below hbl (by omega)).cell k (by omega)
      rw [← hX] at c0
      have hc := hown.cell k hlt
      rw [tab_getD _ _ _ hlt] at hc
      have hf := hown.free k
      have HO := hown.set k (X : Int)
      rw [upTo_set l 8 k X hX] at HO
      have HBl := hbl.setCell (p := ⟨w.heap.size + 1, k, none⟩) (Nat.le_refl _) (Value.int .i64 (X : Int))
      have b0 : (k : Int) < 8 := by omega
      clear hX
      go_wp2
      go_roundw
      case rel => exact ⟨k + 1, by omega, by go_num, HO, HBl⟩
      case measure => simp [intOf]; omega
    · have hk' : k = 8 := by omega
      subst hk'
      rw [upTo_all l 8 hl] at hown
      have HI : Hid (IntsAt wr .i64 (some ⟨w.heap.size + 1, 0, none⟩) 8 (ints l)) := hown.ints
      clear hown
      go_wp2_with fail
      refine (putBig_any _ 8 _ (ints l) _ (by omega) HI.out).mono ?_
      rintro e w6 ⟨rfl, hb6⟩
      go_wp2_with fail
      go_ret
      exact ⟨rfl, below_step (HB.out.trans (hbl.mono (by omega))) (Nat.le_refl _) hb6⟩
theorem spread_bits (a b n m X : Nat) (ha : a < 4294967296) (hb : b < 4294967296) (hX : X < 4294967296) (hm : n = a ^^^ b ^^^ (X / m)) :
    bits .xor .u32 (bits .xor .u32 (a : Int) (b : Int)) ((X : Int) / (m : Int)) = (n : Int) := by
  have h1 := xor_lt32 a b ha hb
  have h2 : X / m < 4294967296 := Nat.lt_of_le_of_lt (Nat.div_le_self _ _) hX
  rw [u32_xor_nat a b ha hb, show ((X : Int) / (m : Int)) = ((X / m : Nat) : Int) by simp, u32_xor_nat (a ^^^ b) (X / m) h1 h2, hm]
theorem spread_val (X0 X1 X9 X14 : Nat) (l1 : X1 < 4294967296) (l14 : X14 < 4294967296) :
    IntKind.u32.wrap (IntKind.u32.wrap (IntKind.u32.wrap ((X0 : Int) + bits .xor .u32 (bits .xor .u32 ((rr X1 7 : Nat) : Int) ((rr X1 18 : Nat) : Int)) ((X1 : Int) / 8)) + (X9 : Int)) + bits .xor .u32 (bits .xor .u32 ((rr X14 17 : Nat) : Int) ((rr X14 19 : Nat) : Int)) ((X14 : Int) / 1024)) = ((nx X0 X1 X9 X14 : Nat) : Int) := by
  have e1 := spread_bits (rr X1 7) (rr X1 18) (sg0 X1) 8 X1 (rr_lt _ _ l1) (rr_lt _ _ l1) l1 rfl
  have e2 := spread_bits (rr X14 17) (rr X14 19) (sg1 X14) 1024 X14 (rr_lt _ _ l14) (rr_lt _ _ l14) l14 rfl
  have h1 := sg0_lt X1 l1
  have h2 := sg1_lt X14 l14
  rw [show ((8 : Nat) : Int) = 8 from rfl] at e1
  rw [show ((1024 : Nat) : Int) = 1024 from rfl] at e2
  rw [e1, e2]
  unfold nx
  generalize sg0 X1 = A at *
  generalize sg1 X14 = B at *
  simp only [u32_wrap]
  omega
set_option maxRecDepth 100000 in
set_option maxHeartbeats 8000000 in
theorem spread_any (b : ByteArray) (W : Nat → Nat) (w : World) (hs : b.size = 64) (hW : Spread W (bt b)) :
    Calls Tryz.prog 170 #[.string b] w fun e w' => e = .returned (.agg (vals (tabN 64 W))) ∧ Below w.heap.size w w' := by
  have HL : Hid (∀ i, W i < 4294967296) := hW.1
  have HN : Hid (∀ k, k < 48 → W (k + 16) = _) := hW.2.1
  have HF : Hid (wordsL b bsh = wT W 16) := by show _ = _; rw [wordsN_ints, wordsN_blk b hs]; exact wT_first _ _ _ (blkN_length _) hW.2.2
  clear hW
  go_enter Tryz.func170, Tryz.ntmps170
  go_wp2_with fail
  refine (big_even b _ (by omega) (by omega)).mono ?_
  rintro e w1 ⟨rfl, ho1, hb1⟩
  have hsz : b.size / 4 = 16 := by omega
  rw [HF.out, hsz] at ho1
  have a0 := ((Arr.new w 178 (tabN 64 (cutN W 0)) _ (by kernel_rfl)).alloc _).below hb1 (by simp; omega)
  have a1 := (Arr.new' _ 178 (tabN 64 (cutN W 0)) _ (w.heap.size + 1) (by simp) (by kernel_rfl)).below hb1 (by simp)
  have hB : Below w.heap.size w w1 := ((below_new w _).alloc (by simp) _).trans (hb1.mono (by simp; omega))
  have hI := ho1.ints
  have HA0 : Hid (Arr w1 178 w.heap.size _) := a0
  have HA1 : Hid (Arr w1 178 (w.heap.size + 1) _) := a1
  clear ho1 hb1 a1 a0
  simp only [World.size_alloc] at hI
  have HI : Hid (IntsAt w1 _ _ _ _) := hI
  clear hI
  go_wp2_with fail
  go_loopw [17] (fun i wr => ∃ k : Nat, k ≤ 16 ∧ i = .int .i64 k ∧ Hid (Arr wr 178 w.heap.size (tabN 64 (cutN W 0))) ∧ Hid (Arr wr 178 (w.heap.size + 1) (tabN 64 (cutN W k))) ∧ Hid (IntsAt wr .i64 (some ⟨w.heap.size + 1 + 1, 0, none⟩) 16 (wT W 16)) ∧ Below w.heap.size w wr) (fun i _ => 16 - (intOf i).toNat)
  case atStart => exact ⟨0, Nat.zero_le _, rfl, HA0, HA1, HI, hB⟩
  case round =>
    clear HA0 HA1 HI hB
    obtain ⟨k, hk, rfl, HA0, HA1, HI, hbl⟩ := hrel
    by_cases hlt : k < 16
    · obtain ⟨X, hX⟩ : ∃ x, x = W k := ⟨_, rfl⟩
      have lX : X < 4294967296 := by rw [hX]; exact HL.out k
      have c0 := HI.out.cellAt k hlt
      rw [wT_getD _ _ _ hlt, ← hX] at c0
      have c1 := HA1.out.cell k (by rw [tabN_length]; omega)
      have hf := HA1.out.free k
      have HO := HA1.out.set k X
      rw [hX, cutN_set, ← hX] at HO
      have HA0' : Hid (Arr _ 178 w.heap.size _) := HA0.out.other ⟨w.heap.size + 1, k, none⟩ (by simp) (Value.int .u32 (X : Int))
      have HI' : Hid (IntsAt _ .i64 (some ⟨w.heap.size + 1 + 1, 0, none⟩) 16 (wT W 16)) := HI.out.other ⟨w.heap.size + 1, k, none⟩ (by simp) (Value.int .u32 (X : Int))
      have HO' : Hid (Arr _ 178 (w.heap.size + 1) _) := HO
      have HBl := hbl.setCell (p := ⟨w.heap.size + 1, k, none⟩) (by simp) (Value.int .u32 (X : Int))
      have b0 : (k : Int) < 16 := by omega
      have b1 : (k : Int) < 64 := by omega
      clear hX HO HA0 HA1 HI
      go_wp2
      go_roundw
      case rel => exact ⟨k + 1, by omega, by go_num, HA0', HO', HI', HBl⟩
      case measure => simp [intOf]; omega
    · have hk' : k = 16 := by omega
      subst hk'
      clear HI
      obtain ⟨w5, h5⟩ : ∃ w5, w5 = wr := ⟨_, rfl⟩
      rw [← h5] at HA0 HA1 hbl ⊢
      clear h5 hk hlt
      go_wp2_with fail
      go_loopw [28] (fun i wr => ∃ k : Nat, k ≤ 48 ∧ i = .int .i64 k ∧ Hid (Arr wr 178 w.heap.size (tabN 64 (cutN W 0))) ∧ Hid (Arr wr 178 (w.heap.size + 1) (tabN 64 (cutN W (k + 16)))) ∧ Below w.heap.size w wr) (fun i _ => 48 - (intOf i).toNat)
      case atStart => exact ⟨0, Nat.zero_le _, rfl, HA0, HA1, hbl⟩
      case round =>
        clear HA0 HA1 hbl
        obtain ⟨k, hk, rfl, HA0, HA1, hbl⟩ := hrel
        by_cases hlt : k < 48
        · obtain ⟨p1, hp1⟩ : ∃ p, p = k + 1 := ⟨_, rfl⟩
          obtain ⟨p9, hp9⟩ : ∃ p, p = k + 9 := ⟨_, rfl⟩
          obtain ⟨p14, hp14⟩ : ∃ p, p = k + 14 := ⟨_, rfl⟩
          obtain ⟨p16, hp16⟩ : ∃ p, p = k + 16 := ⟨_, rfl⟩
          obtain ⟨X0, hX0⟩ : ∃ x, x = W k := ⟨_, rfl⟩
          obtain ⟨X1, hX1⟩ : ∃ x, x = W p1 := ⟨_, rfl⟩
          obtain ⟨X9, hX9⟩ : ∃ x, x = W p9 := ⟨_, rfl⟩
          obtain ⟨X14, hX14⟩ : ∃ x, x = W p14 := ⟨_, rfl⟩
          have gt : ∀ j, j < k + 16 → (tabN 64 (cutN W (k + 16))).getD j 0 = W j := fun j hj => by
            rw [tabN_getD _ _ _ (by omega)]; unfold cutN; rw [if_pos hj]
          have c0 := HA1.out.cell k (by rw [tabN_length]; omega)
          have c1 := HA1.out.cell p1 (by rw [tabN_length]; omega)
          have c9 := HA1.out.cell p9 (by rw [tabN_length]; omega)
          have c14 := HA1.out.cell p14 (by rw [tabN_length]; omega)
          have c16 := HA1.out.cell p16 (by rw [tabN_length]; omega)
          rw [gt k (by omega), ← hX0] at c0
          rw [gt p1 (by omega), ← hX1] at c1
          rw [gt p9 (by omega), ← hX9] at c9
          rw [gt p14 (by omega), ← hX14] at c14
          obtain ⟨V, hV⟩ : ∃ v, v = (tabN 64 (cutN W (k + 16))).getD p16 0 := ⟨_, rfl⟩
          rw [← hV] at c16
          clear hV
          have f16 := HA1.out.free p16
          have l1 : X1 < 4294967296 := by rw [hX1]; exact HL.out _
          have l14 : X14 < 4294967296 := by rw [hX14]; exact HL.out _
          obtain ⟨N, hN⟩ : ∃ n, n = nx X0 X1 X9 X14 := ⟨_, rfl⟩
          have hN' : W p16 = N := by rw [hN, hp16, HN.out k hlt, hX0, hX1, hX9, hX14, hp1, hp9, hp14]
          have HO := HA1.out.set p16 N
          rw [← hN', hp16, cutN_set, ← hp16, hN'] at HO
          have s0 := HO.cell k (by rw [tabN_length]; omega)
          have s9 := HO.cell p9 (by rw [tabN_length]; omega)
          rw [tabN_getD _ _ _ (by omega), show cutN W (p16 + 1) k = X0 by unfold cutN; rw [if_pos (by omega), hX0]] at s0
          rw [tabN_getD _ _ _ (by omega), show cutN W (p16 + 1) p9 = X9 by unfold cutN; rw [if_pos (by omega), hX9]] at s9
          have HO' : Hid (Arr (wr.setCell ⟨w.heap.size + 1, p16, none⟩ (.int .u32 (N : Int))) 178 (w.heap.size + 1) (tabN 64 (cutN W (k + 1 + 16)))) := by show Arr _ _ _ _; rw [show k + 1 + 16 = p16 + 1 by omega]; exact HO
          have HA0' : Hid (Arr _ 178 w.heap.size _) := HA0.out.other ⟨w.heap.size + 1, p16, none⟩ (by simp) (Value.int .u32 (N : Int))
          have HBl := hbl.setCell (p := ⟨w.heap.size + 1, p16, none⟩) (by simp) (Value.int .u32 (N : Int))
          have SS : Hid (_ ∧ _) := ⟨s0, s9⟩
          have NX : Hid (N = nx X0 X1 X9 X14) := hN
          have q1 : IntKind.i64.wrap ((k : Int) + 1) = (p1 : Int) := by rw [i64_small _ (by omega) (by omega)]; omega
          have q9 : IntKind.i64.wrap ((k : Int) + 9) = (p9 : Int) := by rw [i64_small _ (by omega) (by omega)]; omega
          have q14 : IntKind.i64.wrap ((k : Int) + 14) = (p14 : Int) := by rw [i64_small _ (by omega) (by omega)]; omega
          have q16 : IntKind.i64.wrap ((k : Int) + 16) = (p16 : Int) := by rw [i64_small _ (by omega) (by omega)]; omega
          have b0 : (k : Int) < 64 := by omega
          have b1 : (p1 : Int) < 64 := by omega
          have b9 : (p9 : Int) < 64 := by omega
          have b14 : (p14 : Int) < 64 := by omega
          have b16 : (p16 : Int) < 64 := by omega
          have C7 : Hid (∀ w, Calls Tryz.prog 171 #[.int .u32 X1, .int .i64 7] w _) := fun w => right_any X1 7 l1 (by decide) (by decide) w
          have C18 : Hid (∀ w, Calls Tryz.prog 171 #[.int .u32 X1, .int .i64 18] w _) := fun w => right_any X1 18 l1 (by decide) (by decide) w
          have C17 : Hid (∀ w, Calls Tryz.prog 171 #[.int .u32 X14, .int .i64 17] w _) := fun w => right_any X14 17 l14 (by decide) (by decide) w
          have C19 : Hid (∀ w, Calls Tryz.prog 171 #[.int .u32 X14, .int .i64 19] w _) := fun w => right_any X14 19 l14 (by decide) (by decide) w
          clear HO s0 s9 hN hN' hX0 hX1 hX9 hX14 gt hp1 hp9 hp14 hp16 HA0 HA1
          go_wp2
          go_quiet (fail)
          go_wp2_with fail
          clear c1 c14 b1 b14 q1 q14
          generalize hq : World.drewN wr _ = wq
          have d0 : wq.cell? ⟨w.heap.size + 1, k, none⟩ = some (.int .u32 (X0 : Int)) := by rw [← hq]; exact c0
          have d9 : wq.cell? ⟨w.heap.size + 1, p9, none⟩ = some (.int .u32 (X9 : Int)) := by rw [← hq]; exact c9
          have d16 : wq.cell? ⟨w.heap.size + 1, p16, none⟩ = some (.int .u32 (V : Int)) := by rw [← hq]; exact c16
          have df : wq.frozen? ⟨w.heap.size + 1, p16, none⟩ = false := by rw [← hq]; exact f16
          have SS' : Hid ((wq.setCell ⟨w.heap.size + 1, p16, none⟩ (.int .u32 (N : Int))).cell? ⟨w.heap.size + 1, k, none⟩ = some (.int .u32 (X0 : Int)) ∧ (wq.setCell ⟨w.heap.size + 1, p16, none⟩ (.int .u32 (N : Int))).cell? ⟨w.heap.size + 1, p9, none⟩ = some (.int .u32 (X9 : Int))) := by rw [← hq]; exact SS.out
          have HO2 : Hid (Arr (wq.setCell ⟨w.heap.size + 1, p16, none⟩ (.int .u32 (N : Int))) 178 (w.heap.size + 1) (tabN 64 (cutN W (k + 1 + 16)))) := by rw [← hq]; exact HO'.out
          have HA2 : Hid (Arr (wq.setCell ⟨w.heap.size + 1, p16, none⟩ (.int .u32 (N : Int))) 178 w.heap.size (tabN 64 (cutN W 0))) := by rw [← hq]; exact HA0'.out
          have HB2 : Hid (Below w.heap.size w (wq.setCell ⟨w.heap.size + 1, p16, none⟩ (.int .u32 (N : Int)))) := by rw [← hq]; exact below_drewN HBl _
          clear hq c0 c9 c16 f16 SS HO' HA0' HBl hbl
          refine wp_region_noPanic ?_
          refine wp_region_held_drew (S := fun w' => w'.cell? ⟨w.heap.size + 1, k, none⟩ = some (.int .u32 (X0 : Int)) ∧ w'.cell? ⟨w.heap.size + 1, p9, none⟩ = some (.int .u32 (X9 : Int))) (by kernel_rfl) (by first | exact trivial | assumption | exact ⟨by assumption, by assumption⟩) (fun hHeld => ?_)
          refine take_at (i := 0) (v := ?_) rfl rfl (by kernel_rfl) (by kernel_rfl) (by kernel_rfl) (fun _ _ _ h => h) (Or.inl ⟨by rfl, ?_⟩) (by assumption) ?_
          rotate_left
          · intro w hSw; (try dsimp only at hSw); go_simp; try with_reducible rfl
          try go_frame
          refine take_at (i := 1) (v := ?_) rfl rfl (by kernel_rfl) (by kernel_rfl) (by kernel_rfl) (fun _ _ _ h => h) (Or.inl ⟨by rfl, ?_⟩) (by assumption) ?_
          rotate_left
          · intro w hSw; (try dsimp only at hSw); go_simp; try with_reducible rfl
          try go_frame
          refine take_at (i := 2) (v := ?_) rfl rfl (by kernel_rfl) (by kernel_rfl) (by kernel_rfl) (fun _ _ _ h => h) (Or.inl ⟨by rfl, ?_⟩) (by assumption) ?_
          rotate_left
          · intro w hSw; (try dsimp only at hSw); go_simp; try with_reducible rfl
          try go_frame
          refine take_at (i := 3) (v := ?_) rfl rfl (by kernel_rfl) (by kernel_rfl) (by kernel_rfl) (fun _ _ _ h => h) (Or.inl ⟨by rfl, ?_⟩) (by assumption) ?_
          rotate_left
          · intro w hSw; (try dsimp only at hSw); go_simp; try with_reducible rfl
          try go_frame
          refine take_at (i := 4) (v := ?_) rfl rfl (by kernel_rfl) (by kernel_rfl) (by kernel_rfl) (fun _ _ _ h => h) (Or.inl ⟨by rfl, ?_⟩) (by assumption) ?_
          rotate_left
          · intro w hSw; (try dsimp only at hSw); go_simp; try with_reducible rfl
          try go_frame
          refine take_at (i := 5) (v := ?_) rfl rfl (by kernel_rfl) (by kernel_rfl) (by kernel_rfl) (fun _ _ _ h => h) (Or.inl ⟨by rfl, ?_⟩) (by assumption) ?_
          rotate_left
          · intro w hSw; (try dsimp only at hSw); go_simp; try with_reducible rfl
          try go_frame
          refine take_at (i := 7) (v := ?_) rfl rfl (by kernel_rfl) (by kernel_rfl) (by kernel_rfl) (fun _ _ _ h => h) (Or.inl ⟨by rfl, ?_⟩) (by assumption) ?_
          rotate_left
          · intro w hSw; (try dsimp only at hSw); go_simp; try with_reducible rfl
          try go_frame
          refine take_at (i := 10) (v := ?_) rfl rfl (by kernel_rfl) (by kernel_rfl) (by kernel_rfl) (fun _ _ _ h => h) (Or.inl ⟨by rfl, ?_⟩) (by assumption) ?_
          rotate_left
          · intro w hSw; (try dsimp only at hSw); go_simp; try with_reducible rfl
          try go_frame
          refine take_at (i := 11) (v := ?_) rfl rfl (by kernel_rfl) (by kernel_rfl) (by kernel_rfl) (fun _ _ _ h => h) (Or.inl ⟨by rfl, ?_⟩) (by assumption) ?_
          rotate_left
          · intro w hSw; (try dsimp only at hSw); go_simp; try with_reducible rfl
          try go_frame
          refine take_at (i := 14) (v := ?_) rfl rfl (by kernel_rfl) (by kernel_rfl) (by kernel_rfl) (fun _ _ _ h => h) (Or.inl ⟨by rfl, ?_⟩) (by assumption) ?_
          rotate_left
          · intro w hSw; (try dsimp only at hSw); go_simp; try with_reducible rfl
          try go_frame
          refine take_at (i := 15) (v := ?_) rfl rfl (by kernel_rfl) (by kernel_rfl) (by kernel_rfl) (fun _ _ _ h => h) (Or.inl ⟨by rfl, ?_⟩) (by assumption) ?_
          rotate_left
          · intro w hSw; (try dsimp only at hSw); go_simp; try with_reducible rfl
          try go_frame
          refine take_at (i := 16) (v := ?_) rfl rfl (by kernel_rfl) (by kernel_rfl) (by kernel_rfl) (fun _ _ _ h => h) (Or.inl ⟨by rfl, ?_⟩) (by assumption) ?_
          rotate_left
          · intro w hSw; (try dsimp only at hSw); go_simp; try with_reducible rfl
          try go_frame
          refine take_at (i := 17) (v := ?_) rfl rfl (by kernel_rfl) (by kernel_rfl) (by kernel_rfl) (fun _ _ _ h => h) (Or.inl ⟨by rfl, ?_⟩) (by assumption) ?_
          rotate_left
          · intro w hSw; (try dsimp only at hSw); go_simp; try with_reducible rfl
          try go_frame
          refine take_at (i := 19) (v := ?_) rfl rfl (by kernel_rfl) (by kernel_rfl) (by kernel_rfl) (fun _ _ _ h => h) (Or.inl ⟨by rfl, ?_⟩) (by assumption) ?_
          rotate_left
          · intro w hSw; (try dsimp only at hSw); go_simp; try with_reducible rfl
          try go_frame
          refine take_at (i := 21) (v := ?_) rfl rfl (by kernel_rfl) (by kernel_rfl) (by kernel_rfl) (fun _ _ _ h => h) (Or.inl ⟨by rfl, ?_⟩) (by assumption) ?_
          rotate_left
          · intro w hSw; (try dsimp only at hSw); go_simp; try with_reducible rfl
          try go_frame
          refine take_at (i := 24) (v := ?_) rfl rfl (by kernel_rfl) (by kernel_rfl) (by kernel_rfl) (fun _ _ _ h => h) (Or.inl ⟨by rfl, ?_⟩) (by assumption) ?_
          rotate_left
          · intro w hSw; (try dsimp only at hSw); go_simp; try with_reducible rfl
          try go_frame
          refine take_at (i := 25) (v := ?_) rfl rfl (by kernel_rfl) (by kernel_rfl) (by kernel_rfl) (fun _ _ _ h => h) (Or.inl ⟨by rfl, ?_⟩) (by assumption) ?_
          rotate_left
          · intro w hSw; (try dsimp only at hSw); go_simp; try with_reducible rfl
          try go_frame
          refine wpAnyH_ready (rs := [6]) (by kernel_rfl) (by simp) ?_
          refine AllReadyH.cons rfl (fun K hK => ?_) AllReadyH.nil
          go_simp
          refine (C7.out _).mono ?_
          rintro e w' ⟨rfl, rfl⟩
          refine hK.out _ _ ⟨d0, d9⟩ (fun hHeld => ?_)
          clear hK K
          refine wpAnyH_ready (rs := [8]) (by kernel_rfl) (by simp) ?_
          refine AllReadyH.cons rfl (fun K hK => ?_) AllReadyH.nil
          go_simp
          refine (C18.out _).mono ?_
          rintro e w' ⟨rfl, rfl⟩
          refine hK.out _ _ ⟨d0, d9⟩ (fun hHeld => ?_)
          clear hK K
          refine take_at (i := 9) (v := ?_) rfl rfl (by kernel_rfl) (by kernel_rfl) (by kernel_rfl) (fun _ _ _ h => h) (Or.inl ⟨by rfl, ?_⟩) (by assumption) ?_
          rotate_left
          · intro w hSw; (try dsimp only at hSw); go_simp; try with_reducible rfl
          try go_frame
          refine take_at (i := 12) (v := ?_) rfl rfl (by kernel_rfl) (by kernel_rfl) (by kernel_rfl) (fun _ _ _ h => h) (Or.inl ⟨by rfl, ?_⟩) (by assumption) ?_
          rotate_left
          · intro w hSw; (try dsimp only at hSw); go_simp; try with_reducible rfl
          try go_frame
          refine take_at (i := 13) (v := ?_) rfl rfl (by kernel_rfl) (by kernel_rfl) (by kernel_rfl) (fun _ _ _ h => h) (Or.inl ⟨by rfl, ?_⟩) (by assumption) ?_
          rotate_left
          · intro w hSw; (try dsimp only at hSw); go_simp; try with_reducible rfl
          try go_frame
          refine take_at (i := 18) (v := ?_) rfl rfl (by kernel_rfl) (by kernel_rfl) (by kernel_rfl) (fun _ _ _ h => h) (Or.inl ⟨by rfl, ?_⟩) (by assumption) ?_
          rotate_left
          · intro w hSw; (try dsimp only at hSw); go_simp; try with_reducible rfl
          try go_frame
          refine wpAnyH_ready (rs := [20]) (by kernel_rfl) (by simp) ?_
          refine AllReadyH.cons rfl (fun K hK => ?_) AllReadyH.nil
          go_simp
          refine (C17.out _).mono ?_
          rintro e w' ⟨rfl, rfl⟩
          refine hK.out _ _ ⟨d0, d9⟩ (fun hHeld => ?_)
          clear hK K
          refine wpAnyH_ready (rs := [22]) (by kernel_rfl) (by simp) ?_
          refine AllReadyH.cons rfl (fun K hK => ?_) AllReadyH.nil
          go_simp
          refine (C19.out _).mono ?_
          rintro e w' ⟨rfl, rfl⟩
          refine hK.out _ _ ⟨d0, d9⟩ (fun hHeld => ?_)
          clear hK K
          refine take_at (i := 23) (v := ?_) rfl rfl (by kernel_rfl) (by kernel_rfl) (by kernel_rfl) (fun _ _ _ h => h) (Or.inl ⟨by rfl, ?_⟩) (by assumption) ?_
          rotate_left
          · intro w hSw; (try dsimp only at hSw); go_simp; try with_reducible rfl
          try go_frame
          refine take_at (i := 26) (v := ?_) rfl rfl (by kernel_rfl) (by kernel_rfl) (by kernel_rfl) (fun _ _ _ h => h) (Or.inl ⟨by rfl, ?_⟩) (by assumption) ?_
          rotate_left
          · intro w hSw; (try dsimp only at hSw); go_simp; try with_reducible rfl
          try go_frame
          refine take_at (i := 27) (v := ?_) rfl rfl (by kernel_rfl) (by kernel_rfl) (by kernel_rfl) (fun _ _ _ h => h) (Or.inl ⟨by rfl, ?_⟩) (by assumption) ?_
          rotate_left
          · intro w hSw; (try dsimp only at hSw); go_simp; try with_reducible rfl
          try go_frame
          refine take_at (i := 28) (v := ?_) rfl rfl (by kernel_rfl) (by kernel_rfl) (by kernel_rfl) (fun _ _ _ h => h) (Or.inl ⟨by rfl, ?_⟩) (by assumption) ?_
          rotate_left
          · intro w hSw; (try dsimp only at hSw); go_simp; try with_reducible rfl
          try go_frame
          refine wpAnyH_ready (rs := [29]) (by kernel_rfl) (by simp) ?_
          refine AllReadyH.cons rfl (fun K hK => ?_) AllReadyH.nil
          go_simp
          rw [spread_val X0 X1 X9 X14 l1 l14, ← NX.out]
          refine hK.out _ _ SS'.out (fun hHeld => ?_)
          clear hK K
          refine wpAnyH_done (by kernel_rfl) (NoPanic.normal ?_) _
          clear d0 d9 d16 df SS' C7 C18 C17 C19 NX
          go_wp2
          go_roundw
          case rel =>
            (repeat apply Exists.intro)
            refine ⟨?_, rfl⟩
            exact ⟨k + 1, by omega, by go_num, HA2, HO2, HB2.out.drew⟩
          case measure => simp [intOf]; omega
        · have hk' : k = 48 := by omega
          subst hk'
          have hA1 := HA1.out
          rw [cutN_all] at hA1
          have HA1' : Hid (Arr wr 178 (w.heap.size + 1) (tabN 64 W)) := hA1
          clear HA1 hA1
          go_wp2_with (first
            | (with_reducible refine wpList_loadArr rfl 178 _ rfl (w.heap.size + 1) (tabN 64 W) ?hx HA1'.out 64 151 Tryz.underlying178 ?hi ?_)
            | (with_reducible refine wpList_storeArr rfl 178 _ _ rfl w.heap.size (tabN 64 (cutN W 0)) (tabN 64 W) ?hx2 ?hy HA0.out ?hl ?hi2 ?_))
          case hx => rfl
          case hi => rw [tabN_length]; exact Tryz.arr64
          case hl => rw [tabN_length, tabN_length]
          case hi2 => rw [tabN_length]; exact Tryz.arr64
          exact bodyPost_arr rfl w.heap.size (tabN 64 W) rfl rfl (HA0.out.setRow (tabN 64 W)) 64 151 Tryz.underlying178 (by rw [tabN_length]; exact Tryz.arr64) ⟨rfl, below_setRow hbl (Nat.le_refl _) _⟩
def GlobB (w : World) : Prop := ∀ j, j < 8 → w.cell? ⟨1, j, none⟩ = some (.int .u32 ((bN.getD j 0 : Nat) : Int))
def GlobK (w : World) : Prop := ∀ j, j < 64 → w.cell? ⟨3, j, none⟩ = some (.int .u32 ((kN.getD j 0 : Nat) : Int))
theorem GlobB.below {w w' : World} (h : GlobB w) (hb : Below w.heap.size w w') : GlobB w' := fun j hj => by
  have h1 := h j hj
  rw [hb.cell (p := ⟨1, j, none⟩) (World.block_lt_of_cell? w _ h1)]; exact h1
theorem GlobK.below {w w' : World} (h : GlobK w) (hb : Below w.heap.size w w') : GlobK w' := fun j hj => by
  have h1 := h j hj
  rw [hb.cell (p := ⟨3, j, none⟩) (World.block_lt_of_cell? w _ h1)]; exact h1
def Regs (x : List Nat) (a b c d e f g h : Value) : Prop :=
  a = .int .u32 ((x.getD 0 0 : Nat) : Int) ∧ b = .int .u32 ((x.getD 1 0 : Nat) : Int) ∧ c = .int .u32 ((x.getD 2 0 : Nat) : Int) ∧ d = .int .u32 ((x.getD 3 0 : Nat) : Int) ∧
  e = .int .u32 ((x.getD 4 0 : Nat) : Int) ∧ f = .int .u32 ((x.getD 5 0 : Nat) : Int) ∧ g = .int .u32 ((x.getD 6 0 : Nat) : Int) ∧ h = .int .u32 ((x.getD 7 0 : Nat) : Int)
def mixN (x r : List Nat) (k j : Nat) : Nat := if j < k then (x.getD j 0 + r.getD j 0) % 4294967296 else r.getD j 0
theorem mixN_set (n : Nat) (x r : List Nat) (k : Nat) : (tabN n (mixN x r k)).set k ((x.getD k 0 + r.getD k 0) % 4294967296) = tabN n (mixN x r (k + 1)) := by
  refine tabN_set _ _ _ _ _ (by unfold mixN; rw [if_pos (by omega)]) (fun i _ hne => ?_)
  unfold mixN
  by_cases h : i < k
  · rw [if_pos h, if_pos (by omega)]
  · rw [if_neg h, if_neg (by omega)]
theorem mixN_zero (x r : List Nat) (h : r.length = 8) : tabN 8 (mixN x r 0) = r := by
  rw [tabN_congr 8 _ (fun i => r.getD i 0) (fun i _ => by unfold mixN; rw [if_neg (by omega)])]; exact tabN_of r 8 h
theorem mixN_all (x r : List Nat) : tabN 8 (mixN x r 8) = addL x r :=
  tabN_congr 8 _ _ (fun i hi => by unfold mixN; rw [if_pos hi])
theorem u32_not (E : Nat) (h : E < 4294967296) : bits .xor .u32 (if IntKind.u32.signed = true then -1 else IntKind.u32.max) (E : Int) = ((4294967295 - E : Nat) : Int) := by
  show IntKind.u32.wrap ((BitVec.ofInt 32 4294967295 ^^^ BitVec.ofInt 32 (E : Int)).toNat : Int) = _
  rw [show BitVec.ofInt 32 4294967295 = BitVec.allOnes 32 by decide, BitVec.allOnes_xor, BitVec.toNat_not, BitVec.ofInt_natCast, BitVec.toNat_ofNat, Nat.mod_eq_of_lt (show E < 2 ^ 32 by omega), u32_wrap]
  omega
theorem bt_val (E F G H Z Y : Nat) (lE : E < 4294967296) (lF : F < 4294967296) (lG : G < 4294967296) :
    (((H : Int) + bits .xor .u32 (bits .xor .u32 ((rr E 6 : Nat) : Int) ((rr E 11 : Nat) : Int)) ((rr E 25 : Nat) : Int) +
      bits .xor .u32 (bits .and .u32 (E : Int) (F : Int)) (bits .and .u32 (bits .xor .u32 (if IntKind.u32.signed = true then -1 else IntKind.u32.max) (E : Int)) (G : Int)) + (Z : Int)) % 4294967296 + (Y : Int)) % 4294967296 = ((tV E F G H Z Y : Nat) : Int) := by
  have h6 := rr_lt E 6 lE
  have h11 := rr_lt E 11 lE
  have h25 := rr_lt E 25 lE
  have hx := xor_lt32 _ _ h6 h11
  have ha := and_lt32 E F lE
  have ha' := and_lt32 (4294967295 - E) G (by omega)
  rw [u32_not E lE, u32_xor_nat (rr E 6) (rr E 11) h6 h11, u32_xor_nat (rr E 6 ^^^ rr E 11) (rr E 25) hx h25, u32_and_nat E F lE lF, u32_and_nat (4294967295 - E) G (by omega) lG, u32_xor_nat (E &&& F) ((4294967295 - E) &&& G) ha ha']
  change (((H : Int) + ((bs1 E : Nat) : Int) + ((chN E F G : Nat) : Int) + (Z : Int)) % 4294967296 + (Y : Int)) % 4294967296 = _
  unfold tV
  generalize bs1 E = P at *
  generalize chN E F G = Q at *
  omega
theorem bu_val (A B C : Nat) (lA : A < 4294967296) (lB : B < 4294967296) (lC : C < 4294967296) :
    (bits .xor .u32 (bits .xor .u32 ((rr A 2 : Nat) : Int) ((rr A 13 : Nat) : Int)) ((rr A 22 : Nat) : Int) +
      bits .xor .u32 (bits .xor .u32 (bits .and .u32 (A : Int) (B : Int)) (bits .and .u32 (A : Int) (C : Int))) (bits .and .u32 (B : Int) (C : Int))) % 4294967296 = ((uV A B C : Nat) : Int) := by
  have h6 := rr_lt A 2 lA
  have h11 := rr_lt A 13 lA
  have h25 := rr_lt A 22 lA
  have hx := xor_lt32 _ _ h6 h11
  have ha := and_lt32 A B lA
  have ha' := and_lt32 A C lA
  have ha'' := and_lt32 B C lB
  have hy := xor_lt32 _ _ ha ha'
  rw [u32_xor_nat (rr A 2) (rr A 13) h6 h11, u32_xor_nat (rr A 2 ^^^ rr A 13) (rr A 22) hx h25, u32_and_nat A B lA lB, u32_and_nat A C lA lC, u32_and_nat B C lB lC, u32_xor_nat (A &&& B) (A &&& C) ha ha', u32_xor_nat ((A &&& B) ^^^ (A &&& C)) (B &&& C) hy ha'']
  change (((bs0 A : Nat) : Int) + ((majN A B C : Nat) : Int)) % 4294967296 = _
  unfold uV
  generalize bs0 A = P at *
  generalize majN A B C = Q at *
  omega
theorem regs_mk (T U A B C D E F G : Nat) : Regs [(T + U) % 4294967296, A, B, C, (D + T) % 4294967296, E, F, G] (.int .u32 (((T : Int) + (U : Int)) % 4294967296)) (.int .u32 (A : Int)) (.int .u32 (B : Int)) (.int .u32 (C : Int)) (.int .u32 (((D : Int) + (T : Int)) % 4294967296)) (.int .u32 (E : Int)) (.int .u32 (F : Int)) (.int .u32 (G : Int)) := by
  refine ⟨?_, rfl, rfl, rfl, ?_, rfl, rfl, rfl⟩
  · show Value.int .u32 _ = Value.int .u32 ((((T + U) % 4294967296 : Nat)) : Int)
    rw [show (((T : Int) + (U : Int)) % 4294967296) = ((((T + U) % 4294967296 : Nat)) : Int) by omega]
  · show Value.int .u32 _ = Value.int .u32 ((((D + T) % 4294967296 : Nat)) : Int)
    rw [show (((D : Int) + (T : Int)) % 4294967296) = ((((D + T) % 4294967296 : Nat)) : Int) by omega]
theorem list8 (l : List Nat) (h : l.length = 8) : ∃ A B C D E F G H, l = [A, B, C, D, E, F, G, H] := by
  match l, h with
  | [A, B, C, D, E, F, G, H], _ => exact ⟨A, B, C, D, E, F, G, H, rfl⟩
set_option maxRecDepth 100000 in
set_option maxHeartbeats 16000000 in
theorem behind_walk (x : List Nat) (b : ByteArray) (W : Nat → Nat) (R : Nat → List Nat) (w : World) (hx : x.length = 8) (hb : b.size = 64) (hW : Spread W (bt b)) (hR : Rounds R W x) (hRl : ∀ k, (R k).length = 8) (hK : GlobK w) :
    Calls Tryz.prog 158 #[.agg (vals x), .string b] w fun e w' => e = .returned (.agg (vals (addL x (R 64)))) ∧ Below w.heap.size w w' := by
  have HWl : Hid (∀ i, W i < 4294967296) := hW.1
  have CS : Hid (∀ w, _) := fun w => spread_any b W w hb hW
  have HR : Hid (Rounds R W x) := hR
  have HRl : Hid (∀ k, (R k).length = 8) := hRl
  have HK : Hid (GlobK w) := hK
  clear hW hR hRl hK
  go_enter Tryz.func158, Tryz.ntmps158
  go_wp2_with fail
  refine (CS.out _).mono ?_
  rintro e w1 ⟨rfl, hb1⟩
  have a0 := ((Arr.new w 152 x _ rfl).alloc _).below hb1 (by simp; omega)
  have a1 := (Arr.new' _ 152 (tabN 8 (cutN W 0)) _ (w.heap.size + 1) (by simp) (by kernel_rfl)).below hb1 (by simp)
  have hB1 : Below w.heap.size w w1 := ((below_new w _).alloc (by simp) _).trans (hb1.mono (by simp; omega))
  have HA0 : Hid (Arr w1 152 w.heap.size _) := a0
  have HA1 : Hid (Arr w1 152 (w.heap.size + 1) _) := a1
  have hK1 : Hid (GlobK w1) := HK.out.below hB1
  clear a0 a1 hb1 CS HK
  go_wp2_with (with_reducible refine wpList_storeArr rfl 178 _ _ rfl w1.heap.size (tabN 64 (cutN W 0)) (tabN 64 W) ?hx ?hy ?ha ?hl ?hi ?_)
  case hx => rfl
  case hy => rfl
  case ha => exact Arr.new w1 178 (tabN 64 (cutN W 0)) _ (by kernel_rfl)
  case hl => rw [tabN_length, tabN_length]
  case hi => rw [tabN_length]; exact Tryz.arr64
  rw [World.setRow_alloc_new]
  simp only [Act.put]
  generalize hq : World.alloc w1 _ = w2
  have hB2 : Hid (Below w.heap.size w w2) := by rw [← hq]; exact hB1.alloc hB1.size _
  have A0 : Hid (Arr w2 152 w.heap.size x) := by rw [← hq]; exact HA0.out.alloc _
  have A1 : Hid (Arr w2 152 (w.heap.size + 1) (tabN 8 (cutN W 0))) := by rw [← hq]; exact HA1.out.alloc _
  have A5 : Hid (Arr w2 178 w1.heap.size (tabN 64 W)) := by rw [← hq]; exact Arr.new w1 178 _ _ rfl
  have K2 : Hid (GlobK w2) := hK1.out.below (by rw [← hq]; exact below_new w1 _)
  clear hq HA0 HA1 hK1 hB1
  generalize w1.heap.size = g5 at *
  clear w1
  have h0 : R 0 = x := HR.out.1
  have c0 := A0.out.cell 0 (by omega)
  have c1 := A0.out.cell 1 (by omega)
  have c2 := A0.out.cell 2 (by omega)
  have c3 := A0.out.cell 3 (by omega)
  have c4 := A0.out.cell 4 (by omega)
  have c5 := A0.out.cell 5 (by omega)
  have c6 := A0.out.cell 6 (by omega)
  have c7 := A0.out.cell 7 (by omega)
  rw [← h0] at c0 c1 c2 c3 c4 c5 c6 c7
  have H0 : Hid (R 0 = x) := h0
  clear h0
  go_quiet (fail)
  clear c0 c1 c2 c3 c4 c5 c6 c7
  go_wp2_with fail
  go_loopw [6, 7, 8, 9, 10, 11, 12, 13, 37] (fun a b c d e f g h i wr => ∃ k : Nat, k ≤ 64 ∧ i = .int .i64 k ∧ Regs (R k) a b c d e f g h ∧ Below w2.heap.size w2 wr) (fun _ _ _ _ _ _ _ _ i _ => 64 - (intOf i).toNat)
  case atStart => exact ⟨0, by omega, rfl, ⟨rfl, rfl, rfl, rfl, rfl, rfl, rfl, rfl⟩, below_drewN (Below.refl _ _) _⟩
  case round =>
    obtain ⟨k, hk, rfl, ⟨rfl, rfl, rfl, rfl, rfl, rfl, rfl, rfl⟩, hbl⟩ := hrel
    by_cases hlt : k < 64
    · have ok := HR.out.2.2 k
      have nx' := HR.out.2.1 k
      have lA := ok 0
      have lB := ok 1
      have lC := ok 2
      have lD := ok 3
      have lE := ok 4
      have lF := ok 5
      have lG := ok 6
      have lH := ok 7
      have lY := HWl.out k
      have lZ := kN_ok k
      have cY := (A5.out.below hbl A5.out.lt).cell k (by rw [tabN_length]; exact hlt)
      have cZ := K2.out.below hbl k hlt
      rw [tabN_getD _ _ _ hlt] at cY
      unfold rnd tN uN at nx'
      clear ok
      generalize (R k).getD 0 0 = A at *
      generalize (R k).getD 1 0 = B at *
      generalize (R k).getD 2 0 = C at *
      generalize (R k).getD 3 0 = D at *
      generalize (R k).getD 4 0 = E at *
      generalize (R k).getD 5 0 = F at *
      generalize (R k).getD 6 0 = G at *
      generalize (R k).getD 7 0 = H at *
      generalize kN.getD k 0 = Z at *
      generalize W k = Y at *
      have NX : Hid (R (k + 1) = _) := nx'
      clear nx'
      have b0 : (k : Int) < 64 := by omega
      have C6 : Hid (∀ w, Calls Tryz.prog 171 #[.int .u32 E, .int .i64 6] w _) := fun w => right_any E 6 lE (by decide) (by decide) w
      have C11 : Hid (∀ w, Calls Tryz.prog 171 #[.int .u32 E, .int .i64 11] w _) := fun w => right_any E 11 lE (by decide) (by decide) w
      have C25 : Hid (∀ w, Calls Tryz.prog 171 #[.int .u32 E, .int .i64 25] w _) := fun w => right_any E 25 lE (by decide) (by decide) w
      have C2 : Hid (∀ w, Calls Tryz.prog 171 #[.int .u32 A, .int .i64 2] w _) := fun w => right_any A 2 lA (by decide) (by decide) w
      have C13 : Hid (∀ w, Calls Tryz.prog 171 #[.int .u32 A, .int .i64 13] w _) := fun w => right_any A 13 lA (by decide) (by decide) w
      have C22 : Hid (∀ w, Calls Tryz.prog 171 #[.int .u32 A, .int .i64 22] w _) := fun w => right_any A 22 lA (by decide) (by decide) w
      go_wp2_with fail
      go_quiet (first
        | (go_at_call_of 171 (Value.int IntKind.i64 6); exact Calls.quiet_of_same (C6.out _))
        | (go_at_call_of 171 (Value.int IntKind.i64 11); exact Calls.quiet_of_same (C11.out _))
        | (go_at_call_of 171 (Value.int IntKind.i64 25); exact Calls.quiet_of_same (C25.out _)))
      rw [bt_val E F G H Z Y lE lF lG]
      have lT := tV_lt E F G H Z Y
      have VU : Hid (_ = _) := bu_val A B C lA lB lC
      generalize tV E F G H Z Y = T at *
      generalize uV A B C = U at *
      clear C6 C11 C25 cY cZ
      go_wp2_with fail
      refine (C2.out _).mono ?_
      rintro e w' ⟨rfl, rfl⟩
      go_wp2_with fail
      refine (C13.out _).mono ?_
      rintro e w' ⟨rfl, rfl⟩
      go_wp2_with fail
      refine (C22.out _).mono ?_
      rintro e w' ⟨rfl, rfl⟩
      clear C2 C13 C22
      go_wp2_with fail
      rw [VU.out]
      go_roundw
      case rel => exact ⟨k + 1, by omega, by go_num, by rw [NX.out]; exact regs_mk T U A B C D E F G, below_drewN hbl _⟩
      case measure => simp [intOf]; omega
    · have hk' : k = 64 := by omega
      subst hk'
      obtain ⟨A, B, C, D, E, F, G, H, hr⟩ := list8 (R 64) (HRl.out 64)
      obtain ⟨w5, h5⟩ : ∃ w5, w5 = wr := ⟨_, rfl⟩
      rw [← h5] at hbl ⊢
      have hr0 : (R 64).getD 0 0 = A := by rw [hr]; rfl
      have hr1 : (R 64).getD 1 0 = B := by rw [hr]; rfl
      have hr2 : (R 64).getD 2 0 = C := by rw [hr]; rfl
      have hr3 : (R 64).getD 3 0 = D := by rw [hr]; rfl
      have hr4 : (R 64).getD 4 0 = E := by rw [hr]; rfl
      have hr5 : (R 64).getD 5 0 = F := by rw [hr]; rfl
      have hr6 : (R 64).getD 6 0 = G := by rw [hr]; rfl
      have hr7 : (R 64).getD 7 0 = H := by rw [hr]; rfl
      rw [hr0, hr1, hr2, hr3, hr4, hr5, hr6, hr7]
      clear hr0 hr1 hr2 hr3 hr4 hr5 hr6 hr7 h5
      have Hr : Hid (R 64 = [A, B, C, D, E, F, G, H]) := hr
      have ok := HR.out.2.2 64
      rw [hr] at ok
      have okx := HR.out.2.2 0
      rw [HR.out.1] at okx
      have HOr : Hid (Ok [A, B, C, D, E, F, G, H]) := ok
      have HOx : Hid (Ok x) := okx
      have hs2 := A0.out.lt
      have hs3 := A1.out.lt
      have hs4 := hbl.size
      have hg5 : Hid (w.heap.size ≤ w5.heap.size) := by show _ ≤ _; omega
      have g0 : w.heap.size ≠ w5.heap.size := by omega
      have g1 : w.heap.size + 1 ≠ w5.heap.size := by omega
      have V0 : Hid (Arr (w5.alloc (.cells #[.int .u32 (A : Int), .int .u32 (B : Int), .int .u32 (C : Int), .int .u32 (D : Int), .int .u32 (E : Int), .int .u32 (F : Int), .int .u32 (G : Int), .int .u32 (H : Int)] 152)) 152 w5.heap.size (tabN 8 (mixN x [A, B, C, D, E, F, G, H] 0))) := by
        rw [mixN_zero x _ rfl]; exact Arr.new w5 _ _ _ rfl
      have V1 : Hid (Arr (w5.alloc (.cells #[.int .u32 (A : Int), .int .u32 (B : Int), .int .u32 (C : Int), .int .u32 (D : Int), .int .u32 (E : Int), .int .u32 (F : Int), .int .u32 (G : Int), .int .u32 (H : Int)] 152)) 152 w.heap.size x) := (A0.out.below hbl hs2).alloc _
      have V2 : Hid (Arr (w5.alloc (.cells #[.int .u32 (A : Int), .int .u32 (B : Int), .int .u32 (C : Int), .int .u32 (D : Int), .int .u32 (E : Int), .int .u32 (F : Int), .int .u32 (G : Int), .int .u32 (H : Int)] 152)) 152 (w.heap.size + 1) (tabN 8 (cutN W 0))) := (A1.out.below hbl hs3).alloc _
      have V3 : Below w.heap.size w (w5.alloc (.cells #[.int .u32 (A : Int), .int .u32 (B : Int), .int .u32 (C : Int), .int .u32 (D : Int), .int .u32 (E : Int), .int .u32 (F : Int), .int .u32 (G : Int), .int .u32 (H : Int)] 152)) := (below_step hB2.out (Nat.le_refl _) hbl).alloc (by omega) _
      generalize hrr : [A, B, C, D, E, F, G, H] = r at Hr HOr V0
      clear hr ok okx A0 A1 A5 K2 HR HRl H0 HWl hB2 hbl hs2 hs3 hs4
      go_wp2_with fail
      go_loopw [109] (fun i wr => ∃ k : Nat, k ≤ 8 ∧ i = .int .i64 k ∧ Hid (Arr wr 152 w5.heap.size (tabN 8 (mixN x r k))) ∧ Hid (Arr wr 152 w.heap.size x) ∧ Hid (Arr wr 152 (w.heap.size + 1) (tabN 8 (cutN W 0))) ∧ Below w.heap.size w wr) (fun i _ => 8 - (intOf i).toNat)
      case atStart => exact ⟨0, by omega, rfl, V0, V1, V2, V3⟩
      case round =>
        clear V0 V1 V2 V3
        obtain ⟨k, hk, rfl, V0, V1, V2, hbl⟩ := hrel
        by_cases hlt : k < 8
        · have c0 := V0.out.cell k (by rw [tabN_length]; exact hlt)
          have f0 := V0.out.free k
          have c1 := V1.out.cell k (by omega)
          rw [tabN_getD _ _ _ hlt, show mixN x r k k = r.getD k 0 by unfold mixN; rw [if_neg (by omega)]] at c0
          have lX := HOx.out k
          have lY := HOr.out k
          have HO := V0.out.set k ((x.getD k 0 + r.getD k 0) % 4294967296)
          rw [mixN_set] at HO
          generalize x.getD k 0 = X at *
          generalize r.getD k 0 = Y at *
          obtain ⟨N, hN⟩ : ∃ n, n = (X + Y) % 4294967296 := ⟨_, rfl⟩
          have VN : Hid (IntKind.u32.wrap ((Y : Int) + (X : Int)) = (N : Int)) := by show _ = _; rw [u32_wrap, hN]; omega
          rw [← hN] at HO
          have HO' : Hid (Arr (wr.setCell ⟨w5.heap.size, k, none⟩ (.int .u32 (N : Int))) 152 w5.heap.size (tabN 8 (mixN x r (k + 1)))) := HO
          have V1' : Hid (Arr (wr.setCell ⟨w5.heap.size, k, none⟩ (.int .u32 (N : Int))) 152 w.heap.size x) := V1.out.other _ g0 _
          have V2' : Hid (Arr (wr.setCell ⟨w5.heap.size, k, none⟩ (.int .u32 (N : Int))) 152 (w.heap.size + 1) (tabN 8 (cutN W 0))) := V2.out.other _ g1 _
          have HB' : Hid (Below w.heap.size w (wr.setCell ⟨w5.heap.size, k, none⟩ (.int .u32 (N : Int)))) := hbl.setCell (p := ⟨w5.heap.size, k, none⟩) hg5.out _
          have SS : Hid ((wr.setCell ⟨w5.heap.size, k, none⟩ (.int .u32 (N : Int))).cell? ⟨w.heap.size, k, none⟩ = some (.int .u32 (X : Int))) := by
            show _ = _
            rw [World.cell?_setCell_far _ _ _ _ (fun h => g0 h.symm)]; exact c1
          have b0 : (k : Int) < 8 := by omega
          clear HO hN V0 V1 V2 hbl
          go_wp2_with fail
          refine wp_region_noPanic ?_
          refine wp_region_held_drew (S := fun w' => w'.cell? ⟨w.heap.size, k, none⟩ = some (.int .u32 (X : Int))) (by kernel_rfl) (by first | exact trivial | assumption | exact ⟨by assumption, by assumption⟩) (fun hHeld => ?_)
          refine take_at (i := 0) (v := ?_) rfl rfl (by kernel_rfl) (by kernel_rfl) (by kernel_rfl) (fun _ _ _ h => h) (Or.inl ⟨by rfl, ?_⟩) (by assumption) ?_
          rotate_left
          · intro w hSw; (try dsimp only at hSw); go_simp; try with_reducible rfl
          try go_frame
          refine take_at (i := 1) (v := ?_) rfl rfl (by kernel_rfl) (by kernel_rfl) (by kernel_rfl) (fun _ _ _ h => h) (Or.inl ⟨by rfl, ?_⟩) (by assumption) ?_
          rotate_left
          · intro w hSw; (try dsimp only at hSw); go_simp; try with_reducible rfl
          try go_frame
          refine take_at (i := 3) (v := ?_) rfl rfl (by kernel_rfl) (by kernel_rfl) (by kernel_rfl) (fun _ _ _ h => h) (Or.inl ⟨by rfl, ?_⟩) (by assumption) ?_
          rotate_left
          · intro w hSw; (try dsimp only at hSw); go_simp; try with_reducible rfl
          try go_frame
          refine take_at (i := 4) (v := ?_) rfl rfl (by kernel_rfl) (by kernel_rfl) (by kernel_rfl) (fun _ _ _ h => h) (Or.inl ⟨by rfl, ?_⟩) (by assumption) ?_
          rotate_left
          · intro w hSw; (try dsimp only at hSw); go_simp; try with_reducible rfl
          try go_frame
          refine take_at (i := 5) (v := ?_) rfl rfl (by kernel_rfl) (by kernel_rfl) (by kernel_rfl) (fun _ _ _ h => h) (Or.inl ⟨by rfl, ?_⟩) (by assumption) ?_
          rotate_left
          · intro w hSw; (try dsimp only at hSw); go_simp; try with_reducible rfl
          try go_frame
          refine wpAnyH_ready (rs := [2]) (by kernel_rfl) (by simp) ?_
          refine AllReadyH.cons rfl (fun K hK => ?_) AllReadyH.nil
          go_simp
          refine hK.out _ _ c1 (fun hHeld => ?_)
          clear hK K
          refine take_at (i := 6) (v := ?_) rfl rfl (by kernel_rfl) (by kernel_rfl) (by kernel_rfl) (fun _ _ _ h => h) (Or.inl ⟨by rfl, ?_⟩) (by assumption) ?_
          rotate_left
          · intro w hSw; (try dsimp only at hSw); go_simp; try with_reducible rfl
          try go_frame
          refine take_at (i := 7) (v := ?_) rfl rfl (by kernel_rfl) (by kernel_rfl) (by kernel_rfl) (fun _ _ _ h => h) (Or.inl ⟨by rfl, ?_⟩) (by assumption) ?_
          rotate_left
          · intro w hSw; (try dsimp only at hSw); go_simp; try with_reducible rfl
          try go_frame
          refine wpAnyH_ready (rs := [8]) (by kernel_rfl) (by simp) ?_
          refine AllReadyH.cons rfl (fun K hK => ?_) AllReadyH.nil
          go_simp
          rw [VN.out]
          refine hK.out _ _ SS.out (fun hHeld => ?_)
          clear hK K
          refine wpAnyH_done (by kernel_rfl) (NoPanic.normal ?_) _
          clear c0 c1 f0 SS VN
          go_wp2
          go_roundw
          case rel =>
            (repeat apply Exists.intro)
            refine ⟨?_, rfl⟩
            exact ⟨k + 1, by omega, by go_num, HO', V1', V2', HB'.out.drew⟩
          case measure => simp [intOf]; omega
        · have hk8 : k = 8 := by omega
          subst hk8
          have hv := V0.out
          rw [mixN_all] at hv
          have HV : Hid (Arr wr 152 w5.heap.size (addL x r)) := hv
          clear V0 hv
          go_wp2_with (first
            | (with_reducible refine wpList_loadArr rfl 152 _ rfl w5.heap.size (addL x r) ?hx HV.out 8 151 Tryz.underlying152 ?hi ?_)
            | (with_reducible refine wpList_storeArr rfl 152 _ _ rfl (w.heap.size + 1) (tabN 8 (cutN W 0)) (addL x r) ?hx2 ?hy V2.out ?hl ?hi2 ?_))
          case hx => rfl
          case hi => rw [addL_length]; exact Tryz.arr8
          case hl => rw [tabN_length, addL_length]
          case hi2 => rw [tabN_length]; exact Tryz.arr8
          rw [Hr.out]
          exact bodyPost_arr rfl (w.heap.size + 1) (addL x r) rfl rfl (V2.out.setRow (addL x r)) 8 151 Tryz.underlying152 (by rw [addL_length]; exact Tryz.arr8) ⟨rfl, below_setRow hbl (by omega) _⟩
theorem behind_any (x : List Nat) (b : ByteArray) (w : World) (hx : x.length = 8) (ho : Ok x) (hb : b.size = 64) (hK : GlobK w) :
    Calls Tryz.prog 158 #[.agg (vals x), .string b] w fun e w' => e = .returned (.agg (vals (behindN x (bt b)))) ∧ Below w.heap.size w w' :=
  behind_walk x b (wS (blkN (bt b))) (runN (blkN (bt b)) x) w hx hb (spread_wS (bt b) (bt_lt b)) ⟨rfl, fun _ => rfl, runN_ok _ _ ho⟩ (runN_length _ _ hx) hK
end Go.Proofs.YtabhkebkbidfhaaGreatDoor

namespace Go.Proofs.YtabhkebkbidfhaaGreatDoor
open Go.RowKit
set_option maxRecDepth 100000
set_option linter.unusedSimpArgs false
theorem Tryz.gB : Tryz.prog.globalNamed "samphire/sha.beginning" = some 1 := by kernel_rfl
theorem Tryz.gK : Tryz.prog.globalNamed "samphire/sha.constants" = some 3 := by kernel_rfl
theorem Tryz.tB : (Tryz.prog.globals[1]?).map (·.type) = some 152 := by kernel_rfl
theorem Tryz.tK : (Tryz.prog.globals[3]?).map (·.type) = some 178 := by kernel_rfl
theorem Tryz.cellsE : Tryz.prog.cellsOf 151 = 1 := by kernel_rfl
theorem Tryz.cellsB : Tryz.prog.cellsOf 152 = 8 := by kernel_rfl
theorem Tryz.cellsK : Tryz.prog.cellsOf 178 = 64 := by kernel_rfl
theorem datumB : (Rows.laid_samphire_sha_beginning : DataW Unit) = Lib.tabData .u32 (ints bN) := by kernel_rfl
theorem datumK : (Rows.laid_samphire_sha_constants : DataW Unit) = Lib.tabData .u32 (ints kN) := by kernel_rfl
theorem globB_of {W : World} {rest : List (String × DataW Unit)} (h : laidMet Tryz.prog (("samphire/sha.beginning", Rows.laid_samphire_sha_beginning) :: rest) W) : GlobB W := by
  rw [datumB] at h
  have hT := Lib.tabIs_of_head Tryz.gB Tryz.tB Tryz.underlying152 Tryz.underlying151 Tryz.cellsE Tryz.cellsB h
  intro j hj
  rw [hT.cell Tryz.gB j (by rw [ints_length]; exact hj), ints_getD]
theorem globK_of {W : World} {rest : List (String × DataW Unit)} (h : laidMet Tryz.prog (("samphire/sha.constants", Rows.laid_samphire_sha_constants) :: rest) W) : GlobK W := by
  rw [datumK] at h
  have hT := Lib.tabIs_of_head Tryz.gK Tryz.tK Tryz.underlying178 Tryz.underlying151 Tryz.cellsE Tryz.cellsK h
  intro j hj
  rw [hT.cell Tryz.gK j (by rw [ints_length]; exact hj), ints_getD]
theorem repeat_any (c : Nat) (w : World) (hc : c ≤ 63) :
    Calls Tryz.prog 156 #[.string ⟨#[0]⟩, .int .i64 c] w fun e w' => e = .returned (.string ⟨(List.replicate c (0 : UInt8)).toArray⟩) ∧ Below w.heap.size w w' := by
  refine (Tryz.strings_Repeat ⟨#[0]⟩ c w (by omega) (by show 1 * c ≤ _; omega)).mono ?_
  rintro e w' ⟨rfl, hb⟩
  refine ⟨?_, hb⟩
  have := Lib.repeatL_replicate 0 1 c
  simp at this
  show Ending.returned (.string ⟨(Lib.repeatL [0] c).toArray⟩) = _
  rw [this]
theorem lenL_int (n : Nat) : putL [8 * (n : Int) / 4294967296, 8 * (n : Int)] bsh = lenL n := by
  unfold lenL
  rw [show 8 * (n : Int) / 4294967296 = ((8 * n / 4294967296 : Nat) : Int) by omega, show 8 * (n : Int) = ((8 * n : Nat) : Int) by omega]
theorem lenL_length (n : Nat) : (lenL n).length = 8 := by unfold lenL; rw [putL_length]; rfl
theorem lenL_size (n : Nat) : (⟨(lenL n).toArray⟩ : ByteArray).size = 8 := by
  show (lenL n).toArray.size = 8
  rw [List.size_toArray, lenL_length]
theorem pad_bytes (n : Nat) : (⟨#[128]⟩ : ByteArray) ++ ⟨Array.replicate (zerosN n) 0⟩ ++ ⟨(lenL n).toArray⟩ = padB n := by
  apply bytes_ext
  simp [padB, padL]
set_option maxHeartbeats 2000000 in
theorem pad_ok (n : Nat) (w : World) (hn : n ≤ 1125899906842624) :
    Calls Tryz.prog 132 #[.int .i64 (n : Int)] w fun e w' => e = .returned (.tuple #[.string (padB n), .int .i64 0]) ∧ Below w.heap.size w w' := by
  have h0 : decide ((n : Int) < 0) = false := by simp
  have h1 : decide ((1125899906842624 : Int) < (n : Int)) = false := by simp; omega
  have hz : zerosN n ≤ 63 := by unfold zerosN; omega
  go_enter Tryz.func132, Tryz.ntmps132
  go_wp2_with fail
  rw [show (-(((n : Int) + 1 + 8) % 64) % 64 : Int) = ((zerosN n : Nat) : Int) by unfold zerosN; omega]
  refine (repeat_any _ _ hz).mono ?_
  rintro e w1 ⟨rfl, hb1⟩
  go_wp2_with fail
  refine (putBig_any _ 2 _ [8 * (n : Int) / 4294967296, 8 * (n : Int)] _ (by omega) (ints_alloc _ _ _ 2 _ rfl rfl)).mono ?_
  rintro e w2 ⟨rfl, hb2⟩
  rw [lenL_int]
  obtain ⟨L, hL⟩ : ∃ L : ByteArray, L = ⟨(lenL n).toArray⟩ := ⟨_, rfl⟩
  have hs : L.size = 8 := by rw [hL]; exact lenL_size n
  have HL : Hid (⟨#[128]⟩ ++ ⟨Array.replicate (zerosN n) 0⟩ ++ L = padB n) := by show _ = _; rw [hL]; exact pad_bytes n
  rw [← hL]
  clear hL
  go_wp2_with fail
  rw [HL.out]
  go_ret2
  exact ⟨rfl, below_step (below_step hb1 (Nat.le_refl _) (below_new _ _)) (Nat.le_refl _) hb2⟩
def lenV : Value → Nat
  | .slice _ n _ => n
  | _ => 0
theorem ownV_lit (w : World) (e : TypeId) (K : IntKind) (y : Int) : OwnV (w.alloc (.cells #[.int K y] e)) w.heap.size e K (.slice (some ⟨w.heap.size, 0, none⟩) 1 1) 1 [y] :=
  ⟨rfl, .inr ⟨w.heap.size, 1, #[.int K y], rfl, Nat.le_refl _, heap_alloc_last w _, Nat.le_refl _, by unfold maxLen; omega, rfl, rfl⟩⟩
theorem OwnV.below {w w' : World} {B n : Nat} {e : TypeId} {K : IntKind} {v : Value} {l : List Int} (h : OwnV w B e K v n l) (hb : Below w.heap.size w w') : OwnV w' B e K v n l := by
  refine ⟨h.1, ?_⟩
  rcases h.2 with h0 | ⟨g, cap, cur, hv, hB, hg, hr⟩
  · exact .inl h0
  · exact .inr ⟨g, cap, cur, hv, hB, by rw [hb.block g (Array.getElem?_eq_some_iff.1 hg).1]; exact hg, hr⟩
theorem OwnV.alloc {w : World} {B n : Nat} {e : TypeId} {K : IntKind} {v : Value} {l : List Int} (h : OwnV w B e K v n l) (o : Obj) : OwnV (w.alloc o) B e K v n l := World.ownsRow.alloc h o
def headL (k : Nat) : List UInt8 := 128 :: List.replicate k 0
theorem headL_snoc (k : Nat) : nums (headL k) ++ [0] = nums (headL (k + 1)) := by
  simp [nums, headL, List.replicate_succ']
theorem headL_length (k : Nat) : (headL k).length = k + 1 := by simp [headL]
theorem lenL_mod (n : Nat) : putL [8 * (n : Int) / 4294967296, 8 * (n : Int) % 4294967296] bsh = lenL n := by
  rw [← lenL_int]
  unfold putL bytesOf
  apply List.map_congr_left
  intro i hi
  have hi' : i < 8 := List.mem_range.1 hi
  have e : pb [8 * (n : Int) / 4294967296, 8 * (n : Int) % 4294967296] bsh i = pb [8 * (n : Int) / 4294967296, 8 * (n : Int)] bsh i := by
    rcases (show i = 0 ∨ i = 1 ∨ i = 2 ∨ i = 3 ∨ i = 4 ∨ i = 5 ∨ i = 6 ∨ i = 7 by omega) with rfl | rfl | rfl | rfl | rfl | rfl | rfl | rfl <;>
      simp [pb, bsh] <;> omega
  rw [e]
theorem rpad_bytes (n : Nat) : (⟨(headL (zerosN n)).toArray⟩ : ByteArray) ++ ⟨(lenL n).toArray⟩ = padB n := by
  apply bytes_ext
  simp [padB, padL, headL]
set_option maxRecDepth 100000 in
set_option maxHeartbeats 4000000 in
theorem rpad_ok (n : Nat) (w : World) (hn : n ≤ 1125899906842624) :
    Calls Tryz.prog 118 #[.int .i64 (n : Int)] w fun e w' => e = .returned (.tuple #[.string (padB n), .int .i64 0]) ∧ Below w.heap.size w w' := by
  have h0 : decide ((n : Int) < 0) = false := by simp
  have h1 : decide ((1125899906842624 : Int) < (n : Int)) = false := by simp; omega
  obtain ⟨z, hz⟩ : ∃ z, z = zerosN n := ⟨_, rfl⟩
  have hz63 : z ≤ 63 := by rw [hz]; unfold zerosN; omega
  have hzm : (n + 9 + z) % 64 = 0 := by rw [hz]; unfold zerosN; omega
  have HZ : Hid (z = zerosN n) := hz
  have HZM : Hid ((n + 9 + z) % 64 = 0) := hzm
  clear hz hzm
  obtain ⟨i0, hi, hz0, hz1, hz2⟩ := info_parts Tryz.info5
  go_enter Tryz.func118, Tryz.ntmps118
  go_wp2_with fail
  go_loopw [4] (fun v wr => ∃ k m : Nat, k ≤ z ∧ Hid (m = k + 1) ∧ OwnV wr w.heap.size 5 .u8 v m (nums (headL k)) ∧ Below w.heap.size w wr) (fun v _ => 100 - lenV v)
  case atStart => exact ⟨0, 1, by omega, rfl, ownV_lit w _ _ _, below_new _ _⟩
  case round =>
    obtain ⟨k, m, hk, HM, hown, hbl⟩ := hrel
    have hm : m ≤ 64 := by have := HM.out; omega
    have hm1 : 1 ≤ m := by have := HM.out; omega
    obtain ⟨g, c, rfl, hc⟩ := hown.at (by omega)
    clear hc
    have hsz := hbl.size
    by_cases hlt : k < z
    · have ht : ((((n : Int) + (m : Int) + 8) % 64) != 0) = true := by
        rw [bne_iff_ne]; have h1 := HM.out; have h2 := HZM.out; omega
      go_wp2_with (at_builtin; refine wpList_app1 rfl (.tmp 20) (.tmp 21) 68 rfl w.heap.size 5 i0 .u8 1 Tryz.underlying68 hi hz0 hz1 hz2 _ (.slice (some ⟨g, 0, none⟩) m c) m _ rfl hown _ rfl (by omega) (by omega) hsz ?_)
      intro v1 w1 hown1 hbl1
      rw [headL_snoc] at hown1
      have hbl2 := hbl.trans hbl1
      clear hown hbl hbl1
      obtain ⟨g', c', rfl, hc⟩ := hown1.at (by omega)
      clear hc ht
      go_wp2
      go_roundw
      case rel => exact ⟨k + 1, m + 1, by omega, by have := HM.out; show m + 1 = k + 1 + 1; omega, hown1, hbl2⟩
      case measure => simp [lenV]; omega
    · have hk' : k = z := by omega
      subst hk'
      have ht : ((((n : Int) + (m : Int) + 8) % 64) != 0) = false := by
        rw [bne_eq_false_iff_eq]; have h1 := HM.out; have h2 := HZM.out; omega
      have hm32 := i64_and32 (8 * (n : Int))
      go_wp2_with fail
      clear ht hi hz0 hz1 hz2
      refine wp_region_noPanic ?_
      refine wp_region_held_drew (S := fun w' => OwnV w' w.heap.size 5 .u8 (.slice (some ⟨g, 0, none⟩) m c) m (nums (headL k))) (by kernel_rfl) (by first | exact trivial | assumption | exact ⟨by assumption, by assumption⟩) (fun hHeld => ?_)
      refine take_at (i := 0) (v := ?_) rfl rfl (by kernel_rfl) (by kernel_rfl) (by kernel_rfl) (fun _ _ _ h => h) (Or.inl ⟨by rfl, ?_⟩) (by assumption) ?_
      rotate_left
      · intro w hSw; (try dsimp only at hSw); go_simp; try with_reducible rfl
      try go_frame
      refine take_at (i := 2) (v := ?_) rfl rfl (by kernel_rfl) (by kernel_rfl) (by kernel_rfl) (fun _ _ _ h => h) (Or.inl ⟨by rfl, ?_⟩) (by assumption) ?_
      rotate_left
      · intro w hSw; (try dsimp only at hSw); go_simp; try with_reducible rfl
      try go_frame
      refine take_at (i := 3) (v := ?_) rfl rfl (by kernel_rfl) (by kernel_rfl) (by kernel_rfl) (fun _ _ _ h => h) (Or.inl ⟨by rfl, ?_⟩) (by assumption) ?_
      rotate_left
      · intro w hSw; (try dsimp only at hSw); go_simp; try with_reducible rfl
      try go_frame
      refine take_at (i := 4) (v := ?_) rfl rfl (by kernel_rfl) (by kernel_rfl) (by kernel_rfl) (fun _ _ _ h => h) (Or.inl ⟨by rfl, ?_⟩) (by assumption) ?_
      rotate_left
      · intro w hSw; (try dsimp only at hSw); go_simp; try with_reducible rfl
      try go_frame
      refine take_at (i := 5) (v := ?_) rfl rfl (by kernel_rfl) (by kernel_rfl) (by kernel_rfl) (fun _ _ _ h => h) (Or.inl ⟨by rfl, ?_⟩) (by assumption) ?_
      rotate_left
      · intro w hSw; (try dsimp only at hSw); go_simp; try with_reducible rfl
      try go_frame
      obtain ⟨Hd, HHd⟩ : ∃ Hd : ByteArray, Hid (Hd = ⟨(headL k).toArray⟩) := ⟨_, rfl⟩
      refine take_at (i := 1) (v := .string Hd) rfl rfl (by kernel_rfl) (by kernel_rfl) (by kernel_rfl) (fun _ _ _ h => h) (Or.inl ⟨by rfl, ?_⟩) (by assumption) ?_
      · intro w' hSw
        have hcv := own_conv (P := Tryz.prog) 68 9 hSw Tryz.underlying68 Tryz.underlying5 Tryz.underlying9
        rw [← HHd.out] at hcv
        clear hSw
        go_simp
      try go_frame
      refine wpAnyH_ready (rs := [6]) (by kernel_rfl) (by simp) ?_
      refine AllReadyH.cons rfl (fun K hK => ?_) AllReadyH.nil
      go_simp
      refine hK.out _ _ (hown.alloc _) (fun hHeld => ?_)
      clear hK K
      refine wpAnyH_ready (rs := [7]) (by kernel_rfl) (by simp) ?_
      refine AllReadyH.cons rfl (fun K hK => ?_) AllReadyH.nil
      go_simp
      have hI : IntsAt (wr.alloc (.cells #[.int .i64 (8 * (n : Int) / 4294967296), .int .i64 (8 * (n : Int) % 4294967296)] 3)).drew .i64 (some ⟨wr.heap.size, 0, none⟩) 2 [8 * (n : Int) / 4294967296, 8 * (n : Int) % 4294967296] := ints_alloc wr _ _ 2 _ rfl rfl
      refine (rputBig_any _ 2 _ _ _ (by omega) hI).mono ?_
      rintro e w2 ⟨rfl, hb2⟩
      rw [lenL_mod]
      obtain ⟨L, hL⟩ : ∃ L : ByteArray, L = ⟨(lenL n).toArray⟩ := ⟨_, rfl⟩
      have hs : L.size = 8 := by rw [hL]; exact lenL_size n
      have HL : Hid (Hd ++ L = padB n) := by show _ = _; rw [HHd.out, hL, HZ.out]; exact rpad_bytes n
      have hsh : Hd.size = k + 1 := by rw [HHd.out]; show (headL k).toArray.size = _; rw [List.size_toArray, headL_length]
      have hsum : ¬ (9223372036854775807 < Hd.size + L.size) := by omega
      rw [← hL]
      clear hL hs hsh
      have hown2 : OwnV w2 w.heap.size 5 .u8 (.slice (some ⟨g, 0, none⟩) m c) m (nums (headL k)) := OwnV.below (w := (wr.alloc (.cells #[.int .i64 (8 * (n : Int) / 4294967296), .int .i64 (8 * (n : Int) % 4294967296)] 3)).drew) (hown.alloc _) hb2
      have hB2 : Below w.heap.size w w2 := below_step (hbl.alloc (by omega) _).drew (Nat.le_refl _) hb2
      refine hK.out _ _ hown2 (fun hHeld => ?_)
      clear hK K
      refine take_at (i := 8) (v := ?_) rfl rfl (by kernel_rfl) (by kernel_rfl) (by kernel_rfl) (fun _ _ _ h => h) (Or.inl ⟨by rfl, ?_⟩) (by assumption) ?_
      rotate_left
      · intro w hSw; (try dsimp only at hSw); go_simp; try with_reducible rfl
      try go_frame
      refine take_at (i := 9) (v := ?_) rfl rfl (by kernel_rfl) (by kernel_rfl) (by kernel_rfl) (fun _ _ _ h => h) (Or.inl ⟨by rfl, ?_⟩) (by assumption) ?_
      rotate_left
      · intro w hSw; (try dsimp only at hSw); go_simp; try with_reducible rfl
      try go_frame
      refine take_at (i := 10) (v := ?_) rfl rfl (by kernel_rfl) (by kernel_rfl) (by kernel_rfl) (fun _ _ _ h => h) (Or.inl ⟨by rfl, ?_⟩) (by assumption) ?_
      rotate_left
      · intro w hSw; (try dsimp only at hSw); go_simp; try with_reducible rfl
      try go_frame
      refine wpAnyH_done (by kernel_rfl) (NoPanic.normal ?_) _
      rw [HL.out]
      go_wp2
      go_ret2
      exact ⟨rfl, hB2⟩
theorem padB_size (n : Nat) : (padB n).size = 9 + zerosN n := by
  show (padL n).toArray.size = _
  rw [List.size_toArray]
  simp [padL, lenL_length]
  omega
theorem zerosN_mod (n : Nat) : (n + (9 + zerosN n)) % 64 = 0 := by unfold zerosN; omega
theorem zerosN_le (n : Nat) : zerosN n ≤ 63 := by unfold zerosN; omega
set_option maxRecDepth 100000 in
set_option maxHeartbeats 4000000 in
theorem behindAll_any (x : List Nat) (s : ByteArray) (w : World) (hx : x.length = 8) (ho : Ok x) (hs : s.size ≤ 1048576) (hK : GlobK w) :
    Calls Tryz.prog 134 #[.agg (vals x), .string s] w fun e w' => e = .returned (.agg (vals (foldN (bt s) x (s.size / 64)))) ∧ Below w.heap.size w w' := by
  have HK : Hid (GlobK w) := hK
  have HL : Hid (∀ k, (foldN (bt s) x k).length = 8) := foldN_length (bt s) x hx
  have HO : Hid (∀ k, Ok (foldN (bt s) x k)) := foldN_ok (bt s) x ho
  have HS : Hid (∀ k, foldN (bt s) x (k + 1) = _) := foldN_succ (bt s) x
  obtain ⟨m, HM⟩ : ∃ m, Hid (m = s.size / 64) := ⟨_, rfl⟩
  have hm : (s.size : Int) / 64 = (m : Int) := by rw [HM.out]; omega
  have hm2 : m ≤ 1048576 := by omega
  obtain ⟨F, HF⟩ : ∃ F : Nat → List Nat, Hid (F = foldN (bt s) x) := ⟨_, rfl⟩
  rw [← HF.out] at HL HO HS
  have HS' : Hid (∀ k, F (k + 1) = behindN (F k) (fun j => bt s (64 * k + j))) := HS
  have H0 : Hid (F 0 = x) := by show _ = _; rw [HF.out]; rfl
  clear hK HS
  go_enter Tryz.func134, Tryz.ntmps134
  go_wp2_with fail
  have V0 : Hid (Arr _ 152 w.heap.size (F 0)) := Arr.cast H0.out.symm <| (Arr.new w 152 x _ rfl).alloc (.cells #[.int .u32 0, .int .u32 0, .int .u32 0, .int .u32 0, .int .u32 0, .int .u32 0, .int .u32 0, .int .u32 0] 152)
  have V1 : Hid (Arr _ 152 (w.heap.size + 1) (tabN 8 (fun _ => 0))) := Arr.new' (w.alloc (.cells (vals x) 152)) 152 (tabN 8 (fun _ => 0)) #[.int .u32 0, .int .u32 0, .int .u32 0, .int .u32 0, .int .u32 0, .int .u32 0, .int .u32 0, .int .u32 0] (w.heap.size + 1) (by simp) (by kernel_rfl)
  have V2 : Below w.heap.size w _ := (below_new w (.cells (vals x) 152)).alloc (by simp) (.cells #[.int .u32 0, .int .u32 0, .int .u32 0, .int .u32 0, .int .u32 0, .int .u32 0, .int .u32 0, .int .u32 0] 152)
  go_loopw [9] (fun i wr => ∃ k : Nat, k ≤ m ∧ i = .int .i64 k ∧ Hid (Arr wr 152 w.heap.size (F k)) ∧ Hid (Arr wr 152 (w.heap.size + 1) (tabN 8 (fun _ => 0))) ∧ Below w.heap.size w wr) (fun i _ => m - (intOf i).toNat)
  case atStart => exact ⟨0, by omega, rfl, V0, V1, V2⟩
  case round =>
    clear V0 V1 V2
    obtain ⟨k, hk, rfl, V0, V1, hbl⟩ := hrel
    by_cases hlt : k < m
    · obtain ⟨p, hp⟩ : ∃ p, p = 64 * k := ⟨_, rfl⟩
      obtain ⟨q, hq⟩ : ∃ q, q = 64 * k + 64 := ⟨_, rfl⟩
      have hms := HM.out
      have hqs : q ≤ s.size := by omega
      have e1 : IntKind.i64.wrap ((k : Int) * 64) = (p : Int) := by rw [i64_small _ (by omega) (by omega)]; omega
      have e2 : IntKind.i64.wrap ((k : Int) + 1) = (k : Int) + 1 := by rw [i64_small _ (by omega) (by omega)]
      have e3 : IntKind.i64.wrap (((k : Int) + 1) * 64) = (q : Int) := by rw [i64_small _ (by omega) (by omega)]; omega
      have b1 : (p : Int) ≤ (q : Int) := by omega
      have b2 : (q : Int) ≤ (s.size : Int) := by omega
      have hes : (s.extract p q).size = 64 := by rw [ByteArray.size_extract]; omega
      have CB : Hid (∀ w, GlobK w → _) := fun w h => behind_any (F k) (s.extract p q) w (HL.out k) (HO.out k) hes h
      have HN : Hid (behindN (F k) (bt (s.extract p q)) = F (k + 1)) := by
        show _ = _
        rw [HS'.out k]
        exact behindN_congr _ _ _ (fun j hj => by rw [bt_extract s p q j (by omega) hqs, hp])
      have hKr : Hid (GlobK wr) := HK.out.below hbl
      clear hms hes hp hq
      have b0 : (k : Int) < (m : Int) := by omega
      go_wp2_with fail
      refine wp_region_noPanic ?_
      refine wp_region_held_drew (S := fun _ => True) (by kernel_rfl) (by first | exact trivial | assumption | exact ⟨by assumption, by assumption⟩) (fun hHeld => ?_)
      refine take_at (i := 1) (v := ?_) rfl rfl (by kernel_rfl) (by kernel_rfl) (by kernel_rfl) (fun _ _ _ h => h) (Or.inl ⟨by rfl, ?_⟩) (by assumption) ?_
      rotate_left
      · intro w hSw; (try dsimp only at hSw); go_simp; try with_reducible rfl
      try go_frame
      refine take_at (i := 2) (v := ?_) rfl rfl (by kernel_rfl) (by kernel_rfl) (by kernel_rfl) (fun _ _ _ h => h) (Or.inl ⟨by rfl, ?_⟩) (by assumption) ?_
      rotate_left
      · intro w hSw; (try dsimp only at hSw); go_simp; try with_reducible rfl
      try go_frame
      refine take_at (i := 3) (v := ?_) rfl rfl (by kernel_rfl) (by kernel_rfl) (by kernel_rfl) (fun _ _ _ h => h) (Or.inl ⟨by rfl, ?_⟩) (by assumption) ?_
      rotate_left
      · intro w hSw; (try dsimp only at hSw); go_simp; try with_reducible rfl
      try go_frame
      refine take_at (i := 4) (v := ?_) rfl rfl (by kernel_rfl) (by kernel_rfl) (by kernel_rfl) (fun _ _ _ h => h) (Or.inl ⟨by rfl, ?_⟩) (by assumption) ?_
      rotate_left
      · intro w hSw; (try dsimp only at hSw); go_simp; try with_reducible rfl
      try go_frame
      refine take_at (i := 5) (v := ?_) rfl rfl (by kernel_rfl) (by kernel_rfl) (by kernel_rfl) (fun _ _ _ h => h) (Or.inl ⟨by rfl, ?_⟩) (by assumption) ?_
      rotate_left
      · intro w hSw; (try dsimp only at hSw); go_simp; try with_reducible rfl
      try go_frame
      refine take_at (i := 6) (v := ?_) rfl rfl (by kernel_rfl) (by kernel_rfl) (by kernel_rfl) (fun _ _ _ h => h) (Or.inl ⟨by rfl, ?_⟩) (by assumption) ?_
      rotate_left
      · intro w hSw; (try dsimp only at hSw); go_simp; try with_reducible rfl
      try go_frame
      refine take_at (i := 7) (v := ?_) rfl rfl (by kernel_rfl) (by kernel_rfl) (by kernel_rfl) (fun _ _ _ h => h) (Or.inl ⟨by rfl, ?_⟩) (by assumption) ?_
      rotate_left
      · intro w hSw; (try dsimp only at hSw); go_simp; try with_reducible rfl
      try go_frame
      refine wpAnyH_ready (rs := [0]) (by kernel_rfl) (by simp) ?_
      refine AllReadyH.cons rfl (fun K hK => ?_) AllReadyH.nil
      refine step_loadArr rfl rfl 152 _ rfl w.heap.size (F k) rfl V0.out 8 151 Tryz.underlying152 (by rw [HL.out]; exact Tryz.arr8) ?_
      refine hK.out _ _ trivial (fun hHeld => ?_)
      clear hK K
      refine wpAnyH_ready (rs := [8]) (by kernel_rfl) (by simp) ?_
      refine AllReadyH.cons rfl (fun K hK => ?_) AllReadyH.nil
      go_simp
      refine (CB.out wr.drew hKr.out).mono ?_
      rintro e w2 ⟨rfl, hb2⟩
      rw [HN.out]
      refine hK.out _ _ trivial (fun hHeld => ?_)
      clear hK K
      refine wpAnyH_ready (rs := [9]) (by kernel_rfl) (by simp) ?_
      refine AllReadyH.cons rfl (fun K hK => ?_) AllReadyH.nil
      have V0' := Arr.below (w := wr.drew) V0.out hb2 V0.out.lt
      have V1' := Arr.below (w := wr.drew) V1.out hb2 V1.out.lt
      have hb2' : Below w.heap.size w w2 := below_step hbl.drew (Nat.le_refl _) hb2
      refine step_storeArr rfl rfl 152 _ _ rfl w.heap.size (F k) (F (k + 1)) rfl rfl V0' (by rw [HL.out, HL.out]) (by rw [HL.out]; exact Tryz.arr8) ?_
      refine hK.out _ _ trivial (fun hHeld => ?_)
      clear hK K
      refine wpAnyH_done (by kernel_rfl) (NoPanic.normal ?_) _
      have V0n : Hid (Arr _ 152 w.heap.size (F (k + 1))) := V0'.setRow (F (k + 1))
      have V1n : Hid (Arr _ 152 (w.heap.size + 1) _) := V1'.setRowOther w.heap.size (by omega) (vals (F (k + 1)))
      have hbn := below_setRow hb2' (Nat.le_refl _) (vals (F (k + 1)))
      clear V0' V1' hb2 hb2' hbl CB HN hKr
      try simp only [Act.put]
      go_wp2
      go_roundw
      case rel => exact ⟨k + 1, by omega, by go_num, V0n, V1n, hbn⟩
      case measure => simp [intOf]; omega
    · have hk' : k = m := by omega
      subst hk'
      have hl8 := HL.out k
      go_wp2_with (first
        | (with_reducible refine wpList_loadArr rfl 152 _ rfl w.heap.size (F k) ?hx V0.out 8 151 Tryz.underlying152 ?hi ?_)
        | (with_reducible refine wpList_storeArr rfl 152 _ _ rfl (w.heap.size + 1) (tabN 8 (fun _ => 0)) (F k) ?hx2 ?hy V1.out ?hl ?hi2 ?_))
      case hx => rfl
      case hi => rw [hl8]; exact Tryz.arr8
      case hl => rw [tabN_length, hl8]
      case hi2 => rw [tabN_length]; exact Tryz.arr8
      rw [← HM.out, ← HF.out]
      exact bodyPost_arr rfl (w.heap.size + 1) (F k) rfl rfl (V1.out.setRow (F k)) 8 151 Tryz.underlying152 (by rw [hl8]; exact Tryz.arr8) ⟨rfl, below_setRow hbl (by omega) _⟩
section
variable {P : Program} {ops : Array Oper} {o : Oper} {a : Act} {w : World} {K' : Act → World → Prop} {Q : Exit → Act → World → Prop} {E : Prop}
theorem step_loadCells {d : Tmp} (hgd : o.guard = none) (hd : o.dst = some d) (t : TypeId) (x : Operand) (ho : o.op = .load t x) (g : Nat) (l : List Nat) (hx : a.eval x = .pointer (some ⟨g, 0, none⟩)) (h : ∀ j, j < l.length → w.cell? ⟨g, j, none⟩ = some (.int .u32 ((l.getD j 0 : Nat) : Int)))
    (n : Nat) (e : TypeId) (hu : P.underlying t = some (.array n e)) (hi : (P.info? t).map (·.size) = some l.length) (hk : K' (a.put (some d) (.agg (vals l))) w) :
    if Region.wanted o (yielded ops a.tmps) = true then Oper.wp P o a w K' Q else E := by
  rw [if_pos (by simp [Region.wanted, hgd])]
  refine wp_load_mid t x ho g 0 hx (vals l).toList _ (fun j v hv => ?_) hu rfl ?_ ?_
  · rw [Nat.zero_add]
    have hj : j < l.length := by
      have := (List.getElem?_eq_some_iff.1 hv).1
      simpa [vals_size] using this
    rw [h j hj, ← vals_get l j hj, ← hv]; simp
  · rw [hi]; simp [vals_size]
  · rw [hd]; simpa using hk
end
theorem fullF_left (s : ByteArray) (j : Nat) (h : j < s.size) : fullF s j = bt s j := by unfold fullF; rw [if_pos h]
theorem fullF_right (s : ByteArray) (j : Nat) : fullF s (s.size + j) = bt (padB s.size) j := by
  unfold fullF
  rw [if_neg (by omega), show s.size + j - s.size = j by omega]
  rfl
theorem full_bt (s : ByteArray) (j : Nat) : bt (s ++ padB s.size) j = fullF s j := by
  by_cases h : j < s.size
  · rw [bt_append_left _ _ _ h, fullF_left _ _ h]
  · obtain ⟨i, rfl⟩ : ∃ i, j = s.size + i := ⟨j - s.size, by omega⟩
    rw [bt_append_right, fullF_right]
theorem sum_split (s : ByteArray) (W : Nat) (hW : W = 64 * (s.size / 64)) (T : ByteArray) (hT : T = s.extract W s.size) :
    foldN (bt (T ++ padB s.size)) (foldN (bt (s.extract 0 W)) bN (W / 64)) ((T ++ padB s.size).size / 64) = sumN s := by
  have hTs : T.size = s.size - W := by rw [hT, ByteArray.size_extract]; omega
  have hWs : W ≤ s.size := by omega
  have hP := padB_size s.size
  unfold sumN
  rw [ByteArray.size_append, hTs, hP]
  have e : (s.size + 9 + zerosN s.size) / 64 = W / 64 + (s.size - W + (9 + zerosN s.size)) / 64 := by omega
  rw [e, foldN_add]
  rw [foldN_congr (bt (s.extract 0 W)) (fullF s) bN (W / 64) (fun j hj => by
    rw [bt_extract s 0 W j (by omega) hWs, fullF_left s j (by omega), Nat.zero_add])]
  refine foldN_congr _ _ _ _ (fun j hj => ?_)
  by_cases h : j < T.size
  · rw [bt_append_left _ _ _ h, hT, bt_extract s W s.size j (by omega) (Nat.le_refl _), fullF_left s _ (by omega), show 64 * (W / 64) + j = W + j by omega]
  · obtain ⟨i, rfl⟩ : ∃ i, j = T.size + i := ⟨j - T.size, by omega⟩
    rw [bt_append_right, show 64 * (W / 64) + (T.size + i) = s.size + i by omega, fullF_right]
set_option maxRecDepth 100000 in
set_option maxHeartbeats 4000000 in
theorem sum_any (s : ByteArray) (w : World) (hs : s.size ≤ 65536) (hB : GlobB w) (hK : GlobK w) :
    Calls Tryz.prog 103 #[.string s] w fun e w' => e = .returned (.string (ofN (sumN s))) ∧ Below w.heap.size w w' := by
  have HB : Hid (GlobB w) := hB
  have HK : Hid (GlobK w) := hK
  have CP : Hid (∀ w, _) := fun w => pad_ok s.size w (by omega)
  obtain ⟨P, HP⟩ : ∃ P : ByteArray, Hid (P = padB s.size) := ⟨_, rfl⟩
  rw [← HP.out] at CP
  have hPs : P.size ≤ 72 := by rw [HP.out, padB_size]; have := zerosN_le s.size; omega
  obtain ⟨W, hW⟩ : ∃ W, W = 64 * (s.size / 64) := ⟨_, rfl⟩
  have eW : (s.size : Int) - (s.size : Int) % 64 = (W : Int) := by omega
  have bW : (W : Int) ≤ (s.size : Int) := by omega
  have HW : Hid (W = 64 * (s.size / 64)) := hW
  clear hB hK hW
  go_enter Tryz.func103, Tryz.ntmps103
  go_wp2_with fail
  refine (CP.out _).mono ?_
  rintro e w1 ⟨rfl, hb1⟩
  have HB1 : Hid (∀ j, j < bN.length → w1.cell? ⟨1, j, none⟩ = some (.int .u32 ((bN.getD j 0 : Nat) : Int))) := HB.out.below hb1
  have HK1 : Hid (GlobK w1) := HK.out.below hb1
  go_wp2_with fail
  have hsum : ¬ (9223372036854775807 < s.size - W + P.size) := by omega
  obtain ⟨T, HT⟩ : ∃ T, Hid (T = s.extract W s.size) := ⟨_, rfl⟩
  have hs1 : (s.extract 0 W).size = W := by rw [ByteArray.size_extract]; omega
  have hs2 : (T ++ P).size ≤ 1048576 := by rw [ByteArray.size_append, HT.out, ByteArray.size_extract]; omega
  obtain ⟨y, Hy⟩ : ∃ y, Hid (y = foldN (bt (s.extract 0 W)) bN (W / 64)) := ⟨_, rfl⟩
  have hyl : Hid (y.length = 8) := by show _ = _; rw [Hy.out]; exact foldN_length _ _ rfl _
  have hyo : Hid (Ok y) := by show Ok y; rw [Hy.out]; exact foldN_ok _ _ bN_ok _
  have C1 : Hid (∀ w, GlobK w → Calls Tryz.prog 134 #[.agg (vals bN), .string (s.extract 0 W)] w fun e w' => e = .returned (.agg (vals y)) ∧ Below w.heap.size w w') := by
    rw [Hy.out]
    have := fun w h => behindAll_any bN (s.extract 0 W) w rfl bN_ok (by omega) h
    rw [hs1] at this
    exact this
  have HS : Hid (foldN (bt (T ++ P)) y ((T ++ P).size / 64) = sumN s) := by
    show _ = _
    rw [Hy.out, HP.out]; exact sum_split s W HW.out T HT.out
  obtain ⟨z, Hz⟩ : ∃ z, Hid (z = sumN s) := ⟨_, rfl⟩
  rw [← Hz.out] at HS
  have hzl : Hid (z.length = 8) := by show _ = _; rw [← HS.out]; exact foldN_length _ _ hyl.out _
  have hzo : Hid (Ok z) := by show Ok z; rw [← HS.out]; exact foldN_ok _ _ hyo.out _
  have C2 : Hid (∀ w, GlobK w → Calls Tryz.prog 134 #[.agg (vals y), .string (s.extract W s.size ++ P)] w fun e w' => e = .returned (.agg (vals z)) ∧ Below w.heap.size w w') := by
    have := fun w h => behindAll_any y (T ++ P) w hyl.out hyo.out hs2 h
    rw [HS.out, HT.out] at this
    exact this
  clear hs1 hs2
  refine wp_region_noPanic ?_
  refine wp_region_held_drew (S := fun _ => True) (by kernel_rfl) (by first | exact trivial | assumption | exact ⟨by assumption, by assumption⟩) (fun hHeld => ?_)
  refine take_at (i := 1) (v := ?_) rfl rfl (by kernel_rfl) (by kernel_rfl) (by kernel_rfl) (fun _ _ _ h => h) (Or.inl ⟨by rfl, ?_⟩) (by assumption) ?_
  rotate_left
  · intro w hSw; (try dsimp only at hSw); go_simp; try with_reducible rfl
  try go_frame
  refine take_at (i := 2) (v := ?_) rfl rfl (by kernel_rfl) (by kernel_rfl) (by kernel_rfl) (fun _ _ _ h => h) (Or.inl ⟨by rfl, ?_⟩) (by assumption) ?_
  rotate_left
  · intro w hSw; (try dsimp only at hSw); go_simp; try with_reducible rfl
  try go_frame
  refine take_at (i := 3) (v := ?_) rfl rfl (by kernel_rfl) (by kernel_rfl) (by kernel_rfl) (fun _ _ _ h => h) (Or.inl ⟨by rfl, ?_⟩) (by assumption) ?_
  rotate_left
  · intro w hSw; (try dsimp only at hSw); go_simp; try with_reducible rfl
  try go_frame
  refine take_at (i := 5) (v := ?_) rfl rfl (by kernel_rfl) (by kernel_rfl) (by kernel_rfl) (fun _ _ _ h => h) (Or.inl ⟨by rfl, ?_⟩) (by assumption) ?_
  rotate_left
  · intro w hSw; (try dsimp only at hSw); go_simp; try with_reducible rfl
  try go_frame
  refine take_at (i := 6) (v := ?_) rfl rfl (by kernel_rfl) (by kernel_rfl) (by kernel_rfl) (fun _ _ _ h => h) (Or.inl ⟨by rfl, ?_⟩) (by assumption) ?_
  rotate_left
  · intro w hSw; (try dsimp only at hSw); go_simp; try with_reducible rfl
  try go_frame
  refine take_at (i := 7) (v := ?_) rfl rfl (by kernel_rfl) (by kernel_rfl) (by kernel_rfl) (fun _ _ _ h => h) (Or.inl ⟨by rfl, ?_⟩) (by assumption) ?_
  rotate_left
  · intro w hSw; (try dsimp only at hSw); go_simp; try with_reducible rfl
  try go_frame
  refine take_at (i := 8) (v := ?_) rfl rfl (by kernel_rfl) (by kernel_rfl) (by kernel_rfl) (fun _ _ _ h => h) (Or.inl ⟨by rfl, ?_⟩) (by assumption) ?_
  rotate_left
  · intro w hSw; (try dsimp only at hSw); go_simp; try with_reducible rfl
  try go_frame
  refine take_at (i := 9) (v := ?_) rfl rfl (by kernel_rfl) (by kernel_rfl) (by kernel_rfl) (fun _ _ _ h => h) (Or.inl ⟨by rfl, ?_⟩) (by assumption) ?_
  rotate_left
  · intro w hSw; (try dsimp only at hSw); go_simp; try with_reducible rfl
  try go_frame
  refine wpAnyH_ready (rs := [0]) (by kernel_rfl) (by simp) ?_
  refine AllReadyH.cons rfl (fun K hK => ?_) AllReadyH.nil
  refine step_loadCells rfl rfl 152 _ rfl 1 bN rfl HB1.out 8 151 Tryz.underlying152 Tryz.arr8 ?_
  refine hK.out _ _ trivial (fun hHeld => ?_)
  clear hK K
  refine wpAnyH_ready (rs := [4]) (by kernel_rfl) (by simp) ?_
  refine AllReadyH.cons rfl (fun K hK => ?_) AllReadyH.nil
  go_simp
  refine (C1.out w1.drew HK1.out).mono ?_
  rintro e w2 ⟨rfl, hb2⟩
  have hb2' := below_step hb1.drew (Nat.le_refl _) hb2
  have HK2 : Hid (GlobK w2) := HK.out.below hb2'
  refine hK.out _ _ trivial (fun hHeld => ?_)
  clear hK K
  refine wpAnyH_ready (rs := [10]) (by kernel_rfl) (by simp) ?_
  refine AllReadyH.cons rfl (fun K hK => ?_) AllReadyH.nil
  go_simp
  refine (C2.out w2 HK2.out).mono ?_
  rintro e w3 ⟨rfl, hb3⟩
  have hb3' := below_step hb2' (Nat.le_refl _) hb3
  refine hK.out _ _ trivial (fun hHeld => ?_)
  clear hK K
  refine wpAnyH_ready (rs := [11]) (by kernel_rfl) (by simp) ?_
  refine AllReadyH.cons rfl (fun K hK => ?_) AllReadyH.nil
  go_simp
  refine (put_any z w3 hzl.out hzo.out).mono ?_
  rintro e w4 ⟨rfl, hb4⟩
  have hb4' := below_step hb3' (Nat.le_refl _) hb4
  rw [Hz.out]
  refine hK.out _ _ trivial (fun hHeld => ?_)
  clear hK K
  refine take_at (i := 12) (v := ?_) rfl rfl (by kernel_rfl) (by kernel_rfl) (by kernel_rfl) (fun _ _ _ h => h) (Or.inl ⟨by rfl, ?_⟩) (by assumption) ?_
  rotate_left
  · intro w hSw; (try dsimp only at hSw); go_simp; try with_reducible rfl
  try go_frame
  refine wpAnyH_done (by kernel_rfl) (NoPanic.normal ?_) _
  go_wp2
  go_ret
  exact ⟨rfl, hb4'⟩
set_option maxRecDepth 100000 in
set_option maxHeartbeats 4000000 in
theorem rsum_any (s : ByteArray) (w : World) (hs : s.size ≤ 65536) :
    Calls Tryz.prog 93 #[.string s] w fun e w' => e = .returned (.string (ofN (sumN s))) ∧ Below w.heap.size w w' := by
  have CP : Hid (∀ w, _) := fun w => rpad_ok s.size w (by omega)
  obtain ⟨P, HP⟩ : ∃ P : ByteArray, Hid (P = padB s.size) := ⟨_, rfl⟩
  rw [← HP.out] at CP
  have hPs : P.size = 9 + zerosN s.size := by rw [HP.out, padB_size]
  have hz := zerosN_le s.size
  have hm := zerosN_mod s.size
  have hsum : ¬ (9223372036854775807 < s.size + P.size) := by omega
  obtain ⟨n, Hn⟩ : ∃ n, Hid (n = (s.size + 9 + zerosN s.size) / 64) := ⟨_, rfl⟩
  have hFs : Hid ((s ++ P).size = 64 * n) := by show _ = _; rw [ByteArray.size_append, Hn.out, hPs]; omega
  have hn : n ≤ 65536 := by rw [Hn.out]; omega
  obtain ⟨F, HF⟩ : ∃ F : Nat → List Nat, Hid (F = foldN (fullF s) bN) := ⟨_, rfl⟩
  have HL : Hid (∀ k, (F k).length = 8) := by rw [HF.out]; exact foldN_length _ _ rfl
  have HO : Hid (∀ k, Ok (F k)) := by rw [HF.out]; exact foldN_ok _ _ bN_ok
  have HN : Hid (∀ k, F (k + 1) = behindN (F k) (fun j => bt (s ++ P) (64 * k + j))) := by
    show ∀ k, _
    intro k
    rw [HF.out, foldN_succ]
    exact behindN_congr _ _ _ (fun j _ => by rw [HP.out, full_bt])
  have H0 : Hid (F 0 = bN) := by show _ = _; rw [HF.out]; rfl
  have HE : Hid (F n = sumN s) := by show _ = _; rw [HF.out, Hn.out]; rfl
  clear hPs hz hm
  go_enter Tryz.func93, Tryz.ntmps93
  go_wp2_with fail
  refine (CP.out _).mono ?_
  rintro e w1 ⟨rfl, hb1⟩
  go_wp2_with fail
  refine (rbegin_any _).mono ?_
  rintro e w2 ⟨rfl, hb2⟩
  have hB2 : Hid (Below w.heap.size w w2) := below_step hb1 (Nat.le_refl _) hb2
  rw [← H0.out]
  generalize s ++ P = S at *
  clear hb1 hb2 CP hsum
  go_wp2_with fail
  go_loopw [5, 6] (fun v i wr => ∃ k j : Nat, j ≤ 64 * n ∧ i = .int .i64 j ∧ Hid (j = 64 * k) ∧ v = .string (ofN (F k)) ∧ Below w.heap.size w wr) (fun _ i _ => 64 * n - (intOf i).toNat)
  case atStart => exact ⟨0, 0, by omega, rfl, rfl, rfl, hB2.out⟩
  case round =>
    obtain ⟨k, j, hj, rfl, HJ, rfl, hbl⟩ := hrel
    have hS := hFs.out
    by_cases hlt : j < 64 * n
    · have hJ := HJ.out
      have hq : j + 64 ≤ S.size := by omega
      have hes : (S.extract j (j + 64)).size = 64 := by rw [ByteArray.size_extract]; omega
      have CB : Hid (∀ w, Calls Tryz.prog 120 #[.string (ofN (F k)), .string (S.extract j (j + 64))] w fun e w' => e = .returned (.tuple #[.string (ofN (F (k + 1))), .int .i64 0]) ∧ Below w.heap.size w w') := by
        have := fun w => rblock_ok (ofN (F k)) (S.extract j (j + 64)) w (ofN_size _ (HL.out k)) hes
        rw [wordsN_ofN _ (HO.out k)] at this
        rw [HN.out k]
        rw [behindN_congr (F k) (bt (S.extract j (j + 64))) (fun i => bt S (64 * k + i)) (fun i hi => by rw [bt_extract S j (j + 64) i (by omega) hq, hJ])] at this
        exact this
      have b1 : (j : Int) + 64 ≤ (S.size : Int) := by omega
      clear hJ hes hS
      go_wp2_with fail
      refine (CB.out _).mono ?_
      rintro e w3 ⟨rfl, hb3⟩
      have hb3' := below_step hbl (Nat.le_refl _) hb3
      clear CB
      go_wp2_with fail
      go_roundw
      case rel => exact ⟨k + 1, j + 64, by have := HJ.out; omega, by go_num, by have := HJ.out; show j + 64 = 64 * (k + 1); omega, rfl, hb3'⟩
      case measure => simp [intOf]; omega
    · have hj' : j = 64 * n := by omega
      have hk' : k = n := by have := HJ.out; omega
      have b1 : ¬ ((j : Int) + 64 ≤ (S.size : Int)) := by omega
      rw [hk', HE.out]
      clear hj' hS
      go_wp2_with fail
      go_ret
      exact ⟨rfl, hbl⟩
end Go.Proofs.YtabhkebkbidfhaaGreatDoor

namespace Go.Proofs.YtabhkebkbidfhaaGreatDoor
open Go.RowKit
set_option maxRecDepth 100000
def bvals (l : List Nat) : Array Value := ((ints l).map (Value.int .u8)).toArray
def Brr (w : World) (t : TypeId) (g : Nat) (l : List Nat) : Prop := w.heap[g]? = some (.cells (bvals l) t (0, 0))
theorem bvals_size (l : List Nat) : (bvals l).size = l.length := by simp [bvals, ints]
theorem bvals_get (l : List Nat) (j : Nat) (hj : j < l.length) : (bvals l)[j]? = some (.int .u8 ((l.getD j 0 : Nat) : Int)) := by
  simp [bvals, ints, List.getD_eq_getElem?_getD, List.getElem?_eq_getElem hj]
theorem bvals_one (l : List Nat) : (bvals l).all (·.oneCell') = true := by
  refine Array.all_eq_true_iff_forall_mem.2 (fun v hv => ?_)
  simp only [bvals, List.mem_toArray, List.mem_map] at hv
  obtain ⟨z, _, rfl⟩ := hv
  rfl
theorem Brr.cell {w : World} {t : TypeId} {g : Nat} {l : List Nat} (h : Brr w t g l) (j : Nat) (hj : j < l.length) : w.cell? ⟨g, j, none⟩ = some (.int .u8 ((l.getD j 0 : Nat) : Int)) := by
  rw [cell_of_row _ _ _ _ t (0, 0) h, bvals_get l j hj]
theorem Brr.lt {w : World} {t : TypeId} {g : Nat} {l : List Nat} (h : Brr w t g l) : g < w.heap.size := (Array.getElem?_eq_some_iff.1 h).1
theorem Brr.free {w : World} {t : TypeId} {g : Nat} {l : List Nat} (h : Brr w t g l) (j : Nat) : w.frozen? ⟨g, j, none⟩ = false := by
  unfold Brr at h
  simp [World.frozen?, h]
theorem Brr.below {w w' : World} {t : TypeId} {B g : Nat} {l : List Nat} (h : Brr w t g l) (hb : Below B w w') (hg : g < B) : Brr w' t g l := by
  unfold Brr; rw [hb.block g hg]; exact h
theorem Brr.alloc {w : World} {t : TypeId} {g : Nat} {l : List Nat} (h : Brr w t g l) (o : Obj) : Brr (w.alloc o) t g l := by
  unfold Brr; rw [Below.heap_alloc w o g h.lt]; exact h
theorem Brr.new (w : World) (t : TypeId) (l : List Nat) (c : Array Value) (hc : c = bvals l) : Brr (w.alloc (.cells c t)) t w.heap.size l := by
  subst hc; exact heap_alloc_last w _
theorem Brr.other {w : World} {t : TypeId} {g : Nat} {l : List Nat} (h : Brr w t g l) (p : Addr) (hp : g ≠ p.block) (u : Value) : Brr (w.setCell p u) t g l := by
  unfold Brr; rw [Below.heap_setCell w p u g hp]; exact h
theorem Brr.set {w : World} {t : TypeId} {g : Nat} {l : List Nat} (h : Brr w t g l) (j : Nat) (x : Nat) : Brr (w.setCell ⟨g, j, none⟩ (.int .u8 (x : Int))) t g (l.set j x) := by
  have e : bvals (l.set j x) = (bvals l).setIfInBounds j (.int .u8 (x : Int)) := by simp [bvals, ints, List.map_set]
  unfold Brr
  rw [e]
  exact heap_setCell_same w g j _ t _ h
theorem Brr.setRow {w : World} {t : TypeId} {g : Nat} {l : List Nat} (h : Brr w t g l) (l' : List Nat) : Brr (w.setRow g (bvals l')) t g l' := setRow_heap w g _ _ t (0, 0) h
theorem Brr.setRowOther {w : World} {t : TypeId} {g : Nat} {l : List Nat} (h : Brr w t g l) (g' : Nat) (hg : g ≠ g') (c : Array Value) : Brr (w.setRow g' c) t g l := by
  unfold Brr; rw [setRow_other w g' g c hg]; exact h
section
variable {P : Program} {ops : Array Oper} {rest : List Oper} {o : Oper} {a : Act} {w : World} {Q : Exit → Act → World → Prop}
theorem run_loadBrr (t : TypeId) (g : Nat) (l : List Nat) (h : Brr w t g l) (n : Nat) (e : TypeId) (hu : P.underlying t = some (.array n e)) (hi : (P.info? t).map (·.size) = some l.length) :
    (loadVar t ⟨g, 0, none⟩).run P w = .ok (.agg (bvals l)) w :=
  run_loadVar_row w g t t (bvals l) (0, 0) _ h hu rfl (by rw [bvals_size]; exact hi)
theorem bodyPost_brr {fn : Func} {p : Tmp} {ty : TypeId} {R : Ending → World → Prop} (hf : fn.results = #[.cell p ty]) (g : Nat) (l : List Nat) (hp : a.tmps.getD p undef = .pointer (some ⟨g, 0, none⟩)) (hd : a.defers = []) (h : Brr w ty g l)
    (n : Nat) (e : TypeId) (hu : P.underlying ty = some (.array n e)) (hi : (P.info? ty).map (·.size) = some l.length) (hR : R (.returned (.agg (bvals l))) w) : bodyPost P fn R .ret a w := by
  refine bodyPost_ret (v := .agg (bvals l)) ?_ hd hR
  rw [results_cell hf, hp]
  simp [asAddr, Result.andThen, run_loadBrr ty g l h n e hu hi]
theorem wpList_loadBrr (hgd : o.guard = none) (t : TypeId) (x : Operand) (ho : o.op = .load t x) (g : Nat) (l : List Nat) (hx : a.eval x = .pointer (some ⟨g, 0, none⟩)) (h : Brr w t g l)
    (n : Nat) (e : TypeId) (hu : P.underlying t = some (.array n e)) (hi : (P.info? t).map (·.size) = some l.length) (hk : wpList P ops Q rest (a.put o.dst (.agg (bvals l))) w) : wpList P ops Q (o :: rest) a w :=
  wpList_plain hgd fun _ hK => by
    unfold Oper.wp execOp
    simp only [ho, hx, Instr.loadAt, Instr.sureAddr, Sem.run_bind, Sem.run_pure, Result.andThen_ok, run_loadBrr t g l h n e hu hi]
    exact hK _ _ hk
theorem wpList_storeBrr (hgd : o.guard = none) (t : TypeId) (x y : Operand) (ho : o.op = .store t x y) (g : Nat) (l l' : List Nat) (hx : a.eval x = .pointer (some ⟨g, 0, none⟩)) (hy : a.eval y = .agg (bvals l')) (h : Brr w t g l) (hl : l.length = l'.length)
    (hi : (P.info? t).map (·.size) = some l.length) (hk : wpList P ops Q rest (a.put o.dst undef) (w.setRow g (bvals l'))) : wpList P ops Q (o :: rest) a w :=
  wpList_plain hgd fun _ hK => by
    unfold Oper.wp execOp
    have := run_storeVar_row (P := P) w g t t (bvals l) (bvals l') h (by rw [bvals_size, ← hl]; exact hi) (by rw [bvals_size, bvals_size, hl]) (bvals_one l')
    simp only [ho, hx, hy, Instr.storeAt, Instr.sureAddr, Sem.run_bind, Sem.run_pure, Result.andThen_ok, this]
    exact hK _ _ hk
end
section
variable {P : Program} {ops : Array Oper} {o : Oper} {a : Act} {w : World} {K' : Act → World → Prop} {Q : Exit → Act → World → Prop} {E : Prop}
end
theorem Brr.cast {w : World} {t : TypeId} {g : Nat} {l l' : List Nat} (e : l = l') (h : Brr w t g l) : Brr w t g l' := e ▸ h
set_option linter.unusedSimpArgs false
theorem Brr.new' (w : World) (t : TypeId) (l : List Nat) (c : Array Value) (g : Nat) (hg : w.heap.size = g) (hc : c = bvals l) : Brr (w.alloc (.cells c t)) t g l := by
  subst hg; exact Brr.new w t l c hc
theorem Tryz.brr64 : (Tryz.prog.info? 124).map (·.size) = some 64 := by kernel_rfl
theorem u8_xor_nat (a b : Nat) (ha : a < 256) (hb : b < 256) : bits .xor .u8 (a : Int) (b : Int) = ((a ^^^ b : Nat) : Int) := by
  have h := bits_xor_byte (UInt8.ofNat a) (UInt8.ofNat b)
  have e1 : (UInt8.ofNat a).toNat = a := by simp [Nat.mod_eq_of_lt ha]
  have e2 : (UInt8.ofNat b).toNat = b := by simp [Nat.mod_eq_of_lt hb]
  rw [UInt8.toNat_xor, e1, e2] at h
  exact h
theorem xor_lt8 (a b : Nat) (ha : a < 256) (hb : b < 256) : a ^^^ b < 256 := Nat.xor_lt_two_pow (n := 8) ha hb
theorem bt_out (s : ByteArray) (j : Nat) (h : s.size ≤ j) : bt s j = 0 := by
  rw [bt_eq, Array.getElem?_eq_none h]; rfl
theorem Brr.conv {P : Program} {w : World} {t : TypeId} {g n : Nat} {f : Nat → Nat} {e : TypeId} (h : Brr w t g (tabN n f)) (hf : ∀ i, i < n → f i < 256) (src dst : TypeId)
    (hs : P.underlying src = some (.slice e)) (he : P.underlying e = some (.int .u8)) (hd : P.underlying dst = some .string) :
    (convert src dst (.slice (some ⟨g, 0, none⟩) n n)).run P w = .ok (.string ⟨(bytesOf n f).toArray⟩) w := by
  rw [← str_nums, nums_bytesOf n f hf]
  exact run_convert_bytes_arg w src e hs he g 0 n n (tab n fun i => (f i : Int)) (tab_length _ _) (fun i hi => by rw [Nat.zero_add, tab_getD _ _ _ hi, h.cell i (by rw [tabN_length]; exact hi), tabN_getD _ _ _ hi]) dst hd
def turnB (f : Nat → Nat) (c : Nat) : ByteArray := ⟨(bytesOf 64 (fun i => f i ^^^ c)).toArray⟩
def keyOf (key : ByteArray) : ByteArray := if 64 < key.size then ofN (sumN key) else key
def macB (key s : ByteArray) : ByteArray := ofN (sumN (turnB (bt (keyOf key)) 92 ++ ofN (sumN (turnB (bt (keyOf key)) 54 ++ s))))
theorem turnB_size (f : Nat → Nat) (c : Nat) : (turnB f c).size = 64 := by
  show (bytesOf 64 _).toArray.size = 64
  rw [List.size_toArray, bytesOf_length]
theorem sumB_size (s : ByteArray) : (ofN (sumN s)).size = 32 := ofN_size _ (foldN_length _ _ rfl _)
theorem keyOf_long (key : ByteArray) (h : 64 < key.size) : keyOf key = ofN (sumN key) := if_pos h
theorem keyOf_short (key : ByteArray) (h : key.size ≤ 64) : keyOf key = key := if_neg (by omega)
theorem macB_size (key s : ByteArray) : (macB key s).size = 32 := sumB_size _
def trnN (f : Nat → Nat) (c k j : Nat) : Nat := if j < k then f j ^^^ c else f j
theorem trnN_zero (f : Nat → Nat) (c : Nat) : tabN 64 (trnN f c 0) = tabN 64 f := tabN_congr _ _ _ (fun i _ => by unfold trnN; rw [if_neg (by omega)])
theorem trnN_at (f : Nat → Nat) (c k : Nat) : trnN f c k k = f k := by unfold trnN; rw [if_neg (by omega)]
theorem trnN_set (f : Nat → Nat) (c k : Nat) : (tabN 64 (trnN f c k)).set k (f k ^^^ c) = tabN 64 (trnN f c (k + 1)) := by
  refine tabN_set _ _ _ _ _ (by unfold trnN; rw [if_pos (by omega)]) (fun i _ hne => ?_)
  unfold trnN
  by_cases h : i < k
  · rw [if_pos h, if_pos (by omega)]
  · rw [if_neg h, if_neg (by omega)]
theorem trnN_all (f : Nat → Nat) (c : Nat) : tabN 64 (trnN f c 64) = tabN 64 (fun i => f i ^^^ c) := tabN_congr _ _ _ (fun i hi => by unfold trnN; rw [if_pos hi])
set_option maxRecDepth 100000 in
set_option maxHeartbeats 4000000 in
theorem hturned_any (f : Nat → Nat) (c : Nat) (w : World) (hf : ∀ i, f i < 256) (hc : c < 256) :
    Calls Tryz.prog 104 #[.agg (bvals (tabN 64 f)), .int .u8 (c : Int)] w fun e w' => e = .returned (.string (turnB f c)) ∧ Below w.heap.size w w' := by
  have HF : Hid (∀ i, f i < 256) := hf
  have HC : Hid (c < 256) := hc
  clear hf hc
  go_enter Tryz.func104, Tryz.ntmps104
  go_wp2_with fail
  have V0 : Hid (Brr _ 124 w.heap.size (tabN 64 (trnN f c 0))) := Brr.cast (trnN_zero f c).symm <| Brr.new w 124 (tabN 64 f) _ rfl
  have V2 : Below w.heap.size w _ := below_new w (.cells (bvals (tabN 64 f)) 124)
  go_loopw [6] (fun i wr => ∃ k : Nat, k ≤ 64 ∧ i = .int .i64 k ∧ Hid (Brr wr 124 w.heap.size (tabN 64 (trnN f c k))) ∧ Below w.heap.size w wr) (fun i _ => 64 - (intOf i).toNat)
  case atStart => exact ⟨0, by omega, rfl, V0, V2⟩
  case round =>
    clear V0 V2
    obtain ⟨k, hk, rfl, V0, hbl⟩ := hrel
    by_cases hlt : k < 64
    · obtain ⟨X, hX⟩ : ∃ x, x = f k := ⟨_, rfl⟩
      have c0 := V0.out.cell k (by rw [tabN_length]; omega)
      rw [tabN_getD _ _ _ hlt, trnN_at, ← hX] at c0
      have hfr := V0.out.free k
      have HO := V0.out.set k (X ^^^ c)
      rw [hX, trnN_set, ← hX] at HO
      have hxr : bits .xor .u8 (X : Int) (c : Int) = ((X ^^^ c : Nat) : Int) := u8_xor_nat X c (by rw [hX]; exact HF.out k) HC.out
      have HO' : Hid (Brr _ 124 w.heap.size _) := HO
      have HBl := hbl.setCell (p := ⟨w.heap.size, k, none⟩) (by simp) (Value.int .u8 ((X ^^^ c : Nat) : Int))
      have b0 : (k : Int) < 64 := by omega
      clear HO hX V0
      go_wp2_with fail
      go_roundw
      case rel => exact ⟨k + 1, by omega, by go_num, HO', HBl⟩
      case measure => simp [intOf]; omega
    · have hk' : k = 64 := by omega
      subst hk'
      have hV := V0.out
      rw [trnN_all] at hV
      have hcv := Brr.conv (P := Tryz.prog) hV (fun i _ => xor_lt8 _ _ (HF.out i) HC.out) 68 9 Tryz.underlying68 Tryz.underlying5 Tryz.underlying9
      clear hV V0
      go_wp2_with fail
      go_ret
      exact ⟨rfl, hbl⟩
theorem cut_bt (s : ByteArray) : tabN 64 (cutN (bt s) s.size) = tabN 64 (bt s) :=
  tabN_congr _ _ _ (fun i _ => by
    unfold cutN
    by_cases h : i < s.size
    · rw [if_pos h]
    · rw [if_neg h, bt_out s i (by omega)])
set_option maxRecDepth 100000 in
set_option maxHeartbeats 4000000 in
theorem keyBlock_short (K : ByteArray) (w : World) (hK : K.size ≤ 64) :
    Calls Tryz.prog 102 #[.string K] w fun e w' => e = .returned (.agg (bvals (tabN 64 (bt K)))) ∧ Below w.heap.size w w' := by
  have g0 : decide ((64 : Int) < (K.size : Int)) = false := by simp; omega
  go_enter Tryz.func102, Tryz.ntmps102
  go_wp2_with fail
  generalize hq : World.alloc (World.alloc w _) _ = W
  have A0 : Hid (Brr W 124 w.heap.size (tabN 64 (cutN (bt K) 0))) := by rw [← hq]; exact (Brr.new w 124 (tabN 64 (cutN (bt K) 0)) _ (by kernel_rfl)).alloc _
  have A1 : Hid (Brr W 124 (w.heap.size + 1) (tabN 64 (cutN (bt K) 0))) := by rw [← hq]; exact Brr.new' _ 124 (tabN 64 (cutN (bt K) 0)) _ (w.heap.size + 1) (by simp) (by kernel_rfl)
  have A2 : Below w.heap.size w W := by rw [← hq]; exact (below_new w _).alloc (by simp) _
  clear hq
  obtain ⟨g, hg⟩ : ∃ g, g = w.heap.size + 1 := ⟨_, rfl⟩
  rw [← hg] at A1 ⊢
  have hne : w.heap.size ≠ g := by omega
  have hgB : w.heap.size ≤ g := by omega
  clear hg
  go_loopw [12] (fun i wr => ∃ k : Nat, k ≤ K.size ∧ i = .int .i64 k ∧ Hid (Brr wr 124 w.heap.size (tabN 64 (cutN (bt K) 0))) ∧ Hid (Brr wr 124 g (tabN 64 (cutN (bt K) k))) ∧ Below w.heap.size w wr) (fun i _ => K.size - (intOf i).toNat)
  case atStart => exact ⟨0, by omega, rfl, A0, A1, A2⟩
  case round =>
    clear A0 A1 A2
    obtain ⟨k, hk, rfl, V0, V1, hbl⟩ := hrel
    by_cases hlt : k < K.size
    · have c1 := V1.out.cell k (by rw [tabN_length]; omega)
      have hfr := V1.out.free k
      have HO := V1.out.set k (bt K k)
      rw [cutN_set, ← bt_get K k hlt] at HO
      have V0' : Hid (Brr _ 124 w.heap.size _) := V0.out.other ⟨g, k, none⟩ hne (Value.int .u8 ((K[k].toNat : Nat) : Int))
      have HO' : Hid (Brr _ 124 g _) := HO
      have HBl := hbl.setCell (p := ⟨g, k, none⟩) hgB (Value.int .u8 ((K[k].toNat : Nat) : Int))
      have b0 : (k : Int) < 64 := by omega
      clear HO V0 V1
      go_wp2_with fail
      go_roundw
      case rel => exact ⟨k + 1, by omega, by go_num, V0', HO', HBl⟩
      case measure => simp [intOf]; omega
    · have hk' : k = K.size := by omega
      subst hk'
      have hV := V1.out
      rw [cut_bt] at hV
      have V1' : Hid (Brr wr 124 g (tabN 64 (bt K))) := hV
      clear hV V1
      go_wp2_with (first
        | (with_reducible refine wpList_loadBrr rfl 124 _ rfl g (tabN 64 (bt K)) ?hx V1'.out 64 5 Tryz.underlying124 ?hi ?_)
        | (with_reducible refine wpList_storeBrr rfl 124 _ _ rfl w.heap.size (tabN 64 (cutN (bt K) 0)) (tabN 64 (bt K)) ?hx2 ?hy V0.out ?hl ?hi2 ?_))
      case hx => rfl
      case hi => rw [tabN_length]; exact Tryz.brr64
      case hl => rw [tabN_length, tabN_length]
      case hi2 => rw [tabN_length]; exact Tryz.brr64
      exact bodyPost_brr rfl w.heap.size (tabN 64 (bt K)) rfl rfl (V0.out.setRow (tabN 64 (bt K))) 64 5 Tryz.underlying124 (by rw [tabN_length]; exact Tryz.brr64) ⟨rfl, below_setRow hbl (Nat.le_refl _) _⟩
set_option maxRecDepth 100000 in
set_option maxHeartbeats 4000000 in
theorem keyBlock_long (key : ByteArray) (w : World) (hk : 64 < key.size) (hs : key.size ≤ 65536) (hB : GlobB w) (hK : GlobK w) :
    Calls Tryz.prog 102 #[.string key] w fun e w' => e = .returned (.agg (bvals (tabN 64 (bt (ofN (sumN key)))))) ∧ Below w.heap.size w w' := by
  have g0 : decide ((64 : Int) < (key.size : Int)) = true := by simp; omega
  have C : Hid (∀ w, GlobB w → GlobK w → _) := fun w => sum_any key w hs
  have HB : Hid (GlobB w) := hB
  have HK : Hid (GlobK w) := hK
  have hKs := sumB_size key
  generalize ofN (sumN key) = K at *
  clear hB hK
  go_enter Tryz.func102, Tryz.ntmps102
  go_wp2_with fail
  generalize hq : World.alloc w _ = W0
  have a0 : Brr W0 124 w.heap.size (tabN 64 (cutN (bt K) 0)) := by rw [← hq]; exact Brr.new w 124 (tabN 64 (cutN (bt K) 0)) _ (by kernel_rfl)
  have hbn : Below w.heap.size w W0 := by rw [← hq]; exact below_new w _
  have hs0 : w.heap.size ≤ W0.heap.size := hbn.size
  clear hq
  refine (C.out _ (HB.out.below hbn) (HK.out.below hbn)).mono ?_
  rintro e w1 ⟨rfl, hb1⟩
  clear C
  have hB1 : Below w.heap.size w w1 := hbn.trans (hb1.mono hs0)
  have a1 : Brr w1 124 w.heap.size (tabN 64 (cutN (bt K) 0)) := a0.below hb1 a0.lt
  have hsz : w.heap.size < w1.heap.size := a1.lt
  clear a0 hbn hb1
  go_wp2_with fail
  generalize hq : World.alloc w1 _ = W
  have A0 : Hid (Brr W 124 w.heap.size (tabN 64 (cutN (bt K) 0))) := by rw [← hq]; exact a1.alloc _
  have A1 : Hid (Brr W 124 w1.heap.size (tabN 64 (cutN (bt K) 0))) := by rw [← hq]; exact Brr.new w1 124 (tabN 64 (cutN (bt K) 0)) _ (by kernel_rfl)
  have A2 : Below w.heap.size w W := by rw [← hq]; exact hB1.alloc (by omega) _
  clear hq
  obtain ⟨g, hg⟩ : ∃ g, g = w1.heap.size := ⟨_, rfl⟩
  rw [← hg] at A1 ⊢
  have hne : w.heap.size ≠ g := by omega
  have hgB : w.heap.size ≤ g := by omega
  clear hg a1 hB1 hsz
  go_loopw [12] (fun i wr => ∃ k : Nat, k ≤ K.size ∧ i = .int .i64 k ∧ Hid (Brr wr 124 w.heap.size (tabN 64 (cutN (bt K) 0))) ∧ Hid (Brr wr 124 g (tabN 64 (cutN (bt K) k))) ∧ Below w.heap.size w wr) (fun i _ => K.size - (intOf i).toNat)
  case atStart => exact ⟨0, by omega, rfl, A0, A1, A2⟩
  case round =>
    clear A0 A1 A2
    obtain ⟨k, hk, rfl, V0, V1, hbl⟩ := hrel
    by_cases hlt : k < K.size
    · have c1 := V1.out.cell k (by rw [tabN_length]; omega)
      have hfr := V1.out.free k
      have HO := V1.out.set k (bt K k)
      rw [cutN_set, ← bt_get K k hlt] at HO
      have V0' : Hid (Brr _ 124 w.heap.size _) := V0.out.other ⟨g, k, none⟩ hne (Value.int .u8 ((K[k].toNat : Nat) : Int))
      have HO' : Hid (Brr _ 124 g _) := HO
      have HBl := hbl.setCell (p := ⟨g, k, none⟩) hgB (Value.int .u8 ((K[k].toNat : Nat) : Int))
      have b0 : (k : Int) < 64 := by omega
      clear HO V0 V1
      go_wp2_with fail
      go_roundw
      case rel => exact ⟨k + 1, by omega, by go_num, V0', HO', HBl⟩
      case measure => simp [intOf]; omega
    · have hk' : k = K.size := by omega
      subst hk'
      have hV := V1.out
      rw [cut_bt] at hV
      have V1' : Hid (Brr wr 124 g (tabN 64 (bt K))) := hV
      clear hV V1
      go_wp2_with (first
        | (with_reducible refine wpList_loadBrr rfl 124 _ rfl g (tabN 64 (bt K)) ?hx V1'.out 64 5 Tryz.underlying124 ?hi ?_)
        | (with_reducible refine wpList_storeBrr rfl 124 _ _ rfl w.heap.size (tabN 64 (cutN (bt K) 0)) (tabN 64 (bt K)) ?hx2 ?hy V0.out ?hl ?hi2 ?_))
      case hx => rfl
      case hi => rw [tabN_length]; exact Tryz.brr64
      case hl => rw [tabN_length, tabN_length]
      case hi2 => rw [tabN_length]; exact Tryz.brr64
      exact bodyPost_brr rfl w.heap.size (tabN 64 (bt K)) rfl rfl (V0.out.setRow (tabN 64 (bt K))) 64 5 Tryz.underlying124 (by rw [tabN_length]; exact Tryz.brr64) ⟨rfl, below_setRow hbl (Nat.le_refl _) _⟩
theorem keyBlock_any (key : ByteArray) (w : World) (hs : key.size ≤ 65536) (hB : GlobB w) (hK : GlobK w) :
    Calls Tryz.prog 102 #[.string key] w fun e w' => e = .returned (.agg (bvals (tabN 64 (bt (keyOf key))))) ∧ Below w.heap.size w w' := by
  by_cases h : 64 < key.size
  · rw [keyOf_long key h]; exact keyBlock_long key w h hs hB hK
  · rw [keyOf_short key (by omega)]; exact keyBlock_short key w (by omega)
def blkL (f : Nat → Nat) (c : Nat) : List UInt8 := bytesOf 64 (fun i => f i ^^^ c)
theorem blkL_length (f : Nat → Nat) (c : Nat) : (blkL f c).length = 64 := bytesOf_length _ _
theorem blkL_get (f : Nat → Nat) (c : Nat) (hf : ∀ i, f i < 256) (hc : c < 256) (k : Nat) (hk : k < 64) (h : k < (nums (blkL f c)).length) : (nums (blkL f c))[k] = ((f k ^^^ c : Nat) : Int) := by
  have e : nums (blkL f c) = tab 64 (fun i => ((f i ^^^ c : Nat) : Int)) := nums_bytesOf _ _ (fun i _ => xor_lt8 _ _ (hf i) hc)
  simp only [e, tab_get _ _ k hk]
set_option maxRecDepth 100000 in
set_option maxHeartbeats 4000000 in
theorem rturned_short (K : ByteArray) (c : Nat) (w : World) (hK : K.size ≤ 64) (hc : c < 256) :
    Calls Tryz.prog 94 #[.string K, .int .u8 (c : Int)] w fun e w' => e = .returned (.string (turnB (bt K) c)) ∧ Below w.heap.size w w' := by
  have HC : Hid (c < 256) := hc
  clear hc
  have g0 : decide ((64 : Int) < (K.size : Int)) = false := by simp; omega
  obtain ⟨i0, hi, hz0, hz1, hz2⟩ := info_parts Tryz.info5
  have A2 := Below.refl w.heap.size w
  go_enter Tryz.func94, Tryz.ntmps94
  go_wp2_with fail
  go_loopw [5, 6] (fun v i wr => ∃ k : Nat, k ≤ 64 ∧ i = .int .i64 k ∧ OwnV wr w.heap.size 5 .u8 v k ((nums (blkL (bt K) c)).take k) ∧ Below w.heap.size w wr) (fun _ i _ => 64 - (intOf i).toNat)
  case atStart => exact ⟨0, Nat.zero_le _, rfl, OwnV.nil _ _ _ _, A2⟩
  case round =>
    clear A2
    obtain ⟨k, hk, rfl, hown, hbl⟩ := hrel
    have hsz := hbl.size
    by_cases hlt : k < 64
    · have hkn : k < (nums (blkL (bt K) c)).length := by rw [nums_length, blkL_length]; exact hlt
      by_cases hin : k < K.size
      · have hxr : bits .xor .u8 (K[k].toNat : Int) (c : Int) = ((K[k].toNat ^^^ c : Nat) : Int) := u8_xor_nat _ _ (byte_lt _) HC.out
        have hy : Hid ((nums (blkL (bt K) c))[k] = ((K[k].toNat ^^^ c : Nat) : Int)) := by show _ = _; rw [bt_get K k hin]; exact blkL_get _ _ (bt_lt K) HC.out k hlt hkn
        go_wp2_with (at_builtin; refine wpList_app1 rfl _ _ 68 rfl w.heap.size 5 i0 .u8 1 Tryz.underlying68 hi hz0 hz1 hz2 wr u5 k _ rfl hown _ rfl (by omega) (by omega) hsz ?_)
        intro v' w1 hown1 hbl1
        rw [take_snoc_int _ _ hkn _ hy.out] at hown1
        have HB := hbl.trans hbl1
        clear hbl1 hown
        go_wp2_with fail
        go_roundw
        case rel => exact ⟨k + 1, by omega, by go_num, hown1, HB⟩
        case measure => simp [intOf]; omega
      · have hxr : bits .xor .u8 (0 : Int) (c : Int) = (c : Int) := by
          have := u8_xor_nat 0 c (by omega) HC.out
          rw [Nat.zero_xor] at this; exact this
        have hy : Hid ((nums (blkL (bt K) c))[k] = (c : Int)) := by show _ = _; rw [blkL_get _ _ (bt_lt K) HC.out k hlt hkn, bt_out K k (by omega), Nat.zero_xor]
        go_wp2_with (at_builtin; refine wpList_app1 rfl _ _ 68 rfl w.heap.size 5 i0 .u8 1 Tryz.underlying68 hi hz0 hz1 hz2 wr u5 k _ rfl hown _ rfl (by omega) (by omega) hsz ?_)
        intro v' w1 hown1 hbl1
        rw [take_snoc_int _ _ hkn _ hy.out] at hown1
        have HB := hbl.trans hbl1
        clear hbl1 hown
        go_wp2_with fail
        go_roundw
        case rel => exact ⟨k + 1, by omega, by go_num, hown1, HB⟩
        case measure => simp [intOf]; omega
    · rw [List.take_of_length_le (by rw [nums_length, blkL_length]; omega)] at hown
      have hcv := own_conv (P := Tryz.prog) 68 9 hown Tryz.underlying68 Tryz.underlying5 Tryz.underlying9
      clear hown hi hz0 hz1 hz2
      go_wp2_with fail
      go_ret
      exact ⟨rfl, hbl⟩
set_option maxRecDepth 100000 in
set_option maxHeartbeats 4000000 in
theorem rturned_long (key : ByteArray) (c : Nat) (w : World) (hk : 64 < key.size) (hs : key.size ≤ 65536) (hc : c < 256) :
    Calls Tryz.prog 94 #[.string key, .int .u8 (c : Int)] w fun e w' => e = .returned (.string (turnB (bt (ofN (sumN key))) c)) ∧ Below w.heap.size w w' := by
  have HC : Hid (c < 256) := hc
  clear hc
  have g0 : decide ((64 : Int) < (key.size : Int)) = true := by simp; omega
  obtain ⟨i0, hi, hz0, hz1, hz2⟩ := info_parts Tryz.info5
  have C : Hid (∀ w, _) := fun w => rsum_any key w hs
  have hK := sumB_size key
  generalize ofN (sumN key) = K at *
  go_enter Tryz.func94, Tryz.ntmps94
  go_wp2_with fail
  refine (C.out _).mono ?_
  rintro e w1 ⟨rfl, A2⟩
  clear C
  go_wp2_with fail
  go_loopw [5, 6] (fun v i wr => ∃ k : Nat, k ≤ 64 ∧ i = .int .i64 k ∧ OwnV wr w.heap.size 5 .u8 v k ((nums (blkL (bt K) c)).take k) ∧ Below w.heap.size w wr) (fun _ i _ => 64 - (intOf i).toNat)
  case atStart => exact ⟨0, Nat.zero_le _, rfl, OwnV.nil _ _ _ _, A2⟩
  case round =>
    clear A2
    obtain ⟨k, hk, rfl, hown, hbl⟩ := hrel
    have hsz := hbl.size
    by_cases hlt : k < 64
    · have hkn : k < (nums (blkL (bt K) c)).length := by rw [nums_length, blkL_length]; exact hlt
      by_cases hin : k < K.size
      · have hxr : bits .xor .u8 (K[k].toNat : Int) (c : Int) = ((K[k].toNat ^^^ c : Nat) : Int) := u8_xor_nat _ _ (byte_lt _) HC.out
        have hy : Hid ((nums (blkL (bt K) c))[k] = ((K[k].toNat ^^^ c : Nat) : Int)) := by show _ = _; rw [bt_get K k hin]; exact blkL_get _ _ (bt_lt K) HC.out k hlt hkn
        go_wp2_with (at_builtin; refine wpList_app1 rfl _ _ 68 rfl w.heap.size 5 i0 .u8 1 Tryz.underlying68 hi hz0 hz1 hz2 wr u5 k _ rfl hown _ rfl (by omega) (by omega) hsz ?_)
        intro v' w1 hown1 hbl1
        rw [take_snoc_int _ _ hkn _ hy.out] at hown1
        have HB := hbl.trans hbl1
        clear hbl1 hown
        go_wp2_with fail
        go_roundw
        case rel => exact ⟨k + 1, by omega, by go_num, hown1, HB⟩
        case measure => simp [intOf]; omega
      · have hxr : bits .xor .u8 (0 : Int) (c : Int) = (c : Int) := by
          have := u8_xor_nat 0 c (by omega) HC.out
          rw [Nat.zero_xor] at this; exact this
        have hy : Hid ((nums (blkL (bt K) c))[k] = (c : Int)) := by show _ = _; rw [blkL_get _ _ (bt_lt K) HC.out k hlt hkn, bt_out K k (by omega), Nat.zero_xor]
        go_wp2_with (at_builtin; refine wpList_app1 rfl _ _ 68 rfl w.heap.size 5 i0 .u8 1 Tryz.underlying68 hi hz0 hz1 hz2 wr u5 k _ rfl hown _ rfl (by omega) (by omega) hsz ?_)
        intro v' w1 hown1 hbl1
        rw [take_snoc_int _ _ hkn _ hy.out] at hown1
        have HB := hbl.trans hbl1
        clear hbl1 hown
        go_wp2_with fail
        go_roundw
        case rel => exact ⟨k + 1, by omega, by go_num, hown1, HB⟩
        case measure => simp [intOf]; omega
    · rw [List.take_of_length_le (by rw [nums_length, blkL_length]; omega)] at hown
      have hcv := own_conv (P := Tryz.prog) 68 9 hown Tryz.underlying68 Tryz.underlying5 Tryz.underlying9
      clear hown hi hz0 hz1 hz2
      go_wp2_with fail
      go_ret
      exact ⟨rfl, hbl⟩
theorem rturned_any (key : ByteArray) (c : Nat) (w : World) (hs : key.size ≤ 65536) (hc : c < 256) :
    Calls Tryz.prog 94 #[.string key, .int .u8 (c : Int)] w fun e w' => e = .returned (.string (turnB (bt (keyOf key)) c)) ∧ Below w.heap.size w w' := by
  by_cases h : 64 < key.size
  · rw [keyOf_long key h]; exact rturned_long key c w h hs hc
  · rw [keyOf_short key (by omega)]; exact rturned_short key c w (by omega) hc
theorem exec_loadBrr {P : Program} {o : Oper} {ρ : Operand → Value} {w : World} (t : TypeId) (x : Operand) (ho : o.op = .load t x) (g : Nat) (l : List Nat) (hx : ρ x = .pointer (some ⟨g, 0, none⟩)) (h : Brr w t g l)
    (n : Nat) (e : TypeId) (hu : P.underlying t = some (.array n e)) (hi : (P.info? t).map (·.size) = some l.length) : (execOp ρ o).run P w = .ok (.value (.agg (bvals l))) w := by
  unfold execOp
  simp only [ho, hx, Instr.loadAt, Instr.sureAddr, Sem.run_bind, Sem.run_pure, Result.andThen_ok, run_loadBrr t g l h n e hu hi]
set_option maxRecDepth 100000 in
set_option maxHeartbeats 4000000 in
theorem mac_any (key s : ByteArray) (w : World) (hk : key.size ≤ 65536) (hs : s.size ≤ 65472) (hB : GlobB w) (hK : GlobK w) :
    Calls Tryz.prog 72 #[.string key, .string s] w fun e w' => e = .returned (.string (macB key s)) ∧ Below w.heap.size w w' := by
  have HB : Hid (GlobB w) := hB
  have HK : Hid (GlobK w) := hK
  have C0 : Hid (Calls _ _ _ _ _) := keyBlock_any key w hk hB hK
  obtain ⟨f, Hf⟩ : ∃ f, Hid (f = bt (keyOf key)) := ⟨_, rfl⟩
  have hf : Hid (∀ i, f i < 256) := by show ∀ i, _; rw [Hf.out]; exact bt_lt _
  rw [← Hf.out] at C0
  have C1 : Hid (∀ w, _) := fun w => hturned_any f 92 w hf.out (by decide)
  have C2 : Hid (∀ w, _) := fun w => hturned_any f 54 w hf.out (by decide)
  obtain ⟨A, HA⟩ : ∃ A, Hid (A = turnB f 92) := ⟨_, rfl⟩
  obtain ⟨I, HI⟩ : ∃ I, Hid (I = turnB f 54) := ⟨_, rfl⟩
  have hAs : A.size = 64 := by rw [HA.out]; exact turnB_size _ _
  have hIs : I.size = 64 := by rw [HI.out]; exact turnB_size _ _
  rw [← HA.out] at C1
  rw [← HI.out] at C2
  obtain ⟨M, HM⟩ : ∃ M, Hid (M = ofN (sumN (I ++ s))) := ⟨_, rfl⟩
  have hMs : M.size = 32 := by rw [HM.out]; exact sumB_size _
  have C3 : Hid (∀ w, GlobB w → GlobK w → _) := fun w => sum_any (I ++ s) w (by rw [ByteArray.size_append]; omega)
  have C4 : Hid (∀ w, GlobB w → GlobK w → _) := fun w => sum_any (A ++ M) w (by rw [ByteArray.size_append]; omega)
  rw [← HM.out] at C3
  have HZ : Hid (macB key s = ofN (sumN (A ++ M))) := by show _ = _; rw [HM.out, HA.out, HI.out, Hf.out]; rfl
  obtain ⟨Z, hZ⟩ : ∃ Z, Z = ofN (sumN (A ++ M)) := ⟨_, rfl⟩
  rw [← hZ] at C4 HZ
  have hsum1 : ¬ (9223372036854775807 < I.size + s.size) := by omega
  have hsum2 : ¬ (9223372036854775807 < A.size + M.size) := by omega
  clear hB hK hZ HA HI HM Hf hf hAs hIs hMs
  go_enter Tryz.func72, Tryz.ntmps72
  go_wp2_with fail
  refine C0.out.mono ?_
  rintro e w1 ⟨rfl, hb1⟩
  clear C0
  go_wp2_with (with_reducible refine wpList_storeBrr rfl 124 _ _ rfl w1.heap.size (tabN 64 (cutN f 0)) (tabN 64 f) ?hx ?hy ?ha ?hl ?hi ?_)
  case hx => rfl
  case hy => rfl
  case ha => exact Brr.new w1 _ _ _ (by kernel_rfl)
  case hl => rw [tabN_length, tabN_length]
  case hi => rw [tabN_length]; exact Tryz.brr64
  rw [World.setRow_alloc_new]
  simp only [Act.put]
  generalize hq : World.alloc w1 _ = w2
  have V0 : Brr w2 124 w1.heap.size (tabN 64 f) := by rw [← hq]; exact Brr.new w1 124 _ _ rfl
  have hB2 : Hid (Below w.heap.size w w2) := by rw [← hq]; exact hb1.alloc hb1.size _
  have hg2 : w1.heap.size < w2.heap.size := V0.lt
  clear hq
  obtain ⟨g, hg⟩ : ∃ g, g = w1.heap.size := ⟨_, rfl⟩
  rw [← hg] at V0 hg2 ⊢
  clear hb1 hg
  go_wp2_with fail
  refine wp_region_noPanic ?_
  refine wp_region_held_drew (S := fun w' => Brr w' 124 g (tabN 64 f)) (by kernel_rfl) (by first | exact trivial | assumption | exact ⟨by assumption, by assumption⟩) (fun hHeld => ?_)
  refine take_at (i := 0) (v := .agg (bvals (tabN 64 f))) rfl rfl (by kernel_rfl) (by kernel_rfl) (by kernel_rfl) (fun _ _ _ h => h) (Or.inl ⟨by rfl, ?_⟩) (by assumption) ?_
  · intro w' hSw
    exact exec_loadBrr 124 _ rfl g (tabN 64 f) rfl hSw 64 5 Tryz.underlying124 (by rw [tabN_length]; exact Tryz.brr64)
  try go_frame
  refine take_at (i := 2) (v := .agg (bvals (tabN 64 f))) rfl rfl (by kernel_rfl) (by kernel_rfl) (by kernel_rfl) (fun _ _ _ h => h) (Or.inl ⟨by rfl, ?_⟩) (by assumption) ?_
  · intro w' hSw
    exact exec_loadBrr 124 _ rfl g (tabN 64 f) rfl hSw 64 5 Tryz.underlying124 (by rw [tabN_length]; exact Tryz.brr64)
  try go_frame
  refine take_at (i := 4) (v := ?_) rfl rfl (by kernel_rfl) (by kernel_rfl) (by kernel_rfl) (fun _ _ _ h => h) (Or.inl ⟨by rfl, ?_⟩) (by assumption) ?_
  rotate_left
  · intro w hSw; (try dsimp only at hSw); go_simp; try with_reducible rfl
  try go_frame
  refine wpAnyH_ready (rs := [1]) (by kernel_rfl) (by simp) ?_
  refine AllReadyH.cons rfl (fun K hK => ?_) AllReadyH.nil
  go_simp
  refine (C1.out _).mono ?_
  rintro e w3 ⟨rfl, hb3⟩
  have V3 : Brr w3 124 g (tabN 64 f) := Brr.below (w := w2.drew) V0 hb3 hg2
  have hB3 : Hid (Below w.heap.size w w3) := below_step hB2.out.drew (Nat.le_refl _) hb3
  have hg3 : g < w3.heap.size := V3.lt
  clear hb3 C1
  refine hK.out _ _ V3 (fun hHeld => ?_)
  clear hK K
  refine wpAnyH_ready (rs := [3]) (by kernel_rfl) (by simp) ?_
  refine AllReadyH.cons rfl (fun K hK => ?_) AllReadyH.nil
  go_simp
  refine (C2.out _).mono ?_
  rintro e w4 ⟨rfl, hb4⟩
  have V4 := V3.below hb4 hg3
  have hB4 : Hid (Below w.heap.size w w4) := below_step hB3.out (Nat.le_refl _) hb4
  have hg4 : g < w4.heap.size := V4.lt
  clear hb4 C2 V3 hB3 hg3 V0 hB2 hg2
  refine hK.out _ _ V4 (fun hHeld => ?_)
  clear hK K
  refine take_at (i := 5) (v := ?_) rfl rfl (by kernel_rfl) (by kernel_rfl) (by kernel_rfl) (fun _ _ _ h => h) (Or.inl ⟨by rfl, ?_⟩) (by assumption) ?_
  rotate_left
  · intro w hSw; (try dsimp only at hSw); go_simp; try with_reducible rfl
  try go_frame
  refine wpAnyH_ready (rs := [6]) (by kernel_rfl) (by simp) ?_
  refine AllReadyH.cons rfl (fun K hK => ?_) AllReadyH.nil
  go_simp
  refine (C3.out _ (HB.out.below hB4.out) (HK.out.below hB4.out)).mono ?_
  rintro e w5 ⟨rfl, hb5⟩
  have V5 := V4.below hb5 hg4
  have hB5 : Hid (Below w.heap.size w w5) := below_step hB4.out (Nat.le_refl _) hb5
  have hg5 : g < w5.heap.size := V5.lt
  clear hb5 C3 V4 hB4 hg4
  refine hK.out _ _ V5 (fun hHeld => ?_)
  clear hK K
  refine take_at (i := 7) (v := ?_) rfl rfl (by kernel_rfl) (by kernel_rfl) (by kernel_rfl) (fun _ _ _ h => h) (Or.inl ⟨by rfl, ?_⟩) (by assumption) ?_
  rotate_left
  · intro w hSw; (try dsimp only at hSw); go_simp; try with_reducible rfl
  try go_frame
  refine wpAnyH_ready (rs := [8]) (by kernel_rfl) (by simp) ?_
  refine AllReadyH.cons rfl (fun K hK => ?_) AllReadyH.nil
  go_simp
  refine (C4.out _ (HB.out.below hB5.out) (HK.out.below hB5.out)).mono ?_
  rintro e w6 ⟨rfl, hb6⟩
  have V6 := V5.below hb6 hg5
  have hB6 : Hid (Below w.heap.size w w6) := below_step hB5.out (Nat.le_refl _) hb6
  clear hb6 C4 V5 hB5 hg5
  refine hK.out _ _ V6 (fun hHeld => ?_)
  clear hK K
  refine take_at (i := 9) (v := ?_) rfl rfl (by kernel_rfl) (by kernel_rfl) (by kernel_rfl) (fun _ _ _ h => h) (Or.inl ⟨by rfl, ?_⟩) (by assumption) ?_
  rotate_left
  · intro w hSw; (try dsimp only at hSw); go_simp; try with_reducible rfl
  try go_frame
  refine wpAnyH_done (by kernel_rfl) (NoPanic.normal ?_) _
  go_wp2_with fail
  go_ret
  exact ⟨by rw [HZ.out]; rfl, hB6.out⟩
set_option maxRecDepth 100000 in
set_option maxHeartbeats 4000000 in
theorem rmac_any (key s : ByteArray) (w : World) (hk : key.size ≤ 65536) (hs : s.size ≤ 65472) :
    Calls Tryz.prog 67 #[.string key, .string s] w fun e w' => e = .returned (.string (macB key s)) ∧ Below w.heap.size w w' := by
  have C1 : Hid (∀ w, _) := fun w => rturned_any key 92 w hk (by decide)
  have C2 : Hid (∀ w, _) := fun w => rturned_any key 54 w hk (by decide)
  obtain ⟨A, HA⟩ : ∃ A, Hid (A = turnB (bt (keyOf key)) 92) := ⟨_, rfl⟩
  obtain ⟨I, HI⟩ : ∃ I, Hid (I = turnB (bt (keyOf key)) 54) := ⟨_, rfl⟩
  have hAs : A.size = 64 := by rw [HA.out]; exact turnB_size _ _
  have hIs : I.size = 64 := by rw [HI.out]; exact turnB_size _ _
  rw [← HA.out] at C1
  rw [← HI.out] at C2
  obtain ⟨M, HM⟩ : ∃ M, Hid (M = ofN (sumN (I ++ s))) := ⟨_, rfl⟩
  have hMs : M.size = 32 := by rw [HM.out]; exact sumB_size _
  have C3 : Hid (∀ w, _) := fun w => rsum_any (I ++ s) w (by rw [ByteArray.size_append]; omega)
  have C4 : Hid (∀ w, _) := fun w => rsum_any (A ++ M) w (by rw [ByteArray.size_append]; omega)
  rw [← HM.out] at C3
  have HZ : Hid (macB key s = ofN (sumN (A ++ M))) := by show _ = _; rw [HM.out, HA.out, HI.out]; rfl
  obtain ⟨Z, hZ⟩ : ∃ Z, Z = ofN (sumN (A ++ M)) := ⟨_, rfl⟩
  rw [← hZ] at C4 HZ
  have hsum1 : ¬ (9223372036854775807 < I.size + s.size) := by omega
  have hsum2 : ¬ (9223372036854775807 < A.size + M.size) := by omega
  clear hZ HA HI HM hAs hIs hMs
  go_enter Tryz.func67, Tryz.ntmps67
  go_wp2_with fail
  refine (C1.out _).mono ?_
  rintro e w1 ⟨rfl, hb1⟩
  go_wp2_with fail
  refine (C2.out _).mono ?_
  rintro e w2 ⟨rfl, hb2⟩
  have hB2 := below_step hb1 (Nat.le_refl _) hb2
  go_wp2_with fail
  refine (C3.out _).mono ?_
  rintro e w3 ⟨rfl, hb3⟩
  have hB3 := below_step hB2 (Nat.le_refl _) hb3
  go_wp2_with fail
  refine (C4.out _).mono ?_
  rintro e w4 ⟨rfl, hb4⟩
  have hB4 := below_step hB3 (Nat.le_refl _) hb4
  go_wp2_with fail
  go_ret
  exact ⟨by rw [HZ.out]; rfl, hB4⟩
end Go.Proofs.YtabhkebkbidfhaaGreatDoor

namespace Go.Proofs.YtabhkebkbidfhaaGreatDoor
open Go.RowKit
set_option maxRecDepth 100000
set_option linter.unusedSimpArgs false
def partB (key p : ByteArray) : Nat → ByteArray
  | 0 => ⟨#[]⟩
  | i + 1 => macB key (partB key p i ++ p ++ oneByte (i + 1))
def partsB (key p : ByteArray) : Nat → ByteArray
  | 0 => ⟨#[]⟩
  | i + 1 => partsB key p i ++ partB key p (i + 1)
def expandB (key p : ByteArray) (n : Nat) : ByteArray := (partsB key p ((n + 31) / 32)).extract 0 n
theorem partB_succ (key p : ByteArray) (i : Nat) : partB key p (i + 1) = macB key (partB key p i ++ p ++ oneByte (i + 1)) := rfl
theorem partsB_succ (key p : ByteArray) (i : Nat) : partsB key p (i + 1) = partsB key p i ++ partB key p (i + 1) := rfl
theorem partB_size (key p : ByteArray) (i : Nat) : (partB key p (i + 1)).size = 32 := macB_size _ _
theorem partB_le (key p : ByteArray) (i : Nat) : (partB key p i).size ≤ 32 := by
  cases i with
  | zero => exact Nat.zero_le _
  | succ i => rw [partB_size]; omega
theorem partsB_size (key p : ByteArray) (i : Nat) : (partsB key p i).size = 32 * i := by
  induction i with
  | zero => rfl
  | succ i ih => rw [partsB_succ, ByteArray.size_append, ih, partB_size]; omega
theorem expandB_size (key p : ByteArray) (n : Nat) : (expandB key p n).size = n := by
  unfold expandB; rw [ByteArray.size_extract, partsB_size]; omega
set_option maxRecDepth 100000 in
set_option maxHeartbeats 4000000 in
theorem expand_ok (key p : ByteArray) (n : Nat) (w : World) (hk' : key.size ≤ 65536) (hp : p.size ≤ 65000) (hn : n ≤ 8160) (hB : GlobB w) (hK : GlobK w) :
    Calls Tryz.prog 49 #[.string key, .string p, .int .i64 (n : Int)] w fun e w' => e = .returned (.tuple #[.string (expandB key p n), .int .i64 0]) ∧ Below w.heap.size w w' := by
  have HB : Hid (GlobB w) := hB
  have HK : Hid (GlobK w) := hK
  obtain ⟨i0, hi, hz0, hz1, hz2⟩ := info_parts Tryz.info5
  obtain ⟨m, Hm⟩ : ∃ m, Hid (m = (n + 31) / 32) := ⟨_, rfl⟩
  have hm : m ≤ 255 := by rw [Hm.out]; omega
  have hnm : n ≤ 32 * m := by rw [Hm.out]; omega
  have hq : Int.tdiv ((n : Int) + 32 - 1) 32 = (m : Int) := by rw [Hm.out, Int.tdiv_eq_ediv_of_nonneg (by omega)]; omega
  have g0 : decide ((n : Int) < 0) = false := by simp
  have g1 : decide ((8160 : Int) < (n : Int)) = false := by simp; omega
  obtain ⟨E, HE⟩ : ∃ E, Hid (E = expandB key p n) := ⟨_, rfl⟩
  rw [← HE.out]
  clear hB hK
  go_enter Tryz.func49, Tryz.ntmps49
  go_wp2_with (at_make; refine wpList_make_own _ rfl _ _ 68 rfl w.heap.size 5 i0 (.int .u8 0) 1 Tryz.underlying68 hi hz0 hz1 _ _ _ (32 * m) rfl rfl ?b5 ?b1 ?b2 ?b3 ?_)
  case b5 => omega
  case b1 => rw [hz2]; omega
  case b2 => unfold maxLen; omega
  case b3 => omega
  intro w1 hown0 hgrow
  have hbl0 : Below w.heap.size w w1 := (Below.refl _ _).grown hgrow (Nat.le_refl _) (fun k hk => by cases hk)
  have HX : Hid (∀ k, (partB key p k).size ≤ 32) := partB_le key p
  clear hgrow
  go_wp2
  go_loopw [9, 10, 26] (fun a l i wr => ∃ k : Nat, k ≤ m ∧ i = .int .i64 k ∧ l = .string (partB key p k) ∧ a = .slice (some ⟨w.heap.size, 0, none⟩) (32 * k) (32 * m) ∧ wr.ownsRow w.heap.size 5 1 (.slice (some ⟨w.heap.size, 0, none⟩) (32 * k) (32 * m)) (32 * k) (Lib.strCells (partsB key p k)) ∧ Below w.heap.size w wr) (fun _ _ i _ => m - (intOf i).toNat)
  case atStart => exact ⟨0, Nat.zero_le _, rfl, rfl, rfl, hown0, hbl0⟩
  case round =>
    clear hown0 hbl0
    obtain ⟨k, hk, rfl, rfl, rfl, hown, hbl⟩ := hrel
    by_cases hlt : k < m
    · obtain ⟨T, hT⟩ : ∃ T, T = partB key p k := ⟨_, rfl⟩
      have hTs : T.size ≤ 32 := by rw [hT]; exact HX.out k
      have hcv : ∀ w : World, (convert 68 9 (.slice (some ⟨w.heap.size, 0, none⟩) 1 1)).run Tryz.prog (w.alloc (.cells #[.int .u8 ((k : Int) + 1)] 5)) = .ok (.string (oneByte (k + 1))) (w.alloc (.cells #[.int .u8 ((k : Int) + 1)] 5)) :=
        fun w => one_conv w (k + 1) (by omega) 5 68 9 Tryz.underlying68 Tryz.underlying5 Tryz.underlying9
      obtain ⟨U, hU⟩ : ∃ U, T ++ p = U := ⟨_, rfl⟩
      have hUs : U.size = T.size + p.size := by rw [← hU, ByteArray.size_append]
      obtain ⟨O, hO⟩ : ∃ O, O = oneByte (k + 1) := ⟨_, rfl⟩
      have hOs : O.size = 1 := by rw [hO]; rfl
      obtain ⟨V, hV⟩ : ∃ V, U ++ O = V := ⟨_, rfl⟩
      have hVs : V.size = U.size + O.size := by rw [← hV, ByteArray.size_append]
      have C : Hid (∀ w, GlobB w → GlobK w → _) := fun w => mac_any key V w hk' (by omega)
      obtain ⟨T', hT'⟩ : ∃ T', Hid (T' = partB key p (k + 1)) := ⟨_, rfl⟩
      have eT : macB key V = T' := by rw [hT'.out, partB_succ, ← hT, hU, ← hO, hV]
      have hTs' : T'.size = 32 := by rw [hT'.out]; exact partB_size _ _ _
      rw [eT] at C
      rw [← hO] at hcv
      have hsum1 : ¬ (9223372036854775807 < T.size + p.size) := by omega
      have hsum2 : ¬ (9223372036854775807 < U.size + O.size) := by omega
      rw [← hT]
      clear hO eT hT hVs hOs hUs
      go_wp2_with fail
      have hsz := hbl.size
      have hbx : Below w.heap.size w (wr.alloc (.cells #[.int .u8 ((k : Int) + 1)] 5)) := hbl.alloc hsz _
      have hox := World.ownsRow.alloc hown (.cells #[.int .u8 ((k : Int) + 1)] 5)
      generalize wr.alloc _ = wx at *
      clear hown hbl hsz
      refine (C.out _ (HB.out.below hbx) (HK.out.below hbx)).mono ?_
      rintro e w2 ⟨rfl, hb2⟩
      have hB2 := below_step hbx (Nat.le_refl _) hb2
      have ho2 := owns_below hox hb2 (Nat.lt_of_lt_of_le (owns_lt hox) (Nat.le_refl _))
      clear hox hbx hb2 C hcv
      go_wp2_with (at_builtin; refine Lib.wpList_append_fits_string _ rfl _ _ 68 9 rfl w.heap.size 5 i0 Tryz.underlying68 Tryz.underlying9 hi hz1 _ _ _ _ rfl ho2 T' rfl (by omega) (by omega) ?_)
      intro w3 ho3 hg3
      have hB3 : Below w.heap.size w w3 := hB2.grown hg3 hB2.size (fun k hk => by cases hk; exact Nat.le_refl _)
      rw [← strCells_append, show 32 * k + 32 = 32 * (k + 1) by omega] at ho3
      rw [show 32 * k + 32 = 32 * (k + 1) by omega]
      clear ho2 hB2 hg3
      go_wp2
      go_roundw
      case rel => exact ⟨k + 1, by omega, by go_num, by rw [hT'.out], rfl, by rw [partsB_succ, ← hT'.out]; exact ho3, hB3⟩
      case measure => simp [intOf]; omega
    · have hk' : k = m := by omega
      subst hk'
      have hcv := (row_of_owns hown).conv (P := Tryz.prog) (bt_lt _) n (32 * k) (by rw [partsB_size]; exact hnm) 68 9 Tryz.underlying68 Tryz.underlying5 Tryz.underlying9
      rw [bytesOf_extract _ n (by rw [partsB_size]; exact hnm), Hm.out] at hcv
      have hcv' : _ = Result.ok (Value.string (expandB key p n)) wr := hcv
      rw [← Hm.out, ← HE.out] at hcv'
      clear hcv
      clear hown
      go_wp2
      go_ret2
      exact ⟨rfl, hbl⟩
set_option maxRecDepth 100000 in
set_option maxHeartbeats 4000000 in
theorem rexpand_ok (key p : ByteArray) (n : Nat) (w : World) (hk' : key.size ≤ 65536) (hp : p.size ≤ 65000) (hn : n ≤ 8160) :
    Calls Tryz.prog 44 #[.string key, .string p, .int .i64 (n : Int)] w fun e w' => e = .returned (.tuple #[.string (expandB key p n), .int .i64 0]) ∧ Below w.heap.size w w' := by
  obtain ⟨m, Hm⟩ : ∃ m, Hid (m = (n + 31) / 32) := ⟨_, rfl⟩
  have hm : m ≤ 255 := by rw [Hm.out]; omega
  have hnm : n ≤ 32 * m := by rw [Hm.out]; omega
  have g0 : decide ((n : Int) < 0) = false := by simp
  have g1 : decide ((8160 : Int) < (n : Int)) = false := by simp; omega
  obtain ⟨E, HE⟩ : ∃ E, Hid (E = expandB key p n) := ⟨_, rfl⟩
  rw [← HE.out]
  have HX : Hid (∀ k, (partB key p k).size ≤ 32) := partB_le key p
  go_enter Tryz.func44, Tryz.ntmps44
  go_wp2
  go_loopw [8, 9, 10] (fun a l i wr => ∃ k : Nat, k ≤ m ∧ i = .int .i64 ((k : Int) + 1) ∧ l = .string (partB key p k) ∧ a = .string (partsB key p k) ∧ Below w.heap.size w wr) (fun _ _ i _ => m + 1 - (intOf i).toNat)
  case atStart => exact ⟨0, Nat.zero_le _, rfl, rfl, rfl, Below.refl _ _⟩
  case round =>
    obtain ⟨k, hk, rfl, rfl, rfl, hbl⟩ := hrel
    obtain ⟨X, HX'⟩ : ∃ X, Hid (X = partsB key p k) := ⟨_, rfl⟩
    have hXs : X.size = 32 * k := by rw [HX'.out]; exact partsB_size _ _ _
    rw [← HX'.out]
    by_cases hlt : k < m
    · have g2 : decide (X.size < n) = true := by simp; have := Hm.out; omega
      obtain ⟨T, hT⟩ : ∃ T, T = partB key p k := ⟨_, rfl⟩
      have hTs : T.size ≤ 32 := by rw [hT]; exact HX.out k
      have hcv : ∀ w : World, (convert 68 9 (.slice (some ⟨w.heap.size, 0, none⟩) 1 1)).run Tryz.prog (w.alloc (.cells #[.int .u8 ((k : Int) + 1)] 5)) = .ok (.string (oneByte (k + 1))) (w.alloc (.cells #[.int .u8 ((k : Int) + 1)] 5)) :=
        fun w => one_conv w (k + 1) (by omega) 5 68 9 Tryz.underlying68 Tryz.underlying5 Tryz.underlying9
      obtain ⟨U, hU⟩ : ∃ U, T ++ p = U := ⟨_, rfl⟩
      have hUs : U.size = T.size + p.size := by rw [← hU, ByteArray.size_append]
      obtain ⟨O, hO⟩ : ∃ O, O = oneByte (k + 1) := ⟨_, rfl⟩
      have hOs : O.size = 1 := by rw [hO]; rfl
      obtain ⟨V, hV⟩ : ∃ V, U ++ O = V := ⟨_, rfl⟩
      have hVs : V.size = U.size + O.size := by rw [← hV, ByteArray.size_append]
      have C : Hid (∀ w, _) := fun w => rmac_any key V w hk' (by omega)
      obtain ⟨T', hT'⟩ : ∃ T', Hid (T' = partB key p (k + 1)) := ⟨_, rfl⟩
      have eT : macB key V = T' := by rw [hT'.out, partB_succ, ← hT, hU, ← hO, hV]
      have hTs' : T'.size = 32 := by rw [hT'.out]; exact partB_size _ _ _
      rw [eT] at C
      rw [← hO] at hcv
      have hsum1 : ¬ (9223372036854775807 < T.size + p.size) := by omega
      have hsum2 : ¬ (9223372036854775807 < U.size + O.size) := by omega
      have hsum3 : ¬ (9223372036854775807 < X.size + T'.size) := by omega
      rw [← hT]
      clear hO eT hT hVs hOs hUs hXs
      go_wp2_with fail
      have hbx : Below w.heap.size w (wr.alloc (.cells #[.int .u8 ((k : Int) + 1)] 5)) := hbl.alloc hbl.size _
      generalize wr.alloc _ = wx at *
      clear hbl
      refine (C.out _).mono ?_
      rintro e w2 ⟨rfl, hb2⟩
      have hB2 := below_step hbx (Nat.le_refl _) hb2
      clear hbx hb2 C hcv
      go_wp2
      go_roundw
      case rel => exact ⟨k + 1, by omega, by go_num, by rw [hT'.out], by rw [partsB_succ, ← hT'.out, ← HX'.out], hB2⟩
      case measure => simp [intOf]; omega
    · have hk' : k = m := by omega
      subst hk'
      have g2 : decide (X.size < n) = false := by simp; omega
      have hex : X.extract 0 n = E := by rw [HE.out, HX'.out, Hm.out]; rfl
      have hle : n ≤ X.size := by omega
      clear hXs
      go_wp2
      go_ret2
      exact ⟨rfl, hbl⟩
theorem empty_append (s : ByteArray) : (⟨#[]⟩ : ByteArray) ++ s = s := by apply bytes_ext; simp
end Go.Proofs.YtabhkebkbidfhaaGreatDoor
