import Derived.Test.YtaefhdegldphhaaArith
import Derived.Test.YtaefhdegldphhaaTurnsWalk
namespace Go.Proofs.Ytaefhdegldphhaa
open Go.RowKit

theorem i64_xor_nat (a b : Nat) (ha : a < 9223372036854775808) (hb : b < 9223372036854775808) : bits .xor .i64 (a : Int) (b : Int) = ((a ^^^ b : Nat) : Int) := by
  have ha' : a % 2 ^ IntKind.i64.bits = a := Nat.mod_eq_of_lt (Nat.lt_of_lt_of_le ha (by decide))
  have hb' : b % 2 ^ IntKind.i64.bits = b := Nat.mod_eq_of_lt (Nat.lt_of_lt_of_le hb (by decide))
  have hx : a ^^^ b < 9223372036854775808 := Nat.xor_lt_two_pow (n := 63) ha hb
  simp only [bits, BitVec.ofInt_natCast, BitVec.toNat_xor, BitVec.toNat_ofNat, ha', hb']
  exact wraps_i64 _ (Int.natCast_nonneg _) (by omega)

/-- A number put as four bytes. -/
def four4 (x : Int) : ByteArray := ⟨(putL [x] bsh).toArray⟩
theorem four4_size (x : Int) : (four4 x).size = 4 := by
  show (putL [x] bsh).toArray.size = 4
  rw [List.size_toArray, putL_length]; rfl
theorem xorL_bt (s t : ByteArray) (j : Nat) (hs : j < s.size) (ht : j < t.size) : bt ⟨(xorL s t).toArray⟩ j = bt s j ^^^ bt t j := by
  rw [bt_mk]
  unfold bt xorL
  have h1 : j < s.data.toList.length := by simpa using hs
  have h2 : j < t.data.toList.length := by simpa using ht
  simp [List.getD, List.getElem?_eq_getElem h1, List.getElem?_eq_getElem h2, List.getElem?_zipWith]
theorem four4_bt (x : Int) (j : Nat) (h : j < 4) : bt (four4 x) j = (x / ((2 ^ bsh j : Nat) : Int) % 256).toNat := by
  unfold four4
  rw [putL_bt [x] bsh j (by simpa using h)]
  unfold pb
  rw [show j / 4 = 0 by omega]; rfl
theorem four4_word (x : Int) (X : Nat) (hX : X < 4294967296) (ex : x % 4294967296 = (X : Int)) : bigW (bt (four4 x) 0) (bt (four4 x) 1) (bt (four4 x) 2) (bt (four4 x) 3) = X := by
  rw [bigW_sum _ _ _ _ (bt_lt _ _) (bt_lt _ _) (bt_lt _ _), four4_bt _ _ (by decide), four4_bt _ _ (by decide), four4_bt _ _ (by decide), four4_bt _ _ (by decide)]
  rw [show (2 ^ bsh 0 : Nat) = 16777216 from rfl, show (2 ^ bsh 1 : Nat) = 65536 from rfl, show (2 ^ bsh 2 : Nat) = 256 from rfl, show (2 ^ bsh 3 : Nat) = 1 from rfl]
  omega
theorem mix_words (x y : Int) (X Y : Nat) (hX : X < 4294967296) (hY : Y < 4294967296) (ex : x % 4294967296 = (X : Int)) (ey : y % 4294967296 = (Y : Int)) :
    wordsL ⟨(xorL (four4 x) (four4 y)).toArray⟩ bsh = [((X ^^^ Y : Nat) : Int)] := by
  have hs : (⟨(xorL (four4 x) (four4 y)).toArray⟩ : ByteArray).size = 4 := by
    show (xorL (four4 x) (four4 y)).toArray.size = 4
    rw [List.size_toArray, xorL_length _ _ (by rw [four4_size, four4_size]), four4_size]
  have e : wordsL ⟨(xorL (four4 x) (four4 y)).toArray⟩ bsh = [((wAt ⟨(xorL (four4 x) (four4 y)).toArray⟩ bsh (⟨(xorL (four4 x) (four4 y)).toArray⟩ : ByteArray).size 0 : Nat) : Int)] := by
    unfold wordsL; rw [hs]; rfl
  have b := fun j hj => xorL_bt (four4 x) (four4 y) j (by rw [four4_size]; exact hj) (by rw [four4_size]; exact hj)
  rw [e, wAt_big _ 0 (by rw [hs]; decide)]
  rw [b _ (by decide), b _ (by decide), b _ (by decide), b _ (by decide), bigW_xor _ _ _ _ _ _ _ _ (bt_lt _ _) (bt_lt _ _) (bt_lt _ _) (bt_lt _ _) (bt_lt _ _) (bt_lt _ _)]
  rw [show 4 * 0 = 0 from rfl, show 0 + 1 = 1 from rfl, show 0 + 2 = 2 from rfl, show 0 + 3 = 3 from rfl, four4_word x X hX ex, four4_word y Y hY ey]

theorem mix_size (x y : Int) : (⟨(xorL (four4 x) (four4 y)).toArray⟩ : ByteArray).size = 4 := by
  show (xorL (four4 x) (four4 y)).toArray.size = 4
  rw [List.size_toArray, xorL_length _ _ (by rw [four4_size, four4_size]), four4_size]

theorem mix_big (x y : Int) (X Y : Nat) (hX : X < 4294967296) (hY : Y < 4294967296) (ex : x % 4294967296 = (X : Int)) (ey : y % 4294967296 = (Y : Int)) (w : World) :
    Calls Try.prog 13 #[.string ⟨(xorL (four4 x) (four4 y)).toArray⟩] w fun e w' => e = .returned (.tuple #[.slice (some ⟨w.heap.size, 0, none⟩) 1 1, .int .i64 0]) ∧ IntsAt w' .i64 (some ⟨w.heap.size, 0, none⟩) 1 [((X ^^^ Y : Nat) : Int)] ∧ Below w.heap.size w w' := by
  refine (big_even _ w (by rw [mix_size]; decide) (by rw [mix_size])).mono ?_
  rintro e w' ⟨rfl, ho, h⟩
  have hi := ho.ints
  rw [mix_words x y X Y hX hY ex ey, mix_size] at hi
  rw [mix_size]
  exact ⟨rfl, hi, h⟩

theorem mix_put (x : Int) (g : Nat) (w : World) (hI : IntsAt w .i64 (some ⟨g, 0, none⟩) 1 [x]) :
    Calls Try.prog 16 #[.slice (some ⟨g, 0, none⟩) 1 1] w fun e w' => e = .returned (.string (four4 x)) ∧ Below w.heap.size w w' :=
  putBig_any _ 1 1 [x] w (by decide) hI

theorem mix_xor (x y : Int) (w : World) :
    Calls Try.prog 23 #[.string (four4 x), .string (four4 y)] w fun e w' => e = .returned (.tuple #[.string ⟨(xorL (four4 x) (four4 y)).toArray⟩, .int .i64 0]) ∧ Below w.heap.size w w' :=
  xor_len _ _ w (by rw [four4_size]; decide) (by rw [four4_size, four4_size])

set_option maxHeartbeats 400000 in
theorem wordMixes_nat (x y n : Int) (X Y k : Nat) (hX : X < 4294967296) (hY : Y < 4294967296) (hk : k < 32) (ex : x % 4294967296 = (X : Int)) (ey : y % 4294967296 = (Y : Int)) (en : n % 32 = (k : Int)) (w : World) :
    Calls Try.prog 8 #[.int .i64 x, .int .i64 y, .int .i64 n] w fun e w' => e = .returned (.bool true) ∧ Below w.heap.size w w' := by
  have hZ : X ^^^ Y < 4294967296 := Nat.xor_lt_two_pow (n := 32) hX hY
  have hrX := rotN_lt X k hX
  have hrY := rotN_lt Y k hY
  have c1 := fun w => word_any x w
  have c2 := fun w => word_any y w
  rw [ex] at c1
  rw [ey] at c2
  have c3 := fun w => rot_nat ((X ^^^ Y : Nat) : Int) n (X ^^^ Y) k hZ hk w (by omega) en
  rw [rotN_xor X Y k hX hY hk] at c3
  have c4 := fun w => rot_nat (X : Int) n X k hX hk w (by omega) en
  have c5 := fun w => rot_nat (Y : Int) n Y k hY hk w (by omega) en
  have c6 := fun w => mix_big x y X Y hX hY ex ey w
  have m1 := i64_xor_nat X Y (by omega) (by omega)
  have m2 := i64_xor_nat (rotN X k) (rotN Y k) (by omega) (by omega)
  have C1 : Hid (∀ w, _) := c1
  have C2 : Hid (∀ w, _) := c2
  have C3 : Hid (∀ w, _) := c3
  have C4 : Hid (∀ w, _) := c4
  have C5 : Hid (∀ w, _) := c5
  have C6 : Hid (∀ w, _) := c6
  clear c1 c2 c3 c4 c5 c6 ex ey en
  go_enter Try.func8, Try.ntmps8
  go_wp2_with fail
  refine (C1.out _).mono ?_
  rintro e w1 ⟨rfl, rfl⟩
  go_wp2_with fail
  refine (C2.out _).mono ?_
  rintro e w2 ⟨rfl, rfl⟩
  go_wp2_with fail
  refine (C3.out _).mono ?_
  rintro e w3 ⟨rfl, rfl⟩
  go_wp2_with fail
  refine (C4.out _).mono ?_
  rintro e w4 ⟨rfl, rfl⟩
  go_wp2_with fail
  refine (C5.out _).mono ?_
  rintro e w5 ⟨rfl, rfl⟩
  go_wp2_with fail
  refine (mix_put x _ _ (ints_lit _ _ _ _)).mono ?_
  rintro e w6 ⟨rfl, hb6⟩
  go_wp2_with fail
  refine (mix_put y _ _ (ints_lit _ _ _ _)).mono ?_
  rintro e w7 ⟨rfl, hb7⟩
  go_wp2_with fail
  refine (mix_xor x y _).mono ?_
  rintro e w8 ⟨rfl, hb8⟩
  go_wp2_with fail
  refine (C6.out _).mono ?_
  rintro e w9 ⟨rfl, hi9, hb9⟩
  have HI9 : Hid (IntsAt w9 _ _ _ _) := hi9
  clear hi9
  go_wp2_with fail
  refine (sameInts_any _ _ 1 _ _ [((X ^^^ Y : Nat) : Int)] _ (by omega) (HI9.out.below (below_new _ _)) (ints_lit _ _ _ _)).mono ?_
  rintro e w10 ⟨rfl, hb10⟩
  go_wp2_with fail
  refine (words_any _).mono ?_
  rintro e w11 ⟨rfl, hb11⟩
  go_wp2_with fail
  go_ret
  refine ⟨rfl, ?_⟩
  refine below_step ?_ (Nat.le_refl _) hb11
  refine below_step ?_ (Nat.le_refl _) hb10
  refine below_step ?_ (Nat.le_refl _) (below_new _ _)
  refine below_step ?_ (Nat.le_refl _) hb9
  refine below_step ?_ (Nat.le_refl _) hb8
  refine below_step ?_ (Nat.le_refl _) hb7
  refine below_step ?_ (Nat.le_refl _) (below_new _ _)
  refine below_step ?_ (Nat.le_refl _) hb6
  exact below_new _ _

theorem wordMixes_walk (x y n : Int) (w : World) :
    Calls Try.prog 8 #[.int .i64 x, .int .i64 y, .int .i64 n] w fun e w' => e = .returned (.bool true) ∧ Below w.heap.size w w' := by
  obtain ⟨X, hX, ex⟩ := nat_mod x 4294967296 (by decide)
  obtain ⟨Y, hY, ey⟩ := nat_mod y 4294967296 (by decide)
  obtain ⟨k, hk, en⟩ := nat_mod n 32 (by decide)
  exact wordMixes_nat x y n X Y k hX hY hk ex ey en w
end Go.Proofs.Ytaefhdegldphhaa
