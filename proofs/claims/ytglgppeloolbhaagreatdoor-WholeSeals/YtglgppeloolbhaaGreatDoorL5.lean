import Derived.Test.YtglgppeloolbhaaGreatDoorG
/- ChaCha20 on plain numbers and texts. -/
namespace Go.Proofs.YtglgppeloolbhaaGreatDoor
open Go.RowKit
set_option maxRecDepth 100000
set_option linter.unusedSimpArgs false

/-- Half a quarter round, turned by r and by s. -/
def qh (r s a b c d : Nat) : Nat × Nat × Nat × Nat :=
  let a := (a + b) % 4294967296
  let d := rotN (d ^^^ a) r
  let c := (c + d) % 4294967296
  let b := rotN (b ^^^ c) s
  (a, b, c, d)
/-- A quarter round. -/
def qr (a b c d : Nat) : Nat × Nat × Nat × Nat :=
  let t := qh 16 12 a b c d
  qh 8 7 t.1 t.2.1 t.2.2.1 t.2.2.2
theorem sum_lt (a b : Nat) : (a + b) % 4294967296 < 4294967296 := Nat.mod_lt _ (by decide)
def Ok4 (t : Nat × Nat × Nat × Nat) : Prop := t.1 < 4294967296 ∧ t.2.1 < 4294967296 ∧ t.2.2.1 < 4294967296 ∧ t.2.2.2 < 4294967296
theorem qh_ok (r s a b c d : Nat) (hb : b < 4294967296) (hd : d < 4294967296) : Ok4 (qh r s a b c d) :=
  ⟨sum_lt _ _, rotN_lt _ _ (xor_lt32 _ _ hb (sum_lt _ _)), sum_lt _ _, rotN_lt _ _ (xor_lt32 _ _ hd (sum_lt _ _))⟩
theorem qr_ok (a b c d : Nat) (hb : b < 4294967296) (hd : d < 4294967296) : Ok4 (qr a b c d) :=
  qh_ok _ _ _ _ _ _ (qh_ok 16 12 a b c d hb hd).2.1 (qh_ok 16 12 a b c d hb hd).2.2.2

/-- Four of sixteen words behind a quarter round. -/
def put4 (x : List Nat) (p q r s : Nat) (t : Nat × Nat × Nat × Nat) : List Nat := (((x.set p t.1).set q t.2.1).set r t.2.2.1).set s t.2.2.2
def stepN (x : List Nat) (p q r s : Nat) : List Nat := put4 x p q r s (qr (x.getD p 0) (x.getD q 0) (x.getD r 0) (x.getD s 0))
theorem ok_set (x : List Nat) (p v : Nat) (h : Ok x) (hv : v < 4294967296) : Ok (x.set p v) := by
  intro i
  rw [List.getD_eq_getElem?_getD, List.getElem?_set]
  by_cases e : p = i
  · rw [if_pos e]
    by_cases e2 : p < x.length
    · rw [if_pos e2]; exact hv
    · rw [if_neg e2]; decide
  · rw [if_neg e, ← List.getD_eq_getElem?_getD]; exact h i
theorem put4_ok (x : List Nat) (p q r s : Nat) (t : Nat × Nat × Nat × Nat) (h : Ok x) (ht : Ok4 t) : Ok (put4 x p q r s t) :=
  ok_set _ _ _ (ok_set _ _ _ (ok_set _ _ _ (ok_set _ _ _ h ht.1) ht.2.1) ht.2.2.1) ht.2.2.2
theorem put4_length (x : List Nat) (p q r s : Nat) (t : Nat × Nat × Nat × Nat) : (put4 x p q r s t).length = x.length := by simp [put4]
theorem stepN_ok (x : List Nat) (p q r s : Nat) (h : Ok x) : Ok (stepN x p q r s) := put4_ok _ _ _ _ _ _ h (qr_ok _ _ _ _ (h q) (h s))
theorem stepN_length (x : List Nat) (p q r s : Nat) : (stepN x p q r s).length = x.length := put4_length _ _ _ _ _ _

/-- The words of each quarter round. -/
def pA : List Nat := [0, 1, 2, 3, 0, 1, 2, 3]
def pB : List Nat := [4, 5, 6, 7, 5, 6, 7, 4]
def pC : List Nat := [8, 9, 10, 11, 10, 11, 8, 9]
def pD : List Nat := [12, 13, 14, 15, 15, 12, 13, 14]
def stepsN (x : List Nat) : Nat → List Nat
  | 0 => x
  | k + 1 => stepN (stepsN x k) (pA.getD k 0) (pB.getD k 0) (pC.getD k 0) (pD.getD k 0)
def roundsN (x : List Nat) : Nat → List Nat
  | 0 => x
  | k + 1 => stepsN (roundsN x k) 8
theorem stepsN_succ (x : List Nat) (k : Nat) : stepsN x (k + 1) = stepN (stepsN x k) (pA.getD k 0) (pB.getD k 0) (pC.getD k 0) (pD.getD k 0) := rfl
theorem roundsN_succ (x : List Nat) (k : Nat) : roundsN x (k + 1) = stepsN (roundsN x k) 8 := rfl
theorem stepsN_ok (x : List Nat) (h : Ok x) (k : Nat) : Ok (stepsN x k) := by
  induction k with
  | zero => exact h
  | succ k ih => exact stepN_ok _ _ _ _ _ ih
theorem stepsN_length (x : List Nat) (k : Nat) : (stepsN x k).length = x.length := by
  induction k with
  | zero => rfl
  | succ k ih => rw [stepsN_succ, stepN_length, ih]
theorem roundsN_ok (x : List Nat) (h : Ok x) (k : Nat) : Ok (roundsN x k) := by
  induction k with
  | zero => exact h
  | succ k ih => exact stepsN_ok _ ih _
theorem roundsN_length (x : List Nat) (k : Nat) : (roundsN x k).length = x.length := by
  induction k with
  | zero => rfl
  | succ k ih => rw [roundsN_succ, stepsN_length, ih]
theorem places_lt (k : Nat) (h : k < 8) : pA.getD k 0 < 16 ∧ pB.getD k 0 < 16 ∧ pC.getD k 0 < 16 ∧ pD.getD k 0 < 16 := by
  have : ∀ k : Fin 8, pA.getD k 0 < 16 ∧ pB.getD k 0 < 16 ∧ pC.getD k 0 < 16 ∧ pD.getD k 0 < 16 := by decide
  exact this ⟨k, h⟩

/-! ### A block. -/
def openB : ByteArray := ⟨#[101, 120, 112, 97, 110, 100, 32, 51, 50, 45, 98, 121, 116, 101, 32, 107]⟩
def textB (key nonce : ByteArray) (c : Nat) : ByteArray := openB ++ key ++ ⟨(putL [(c : Int)] ssh).toArray⟩ ++ nonce
theorem put_size (l : List Int) (sh : Nat → Nat) : (⟨(putL l sh).toArray⟩ : ByteArray).size = 4 * l.length := by
  show (putL l sh).toArray.size = _; rw [List.size_toArray, putL_length]
/-- The words of bytes, the lowest byte first. -/
def wordS (s : ByteArray) (i : Nat) : Nat := wAt s ssh s.size i
theorem wordS_lt (s : ByteArray) (i : Nat) : wordS s i < 4294967296 := wAt_lt s ssh ssh_le _ _
def firstN (key nonce : ByteArray) (c : Nat) : List Nat := tabN 16 (wordS (textB key nonce c))
theorem firstN_length (key nonce : ByteArray) (c : Nat) : (firstN key nonce c).length = 16 := tabN_length _ _
theorem ok_tabN (n : Nat) (f : Nat → Nat) (h : ∀ i, f i < 4294967296) : Ok (tabN n f) := by
  intro i
  by_cases hi : i < n
  · rw [tabN_getD _ _ _ hi]; exact h i
  · rw [List.getD_eq_getElem?_getD, List.getElem?_eq_none (by rw [tabN_length]; omega)]; decide
theorem firstN_ok (key nonce : ByteArray) (c : Nat) : Ok (firstN key nonce c) := ok_tabN _ _ (wordS_lt _)
/-- The sums that are put down. -/
def sumsN (x : List Nat) : Nat → Nat := fun i => ((roundsN x 10).getD i 0 + x.getD i 0) % 4294967296
def blockB (key nonce : ByteArray) (c : Nat) : ByteArray := ⟨(putL (wT (sumsN (firstN key nonce c)) 16) ssh).toArray⟩
theorem blockB_size (key nonce : ByteArray) (c : Nat) : (blockB key nonce c).size = 64 := by
  unfold blockB; rw [put_size, wT_length]
end Go.Proofs.YtglgppeloolbhaaGreatDoor

/- The quarter round of the program. -/
namespace Go.Proofs.YtglgppeloolbhaaGreatDoor
open Go.RowKit
set_option maxRecDepth 100000
set_option linter.unusedSimpArgs false

/-- Four results. -/
theorem results_tmp4 {fn : Func} {t u v x : Tmp} (h : fn.results = #[.tmp t, .tmp u, .tmp v, .tmp x]) (tmps : Array Value) (P : Program) (w : World) :
    (results fn tmps).run P w = .ok (.tuple #[tmps.getD t undef, tmps.getD u undef, tmps.getD v undef, tmps.getD x undef]) w := by
  simp [results, h]

set_option maxHeartbeats 400000 in
theorem left_any (X k : Nat) (hX : X < 4294967296) (hk : k < 32) (w : World) :
    Calls Tryz.prog 95 #[.int .u32 X, .int .i64 k] w fun e w' => e = .returned (.int .u32 (rotN X k)) ∧ w' = w := by
  have hr := rotN_lt X k hX
  have C : Hid (∀ w, _) := fun w => rot_nat (X : Int) (k : Int) X k hX hk w (by omega) (by omega)
  go_enter Tryz.func95, Tryz.ntmps95
  go_wp2_with (go_at_call 101; refine (C.out _).mono ?_; rintro e w' ⟨rfl, rfl⟩)
  go_ret
  exact ⟨rfl, rfl⟩

set_option maxHeartbeats 1000000 in
theorem quarter_walk (a b c d A D C B A' D' C' B' : Nat) (lb : b < 4294967296) (ld : d < 4294967296) (w : World)
    (h1 : A = (a + b) % 4294967296) (h2 : D = rotN (d ^^^ A) 16) (h3 : C = (c + D) % 4294967296) (h4 : B = rotN (b ^^^ C) 12)
    (h5 : A' = (A + B) % 4294967296) (h6 : D' = rotN (D ^^^ A') 8) (h7 : C' = (C + D') % 4294967296) (h8 : B' = rotN (B ^^^ C') 7) :
    Calls Tryz.prog 82 #[.int .u32 a, .int .u32 b, .int .u32 c, .int .u32 d] w fun e w' => e = .returned (.tuple #[.int .u32 A', .int .u32 B', .int .u32 C', .int .u32 D']) ∧ w' = w := by
  have lA : A < 4294967296 := by omega
  have lC : C < 4294967296 := by omega
  have lA' : A' < 4294967296 := by omega
  have lC' : C' < 4294967296 := by omega
  have lX1 := xor_lt32 d A ld lA
  have lX2 := xor_lt32 b C lb lC
  have lD : D < 4294967296 := by rw [h2]; exact rotN_lt _ _ lX1
  have lB : B < 4294967296 := by rw [h4]; exact rotN_lt _ _ lX2
  have lX3 := xor_lt32 D A' lD lA'
  have lX4 := xor_lt32 B C' lB lC'
  have C1 : Hid (∀ w, _) := fun w => left_any (d ^^^ A) 16 lX1 (by decide) w
  have C2 : Hid (∀ w, _) := fun w => left_any (b ^^^ C) 12 lX2 (by decide) w
  have C3 : Hid (∀ w, _) := fun w => left_any (D ^^^ A') 8 lX3 (by decide) w
  have C4 : Hid (∀ w, _) := fun w => left_any (B ^^^ C') 7 lX4 (by decide) w
  rw [← h2] at C1
  rw [← h4] at C2
  rw [← h6] at C3
  rw [← h8] at C4
  have e1 : ((a : Int) + (b : Int)) % 4294967296 = (A : Int) := by omega
  have e3 : ((c : Int) + (D : Int)) % 4294967296 = (C : Int) := by omega
  have e5 : ((A : Int) + (B : Int)) % 4294967296 = (A' : Int) := by omega
  have e7 : ((C : Int) + (D' : Int)) % 4294967296 = (C' : Int) := by omega
  have x1 := u32_xor_nat d A ld lA
  have x2 := u32_xor_nat b C lb lC
  have x3 := u32_xor_nat D A' lD lA'
  have x4 := u32_xor_nat B C' lB lC'
  clear h1 h2 h3 h4 h5 h6 h7 h8 lX1 lX2 lX3 lX4
  go_enter Tryz.func82, Tryz.ntmps82
  go_wp2_with fail
  refine (C1.out _).mono ?_
  rintro e w' ⟨rfl, rfl⟩
  go_wp2_with fail
  refine (C2.out _).mono ?_
  rintro e w' ⟨rfl, rfl⟩
  go_wp2_with fail
  refine (C3.out _).mono ?_
  rintro e w' ⟨rfl, rfl⟩
  go_wp2_with fail
  refine (C4.out _).mono ?_
  rintro e w' ⟨rfl, rfl⟩
  go_wp2_with fail
  (try simp only [Exit.inBlock, Exit.then])
  refine bodyPost_ret (results_tmp4 rfl _ _ _) rfl ?_
  exact ⟨rfl, rfl⟩

/-- Four words. -/
def tup4 (t : Nat × Nat × Nat × Nat) : Value := .tuple #[.int .u32 t.1, .int .u32 t.2.1, .int .u32 t.2.2.1, .int .u32 t.2.2.2]
theorem quarter_any (a b c d : Nat) (lb : b < 4294967296) (ld : d < 4294967296) (w : World) :
    Calls Tryz.prog 82 #[.int .u32 a, .int .u32 b, .int .u32 c, .int .u32 d] w fun e w' => e = .returned (tup4 (qr a b c d)) ∧ w' = w :=
  quarter_walk a b c d _ _ _ _ _ _ _ _ lb ld w rfl rfl rfl rfl rfl rfl rfl rfl
end Go.Proofs.YtglgppeloolbhaaGreatDoor

/- The quarter round of the document. -/
namespace Go.Proofs.YtglgppeloolbhaaGreatDoor
open Go.RowKit
set_option maxRecDepth 100000
set_option linter.unusedSimpArgs false

/-- Four numbers, and their cells. -/
def agg4 (a b c d : Int) : Value := .agg #[.int .i64 a, .int .i64 b, .int .i64 c, .int .i64 d]
def nat4 (t : Nat × Nat × Nat × Nat) : Value := agg4 (t.1 : Int) (t.2.1 : Int) (t.2.2.1 : Int) (t.2.2.2 : Int)

theorem Tryz.arr4i : (Tryz.prog.info? 84).map (·.size) = some 4 := by kernel_rfl
theorem i64_xor_words (a b : Nat) (ha : a < 4294967296) (hb : b < 4294967296) : bits .xor .i64 (a : Int) (b : Int) = ((a ^^^ b : Nat) : Int) :=
  i64_xor_nat a b (by omega) (by omega)

set_option maxHeartbeats 2000000 in
theorem rquarter_walk (x0 x1 x2 x3 : Int) (a b c d A D C B A' D' C' B' : Nat) (w : World) (ha : x0 % 4294967296 = (a : Int)) (hb : x1 % 4294967296 = (b : Int)) (hc : x2 % 4294967296 = (c : Int)) (hd : x3 % 4294967296 = (d : Int))
    (h1 : A = (a + b) % 4294967296) (h2 : D = rotN (d ^^^ A) 16) (h3 : C = (c + D) % 4294967296) (h4 : B = rotN (b ^^^ C) 12)
    (h5 : A' = (A + B) % 4294967296) (h6 : D' = rotN (D ^^^ A') 8) (h7 : C' = (C + D') % 4294967296) (h8 : B' = rotN (B ^^^ C') 7) :
    Calls Tryz.prog 70 #[agg4 x0 x1 x2 x3] w fun e w' => e = .returned (agg4 A' B' C' D') ∧ Below w.heap.size w w' := by
  have la : a < 4294967296 := by omega
  have lb : b < 4294967296 := by omega
  have lc : c < 4294967296 := by omega
  have ld : d < 4294967296 := by omega
  have lA : A < 4294967296 := by omega
  have lC : C < 4294967296 := by omega
  have lA' : A' < 4294967296 := by omega
  have lC' : C' < 4294967296 := by omega
  have lX1 := xor_lt32 d A ld lA
  have lX2 := xor_lt32 b C lb lC
  have lD : D < 4294967296 := by rw [h2]; exact rotN_lt _ _ lX1
  have lB : B < 4294967296 := by rw [h4]; exact rotN_lt _ _ lX2
  have lX3 := xor_lt32 D A' lD lA'
  have lX4 := xor_lt32 B C' lB lC'
  have lD' : D' < 4294967296 := by rw [h6]; exact rotN_lt _ _ lX3
  have C1 : Hid (∀ w, _) := fun w => rrot_nat ((d ^^^ A : Nat) : Int) 16 (d ^^^ A) 16 lX1 (by decide) w (by omega) (by decide)
  have C2 : Hid (∀ w, _) := fun w => rrot_nat ((b ^^^ C : Nat) : Int) 12 (b ^^^ C) 12 lX2 (by decide) w (by omega) (by decide)
  have C3 : Hid (∀ w, _) := fun w => rrot_nat ((D ^^^ A' : Nat) : Int) 8 (D ^^^ A') 8 lX3 (by decide) w (by omega) (by decide)
  have C4 : Hid (∀ w, _) := fun w => rrot_nat ((B ^^^ C' : Nat) : Int) 7 (B ^^^ C') 7 lX4 (by decide) w (by omega) (by decide)
  rw [← h2] at C1
  rw [← h4] at C2
  rw [← h6] at C3
  rw [← h8] at C4
  have W0 := fun w => word_any x0 w
  have W1 := fun w => word_any x1 w
  have W2 := fun w => word_any x2 w
  have W3 := fun w => word_any x3 w
  rw [ha] at W0
  rw [hb] at W1
  rw [hc] at W2
  rw [hd] at W3
  have V0 : Hid (∀ w, _) := W0
  have V1 : Hid (∀ w, _) := W1
  have V2 : Hid (∀ w, _) := W2
  have V3 : Hid (∀ w, _) := W3
  have S1 := fun w => word_any ((a : Int) + (b : Int)) w
  have S2 := fun w => word_any ((c : Int) + (D : Int)) w
  have S3 := fun w => word_any ((A : Int) + (B : Int)) w
  have S4 := fun w => word_any ((C : Int) + (D' : Int)) w
  rw [show ((a : Int) + (b : Int)) % 4294967296 = (A : Int) by omega] at S1
  rw [show ((c : Int) + (D : Int)) % 4294967296 = (C : Int) by omega] at S2
  rw [show ((A : Int) + (B : Int)) % 4294967296 = (A' : Int) by omega] at S3
  rw [show ((C : Int) + (D' : Int)) % 4294967296 = (C' : Int) by omega] at S4
  have Z1 : Hid (∀ w, _) := S1
  have Z2 : Hid (∀ w, _) := S2
  have Z3 : Hid (∀ w, _) := S3
  have Z4 : Hid (∀ w, _) := S4
  have y1 := i64_xor_words d A ld lA
  have y2 := i64_xor_words b C lb lC
  have y3 := i64_xor_words D A' lD lA'
  have y4 := i64_xor_words B C' lB lC'
  clear h1 h2 h3 h4 h5 h6 h7 h8 lX1 lX2 lX3 lX4 ha hb hc hd W0 W1 W2 W3 S1 S2 S3 S4
  unfold agg4
  go_enter Tryz.func70, Tryz.ntmps70
  go_wp2_with fail
  go_quiet ((go_at_call 75; first | exact Calls.quiet_of_same (V0.out _) | exact Calls.quiet_of_same (V1.out _) | exact Calls.quiet_of_same (V2.out _) | exact Calls.quiet_of_same (V3.out _)))
  clear V0 V1 V2 V3
  go_wp2_with fail
  generalize hq : World.drewN _ _ = wq
  have hB0 : Below w.heap.size w wq := by rw [← hq]; exact below_drewN ((below_new w _).alloc (by simp) _) _
  have hA0 : Hid (Blk wq 84 (w.heap.size + 1) #[.int .i64 0, .int .i64 0, .int .i64 0, .int .i64 0]) := by
    rw [← hq]; exact (Blk.new' _ 84 _ _ (by simp)).below (below_drewN (Below.refl (w.heap.size + 2) _) _) (by omega)
  clear hq
  refine (Z1.out _).mono ?_
  rintro e w' ⟨rfl, rfl⟩
  go_wp2_with fail
  refine (C1.out _).mono ?_
  rintro e w1 ⟨rfl, hb1⟩
  have hB1 := below_step hB0 (Nat.le_refl _) hb1
  have hA1 : Hid (Blk w1 84 (w.heap.size + 1) _) := hA0.out.on hb1
  clear hB0 hA0 hb1
  go_wp2_with fail
  refine (Z2.out _).mono ?_
  rintro e w' ⟨rfl, rfl⟩
  go_wp2_with fail
  refine (C2.out _).mono ?_
  rintro e w2 ⟨rfl, hb2⟩
  have hB2 := below_step hB1 (Nat.le_refl _) hb2
  have hA2 : Hid (Blk w2 84 (w.heap.size + 1) _) := hA1.out.on hb2
  clear hB1 hA1 hb2
  go_wp2_with fail
  refine (Z3.out _).mono ?_
  rintro e w' ⟨rfl, rfl⟩
  go_wp2_with fail
  refine (C3.out _).mono ?_
  rintro e w3 ⟨rfl, hb3⟩
  have hB3 := below_step hB2 (Nat.le_refl _) hb3
  have hA3 : Hid (Blk w3 84 (w.heap.size + 1) _) := hA2.out.on hb3
  clear hB2 hA2 hb3
  go_wp2_with fail
  refine (Z4.out _).mono ?_
  rintro e w' ⟨rfl, rfl⟩
  go_wp2_with fail
  refine (C4.out _).mono ?_
  rintro e w4 ⟨rfl, hb4⟩
  have hB4 := below_step hB3 (Nat.le_refl _) hb4
  have hA4 : Hid (Blk w4 84 (w.heap.size + 1) _) := hA3.out.on hb4
  clear hB3 hA3 hb4
  go_wp2_with (with_reducible refine wpList_storeBlk rfl 84 _ _ rfl (w.heap.size + 1) _ #[.int .i64 A', .int .i64 B', .int .i64 C', .int .i64 D'] ?hx ?hy hA4.out ?hl ?hi ?h1 ?_)
  case hx => rfl
  case hy => rfl
  case hl => rfl
  case hi => exact Tryz.arr4i
  case h1 => simp [Value.oneCell']
  exact bodyPost_blk rfl (w.heap.size + 1) _ rfl rfl (hA4.out.setRow _) 4 3 Tryz.underlying84 Tryz.arr4i ⟨rfl, below_setRow hB4 (by omega) _⟩

theorem rquarter_any (x0 x1 x2 x3 : Int) (a b c d : Nat) (w : World) (ha : x0 % 4294967296 = (a : Int)) (hb : x1 % 4294967296 = (b : Int)) (hc : x2 % 4294967296 = (c : Int)) (hd : x3 % 4294967296 = (d : Int)) :
    Calls Tryz.prog 70 #[agg4 x0 x1 x2 x3] w fun e w' => e = .returned (nat4 (qr a b c d)) ∧ Below w.heap.size w w' :=
  rquarter_walk x0 x1 x2 x3 a b c d _ _ _ _ _ _ _ _ w ha hb hc hd rfl rfl rfl rfl rfl rfl rfl rfl
end Go.Proofs.YtglgppeloolbhaaGreatDoor

/- The eight quarter rounds of the program. -/
namespace Go.Proofs.YtglgppeloolbhaaGreatDoor
open Go.RowKit
set_option maxRecDepth 100000
set_option linter.unusedSimpArgs false

/-- The package's table, as it lies. -/
def GlobP (w : World) : Prop := ∀ i, i < 8 → w.cell? ⟨2, i * 4, none⟩ = some (.int .i64 ((pA.getD i 0 : Nat) : Int)) ∧ w.cell? ⟨2, i * 4 + 1, none⟩ = some (.int .i64 ((pB.getD i 0 : Nat) : Int)) ∧
  w.cell? ⟨2, i * 4 + 2, none⟩ = some (.int .i64 ((pC.getD i 0 : Nat) : Int)) ∧ w.cell? ⟨2, i * 4 + 3, none⟩ = some (.int .i64 ((pD.getD i 0 : Nat) : Int))
theorem GlobP.below {w w' : World} (h : GlobP w) (hb : Below w.heap.size w w') : GlobP w' := fun j hj => by
  obtain ⟨h0, h1, h2, h3⟩ := h j hj
  have hl := World.block_lt_of_cell? w _ h0
  refine ⟨?_, ?_, ?_, ?_⟩
  · rw [hb.cell (p := ⟨2, j * 4, none⟩) hl]; exact h0
  · rw [hb.cell (p := ⟨2, j * 4 + 1, none⟩) hl]; exact h1
  · rw [hb.cell (p := ⟨2, j * 4 + 2, none⟩) hl]; exact h2
  · rw [hb.cell (p := ⟨2, j * 4 + 3, none⟩) hl]; exact h3
theorem GlobP.lt {w : World} (h : GlobP w) : 2 < w.heap.size := World.block_lt_of_cell? w _ (h 0 (by decide)).1

theorem Tryz.arr16 : (Tryz.prog.info? 77).map (·.size) = some 16 := by kernel_rfl
theorem blk4 {w : World} {t : TypeId} {g : Nat} {p q r s : Value} (h : Blk w t g #[p, q, r, s]) : w.cell? ⟨g, 0, none⟩ = some p ∧ w.cell? ⟨g, 1, none⟩ = some q ∧ w.cell? ⟨g, 2, none⟩ = some r ∧ w.cell? ⟨g, 3, none⟩ = some s :=
  ⟨h.cell 0, h.cell 1, h.cell 2, h.cell 3⟩

set_option maxRecDepth 100000 in
set_option maxHeartbeats 4000000 in
theorem round_any (x : List Nat) (w : World) (hx : x.length = 16) (ho : Ok x) (hP : GlobP w) :
    Calls Tryz.prog 64 #[.agg (vals x)] w fun e w' => e = .returned (.agg (vals (stepsN x 8))) ∧ Below w.heap.size w w' := by
  have HO : Hid (∀ k, Ok (stepsN x k)) := stepsN_ok x ho
  have HL : Hid (∀ k, (stepsN x k).length = 16) := fun k => by rw [stepsN_length, hx]
  have HS : Hid (∀ k, stepsN x (k + 1) = _) := stepsN_succ x
  have HP : Hid (GlobP w) := hP
  have H0 : Hid (stepsN x 0 = x) := rfl
  obtain ⟨R, HR⟩ : ∃ R, Hid (R = stepsN x) := ⟨_, rfl⟩
  rw [← HR.out] at HO HL HS H0
  rw [← HR.out]
  clear HR ho hP
  go_enter Tryz.func64, Tryz.ntmps64
  have a0 := (Arr.new w 77 x _ rfl).alloc (.cells (vals (List.replicate 16 0)) 77)
  have a1 := Arr.new' (w.alloc (.cells (vals x) 77)) 77 (List.replicate 16 0) _ (w.heap.size + 1) (by simp) rfl
  have HA0 : Hid (Arr _ 77 w.heap.size _) := a0
  have HA1 : Hid (Arr _ 77 (w.heap.size + 1) _) := a1
  have hB : Below w.heap.size w ((w.alloc (.cells (vals x) 77)).alloc (.cells (vals (List.replicate 16 0)) 77)) := (below_new w _).alloc (by simp) _
  clear a0 a1
  go_wp2_with fail
  go_loopw [5] (fun i wr => ∃ k : Nat, k ≤ 8 ∧ i = .int .i64 k ∧ Hid (Arr wr 77 w.heap.size (R k)) ∧ Hid (Arr wr 77 (w.heap.size + 1) (List.replicate 16 0)) ∧ Below w.heap.size w wr) (fun i _ => 8 - (intOf i).toNat)
  case atStart => exact ⟨0, Nat.zero_le _, rfl, by rw [H0.out]; exact HA0, HA1, hB⟩
  case round =>
    clear HA0 HA1 hB
    obtain ⟨k, hk, rfl, HA0, HA1, hbl⟩ := hrel
    by_cases hlt : k < 8
    · obtain ⟨c0, c1, c2, c3⟩ := HP.out.below hbl k hlt
      obtain ⟨l0, l1, l2, l3⟩ := places_lt k hlt
      have hS := HS.out k
      generalize pA.getD k 0 = p at *
      generalize pB.getD k 0 = q at *
      generalize pC.getD k 0 = r at *
      generalize pD.getD k 0 = s at *
      have HSk : Hid (R (k + 1) = stepN (R k) p q r s) := hS
      clear hS
      have b0 : (0 : Int) ≤ (k : Int) := by omega
      have b1 : (k : Int) < 8 := by omega
      go_wp2_with (with_reducible refine wpList_storeBlk rfl 84 _ _ rfl wr.heap.size _ #[.int .i64 p, .int .i64 q, .int .i64 r, .int .i64 s] ?hx ?hy (Blk.new wr 84 _) ?hl ?hi ?h1 ?_)
      case hx => rfl
      case hy => rfl
      case hl => rfl
      case hi => exact Tryz.arr4i
      case h1 => simp [Value.oneCell']
      rw [World.setRow_alloc_new]
      generalize hq : World.alloc wr _ = w1
      have hsz := hbl.size
      have s0 := HA0.out.lt
      have s1 := HA1.out.lt
      have hB1 : Below w.heap.size w w1 := by rw [← hq]; exact hbl.alloc hsz _
      have A0 : Hid (Arr w1 77 w.heap.size (R k)) := by rw [← hq]; exact HA0.out.alloc _
      have A1 : Hid (Arr w1 77 (w.heap.size + 1) (List.replicate 16 0)) := by rw [← hq]; exact HA1.out.alloc _
      have A2 : Hid (Blk w1 84 wr.heap.size #[.int .i64 p, .int .i64 q, .int .i64 r, .int .i64 s]) := by rw [← hq]; exact Blk.new wr _ _
      clear hq HA0 HA1 hbl c0 c1 c2 c3
      generalize wr.heap.size = g at *
      have hl16 := HL.out k
      have ok := HO.out k
      have lX := ok p
      have lY := ok q
      have lZ := ok r
      have lU := ok s
      have cX := A0.out.cell p (by omega)
      have cY := A0.out.cell q (by omega)
      have cZ := A0.out.cell r (by omega)
      have cU := A0.out.cell s (by omega)
      have hs : stepN (R k) p q r s = put4 (R k) p q r s (qr ((R k).getD p 0) ((R k).getD q 0) ((R k).getD r 0) ((R k).getD s 0)) := rfl
      have HSk' := HSk.out.trans hs
      generalize (R k).getD p 0 = X at *
      generalize (R k).getD q 0 = Y at *
      generalize (R k).getD r 0 = Z at *
      generalize (R k).getD s 0 = U at *
      have CQ : Hid (∀ w, _) := fun w => quarter_any X Y Z U lY lU w
      obtain ⟨⟨X', Y', Z', U'⟩, ht⟩ : ∃ t, t = qr X Y Z U := ⟨_, rfl⟩
      rw [← ht] at CQ HSk'
      change Hid (∀ w, Calls Tryz.prog 82 #[.int .u32 X, .int .u32 Y, .int .u32 Z, .int .u32 U] w fun e w' => e = .returned (.tuple #[.int .u32 X', .int .u32 Y', .int .u32 Z', .int .u32 U']) ∧ w' = w) at CQ
      have HN : Hid (R (k + 1) = put4 (R k) p q r s (X', Y', Z', U')) := HSk'
      clear HSk HSk' hs ht ok
      have d0 := A2.out.cell 0
      have d1 := A2.out.cell 1
      have d2 := A2.out.cell 2
      have d3 := A2.out.cell 3
      simp only [List.getElem?_toArray, List.getElem?_cons_zero, List.getElem?_cons_succ] at d0 d1 d2 d3
      have n0 : (0 : Int) ≤ (p : Int) := by omega
      have n1 : (0 : Int) ≤ (q : Int) := by omega
      have n2 : (0 : Int) ≤ (r : Int) := by omega
      have n3 : (0 : Int) ≤ (s : Int) := by omega
      have m0 : (p : Int) < 16 := by omega
      have m1 : (q : Int) < 16 := by omega
      have m2 : (r : Int) < 16 := by omega
      have m3 : (s : Int) < 16 := by omega
      refine wp_region_noPanic ?_
      refine till_begin 24 (fun w' => w'.cell? ⟨w.heap.size, p, none⟩ = some (.int .u32 (X : Int)) ∧ w'.cell? ⟨w.heap.size, q, none⟩ = some (.int .u32 (Y : Int)) ∧ w'.cell? ⟨w.heap.size, r, none⟩ = some (.int .u32 (Z : Int)) ∧ w'.cell? ⟨w.heap.size, s, none⟩ = some (.int .u32 (U : Int))) (fun w' => w'.cell? ⟨g, 0, none⟩ = some (.int .i64 (p : Int)) ∧ w'.cell? ⟨g, 1, none⟩ = some (.int .i64 (q : Int)) ∧ w'.cell? ⟨g, 2, none⟩ = some (.int .i64 (r : Int)) ∧ w'.cell? ⟨g, 3, none⟩ = some (.int .i64 (s : Int))) (by kernel_rfl) ?_
      have hT : w1.drew.cell? ⟨g, 0, none⟩ = some (.int .i64 (p : Int)) ∧ w1.drew.cell? ⟨g, 1, none⟩ = some (.int .i64 (q : Int)) ∧ w1.drew.cell? ⟨g, 2, none⟩ = some (.int .i64 (r : Int)) ∧ w1.drew.cell? ⟨g, 3, none⟩ = some (.int .i64 (s : Int)) := ⟨d0, d1, d2, d3⟩
      have hS : w1.drew.cell? ⟨w.heap.size, p, none⟩ = some (.int .u32 (X : Int)) ∧ w1.drew.cell? ⟨w.heap.size, q, none⟩ = some (.int .u32 (Y : Int)) ∧ w1.drew.cell? ⟨w.heap.size, r, none⟩ = some (.int .u32 (Z : Int)) ∧ w1.drew.cell? ⟨w.heap.size, s, none⟩ = some (.int .u32 (U : Int)) := ⟨cX, cY, cZ, cU⟩
      refine till_take (i := 0) (v := ?_) rfl rfl (by kernel_rfl) (by kernel_rfl) (by kernel_rfl) rfl (fun _ _ _ h => h) (Or.inl ⟨by rfl, ?_⟩) (by assumption) (fun _ => by assumption) ?_
      rotate_left
      · intro w hSw; (try dsimp only at hSw); go_simp; try with_reducible rfl
      try simp only [Act.put, List.setIfInBounds_toArray, List.set_cons_zero, List.set_cons_succ]
      refine till_take (i := 1) (v := ?_) rfl rfl (by kernel_rfl) (by kernel_rfl) (by kernel_rfl) rfl (fun _ _ _ h => h) (Or.inl ⟨by rfl, ?_⟩) (by assumption) (fun _ => by assumption) ?_
      rotate_left
      · intro w hSw; (try dsimp only at hSw); go_simp; try with_reducible rfl
      try simp only [Act.put, List.setIfInBounds_toArray, List.set_cons_zero, List.set_cons_succ]
      refine till_take (i := 2) (v := ?_) rfl rfl (by kernel_rfl) (by kernel_rfl) (by kernel_rfl) rfl (fun _ _ _ h => h) (Or.inl ⟨by rfl, ?_⟩) (by assumption) (fun _ => by assumption) ?_
      rotate_left
      · intro w hSw; (try dsimp only at hSw); go_simp; try with_reducible rfl
      try simp only [Act.put, List.setIfInBounds_toArray, List.set_cons_zero, List.set_cons_succ]
      refine till_take (i := 3) (v := ?_) rfl rfl (by kernel_rfl) (by kernel_rfl) (by kernel_rfl) rfl (fun _ _ _ h => h) (Or.inl ⟨by rfl, ?_⟩) (by assumption) (fun _ => by assumption) ?_
      rotate_left
      · intro w hSw; (try dsimp only at hSw); go_simp; try with_reducible rfl
      try simp only [Act.put, List.setIfInBounds_toArray, List.set_cons_zero, List.set_cons_succ]
      refine till_take (i := 4) (v := ?_) rfl rfl (by kernel_rfl) (by kernel_rfl) (by kernel_rfl) rfl (fun _ _ _ h => h) (Or.inl ⟨by rfl, ?_⟩) (by assumption) (fun _ => by assumption) ?_
      rotate_left
      · intro w hSw; (try dsimp only at hSw); go_simp; try with_reducible rfl
      try simp only [Act.put, List.setIfInBounds_toArray, List.set_cons_zero, List.set_cons_succ]
      refine till_take (i := 5) (v := ?_) rfl rfl (by kernel_rfl) (by kernel_rfl) (by kernel_rfl) rfl (fun _ _ _ h => h) (Or.inl ⟨by rfl, ?_⟩) (by assumption) (fun _ => by assumption) ?_
      rotate_left
      · intro w hSw; (try dsimp only at hSw); go_simp; try with_reducible rfl
      try simp only [Act.put, List.setIfInBounds_toArray, List.set_cons_zero, List.set_cons_succ]
      refine till_take (i := 6) (v := ?_) rfl rfl (by kernel_rfl) (by kernel_rfl) (by kernel_rfl) rfl (fun _ _ _ h => h) (Or.inl ⟨by rfl, ?_⟩) (by assumption) (fun _ => by assumption) ?_
      rotate_left
      · intro w hSw; (try dsimp only at hSw); go_simp; try with_reducible rfl
      try simp only [Act.put, List.setIfInBounds_toArray, List.set_cons_zero, List.set_cons_succ]
      refine till_take (i := 7) (v := ?_) rfl rfl (by kernel_rfl) (by kernel_rfl) (by kernel_rfl) rfl (fun _ _ _ h => h) (Or.inl ⟨by rfl, ?_⟩) (by assumption) (fun _ => by assumption) ?_
      rotate_left
      · intro w hSw; (try dsimp only at hSw); go_simp; try with_reducible rfl
      try simp only [Act.put, List.setIfInBounds_toArray, List.set_cons_zero, List.set_cons_succ]
      refine till_take (i := 8) (v := ?_) rfl rfl (by kernel_rfl) (by kernel_rfl) (by kernel_rfl) rfl (fun _ _ _ h => h) (Or.inl ⟨by rfl, ?_⟩) (by assumption) (fun _ => by assumption) ?_
      rotate_left
      · intro w hSw; (try dsimp only at hSw); go_simp; try with_reducible rfl
      try simp only [Act.put, List.setIfInBounds_toArray, List.set_cons_zero, List.set_cons_succ]
      refine till_take (i := 9) (v := ?_) rfl rfl (by kernel_rfl) (by kernel_rfl) (by kernel_rfl) rfl (fun _ _ _ h => h) (Or.inl ⟨by rfl, ?_⟩) (by assumption) (fun _ => by assumption) ?_
      rotate_left
      · intro w hSw; (try dsimp only at hSw); go_simp; try with_reducible rfl
      try simp only [Act.put, List.setIfInBounds_toArray, List.set_cons_zero, List.set_cons_succ]
      refine till_take (i := 10) (v := ?_) rfl rfl (by kernel_rfl) (by kernel_rfl) (by kernel_rfl) rfl (fun _ _ _ h => h) (Or.inl ⟨by rfl, ?_⟩) (by assumption) (fun _ => by assumption) ?_
      rotate_left
      · intro w hSw; (try dsimp only at hSw); go_simp; try with_reducible rfl
      try simp only [Act.put, List.setIfInBounds_toArray, List.set_cons_zero, List.set_cons_succ]
      refine till_take' (i := 11) (v := ?_) rfl rfl (by kernel_rfl) (by kernel_rfl) (by kernel_rfl) rfl (by kernel_rfl) (by kernel_rfl) (fun _ _ _ h => h) (Or.inl ⟨by rfl, ?_⟩) (by assumption) (by assumption) ?_
      rotate_left
      · intro w hSw; (try dsimp only at hSw); go_simp; try with_reducible rfl
      try simp only [Act.put, List.setIfInBounds_toArray, List.set_cons_zero, List.set_cons_succ]
      refine till_take (i := 12) (v := ?_) rfl rfl (by kernel_rfl) (by kernel_rfl) (by kernel_rfl) rfl (fun _ _ _ h => h) (Or.inl ⟨by rfl, ?_⟩) (by assumption) (fun _ => by assumption) ?_
      rotate_left
      · intro w hSw; (try dsimp only at hSw); go_simp; try with_reducible rfl
      try simp only [Act.put, List.setIfInBounds_toArray, List.set_cons_zero, List.set_cons_succ]
      refine till_take (i := 13) (v := ?_) rfl rfl (by kernel_rfl) (by kernel_rfl) (by kernel_rfl) rfl (fun _ _ _ h => h) (Or.inl ⟨by rfl, ?_⟩) (by assumption) (fun _ => by assumption) ?_
      rotate_left
      · intro w hSw; (try dsimp only at hSw); go_simp; try with_reducible rfl
      try simp only [Act.put, List.setIfInBounds_toArray, List.set_cons_zero, List.set_cons_succ]
      refine till_take (i := 14) (v := ?_) rfl rfl (by kernel_rfl) (by kernel_rfl) (by kernel_rfl) rfl (fun _ _ _ h => h) (Or.inl ⟨by rfl, ?_⟩) (by assumption) (fun _ => by assumption) ?_
      rotate_left
      · intro w hSw; (try dsimp only at hSw); go_simp; try with_reducible rfl
      try simp only [Act.put, List.setIfInBounds_toArray, List.set_cons_zero, List.set_cons_succ]
      refine till_take' (i := 15) (v := ?_) rfl rfl (by kernel_rfl) (by kernel_rfl) (by kernel_rfl) rfl (by kernel_rfl) (by kernel_rfl) (fun _ _ _ h => h) (Or.inl ⟨by rfl, ?_⟩) (by assumption) (by assumption) ?_
      rotate_left
      · intro w hSw; (try dsimp only at hSw); go_simp; try with_reducible rfl
      try simp only [Act.put, List.setIfInBounds_toArray, List.set_cons_zero, List.set_cons_succ]
      refine till_take (i := 16) (v := ?_) rfl rfl (by kernel_rfl) (by kernel_rfl) (by kernel_rfl) rfl (fun _ _ _ h => h) (Or.inl ⟨by rfl, ?_⟩) (by assumption) (fun _ => by assumption) ?_
      rotate_left
      · intro w hSw; (try dsimp only at hSw); go_simp; try with_reducible rfl
      try simp only [Act.put, List.setIfInBounds_toArray, List.set_cons_zero, List.set_cons_succ]
      refine till_take (i := 17) (v := ?_) rfl rfl (by kernel_rfl) (by kernel_rfl) (by kernel_rfl) rfl (fun _ _ _ h => h) (Or.inl ⟨by rfl, ?_⟩) (by assumption) (fun _ => by assumption) ?_
      rotate_left
      · intro w hSw; (try dsimp only at hSw); go_simp; try with_reducible rfl
      try simp only [Act.put, List.setIfInBounds_toArray, List.set_cons_zero, List.set_cons_succ]
      refine till_take (i := 18) (v := ?_) rfl rfl (by kernel_rfl) (by kernel_rfl) (by kernel_rfl) rfl (fun _ _ _ h => h) (Or.inl ⟨by rfl, ?_⟩) (by assumption) (fun _ => by assumption) ?_
      rotate_left
      · intro w hSw; (try dsimp only at hSw); go_simp; try with_reducible rfl
      try simp only [Act.put, List.setIfInBounds_toArray, List.set_cons_zero, List.set_cons_succ]
      refine till_take' (i := 19) (v := ?_) rfl rfl (by kernel_rfl) (by kernel_rfl) (by kernel_rfl) rfl (by kernel_rfl) (by kernel_rfl) (fun _ _ _ h => h) (Or.inl ⟨by rfl, ?_⟩) (by assumption) (by assumption) ?_
      rotate_left
      · intro w hSw; (try dsimp only at hSw); go_simp; try with_reducible rfl
      try simp only [Act.put, List.setIfInBounds_toArray, List.set_cons_zero, List.set_cons_succ]
      refine till_take (i := 20) (v := ?_) rfl rfl (by kernel_rfl) (by kernel_rfl) (by kernel_rfl) rfl (fun _ _ _ h => h) (Or.inl ⟨by rfl, ?_⟩) (by assumption) (fun _ => by assumption) ?_
      rotate_left
      · intro w hSw; (try dsimp only at hSw); go_simp; try with_reducible rfl
      try simp only [Act.put, List.setIfInBounds_toArray, List.set_cons_zero, List.set_cons_succ]
      refine till_take (i := 21) (v := ?_) rfl rfl (by kernel_rfl) (by kernel_rfl) (by kernel_rfl) rfl (fun _ _ _ h => h) (Or.inl ⟨by rfl, ?_⟩) (by assumption) (fun _ => by assumption) ?_
      rotate_left
      · intro w hSw; (try dsimp only at hSw); go_simp; try with_reducible rfl
      try simp only [Act.put, List.setIfInBounds_toArray, List.set_cons_zero, List.set_cons_succ]
      refine till_take (i := 22) (v := ?_) rfl rfl (by kernel_rfl) (by kernel_rfl) (by kernel_rfl) rfl (fun _ _ _ h => h) (Or.inl ⟨by rfl, ?_⟩) (by assumption) (fun _ => by assumption) ?_
      rotate_left
      · intro w hSw; (try dsimp only at hSw); go_simp; try with_reducible rfl
      try simp only [Act.put, List.setIfInBounds_toArray, List.set_cons_zero, List.set_cons_succ]
      refine till_take' (i := 23) (v := ?_) rfl rfl (by kernel_rfl) (by kernel_rfl) (by kernel_rfl) rfl (by kernel_rfl) (by kernel_rfl) (fun _ _ _ h => h) (Or.inl ⟨by rfl, ?_⟩) (by assumption) (by assumption) ?_
      rotate_left
      · intro w hSw; (try dsimp only at hSw); go_simp; try with_reducible rfl
      try simp only [Act.put, List.setIfInBounds_toArray, List.set_cons_zero, List.set_cons_succ]
      refine till_step (i := 24) (by kernel_rfl) rfl (fun K hK => ?_)
      go_simp
      refine (CQ.out _).mono ?_
      rintro e w' ⟨rfl, rfl⟩
      refine hK.out _ _ (hT) (fun h => till_no (by kernel_rfl) h) ?_
      clear hK K
      clear hS cX cY cZ cU d0 d1 d2 d3
      have M0 : Hid (Arr w1.drew 77 w.heap.size (R k)) := A0.out
      have E0 : Hid (Arr w1.drew 77 (w.heap.size + 1) (List.replicate 16 0)) := A1.out
      have F0 : Hid (Blk w1.drew 84 g #[.int .i64 p, .int .i64 q, .int .i64 r, .int .i64 s]) := A2.out
      have hB1' : Below w.heap.size w w1.drew := hB1.drew
      clear A0 A1 A2 hB1
      generalize w1.drew = v0 at *
      refine till_take (i := 25) (v := ?_) rfl rfl (by kernel_rfl) (by kernel_rfl) (by kernel_rfl) rfl (fun _ _ _ h => h) (Or.inl ⟨by rfl, ?_⟩) (by assumption) (fun h => till_no (by kernel_rfl) h) ?_
      rotate_left
      · intro w hSw; (try dsimp only at hSw); go_simp; try with_reducible rfl
      try simp only [Act.put, List.setIfInBounds_toArray, List.set_cons_zero, List.set_cons_succ]
      refine till_take (i := 26) (v := ?_) rfl rfl (by kernel_rfl) (by kernel_rfl) (by kernel_rfl) rfl (fun _ _ _ h => h) (Or.inl ⟨by rfl, ?_⟩) (by assumption) (fun h => till_no (by kernel_rfl) h) ?_
      rotate_left
      · intro w hSw; (try dsimp only at hSw); go_simp; try with_reducible rfl
      try simp only [Act.put, List.setIfInBounds_toArray, List.set_cons_zero, List.set_cons_succ]
      refine till_take (i := 27) (v := ?_) rfl rfl (by kernel_rfl) (by kernel_rfl) (by kernel_rfl) rfl (fun _ _ _ h => h) (Or.inl ⟨by rfl, ?_⟩) (by assumption) (fun h => till_no (by kernel_rfl) h) ?_
      rotate_left
      · intro w hSw; (try dsimp only at hSw); go_simp; try with_reducible rfl
      try simp only [Act.put, List.setIfInBounds_toArray, List.set_cons_zero, List.set_cons_succ]
      refine till_take (i := 28) (v := ?_) rfl rfl (by kernel_rfl) (by kernel_rfl) (by kernel_rfl) rfl (fun _ _ _ h => h) (Or.inl ⟨by rfl, ?_⟩) (by assumption) (fun h => till_no (by kernel_rfl) h) ?_
      rotate_left
      · intro w hSw; (try dsimp only at hSw); go_simp; try with_reducible rfl
      try simp only [Act.put, List.setIfInBounds_toArray, List.set_cons_zero, List.set_cons_succ]
      refine till_take (i := 29) (v := ?_) rfl rfl (by kernel_rfl) (by kernel_rfl) (by kernel_rfl) rfl (fun _ _ _ h => h) (Or.inl ⟨by rfl, ?_⟩) (by assumption) (fun h => till_no (by kernel_rfl) h) ?_
      rotate_left
      · intro w hSw; (try dsimp only at hSw); go_simp; try with_reducible rfl
      try simp only [Act.put, List.setIfInBounds_toArray, List.set_cons_zero, List.set_cons_succ]
      refine till_take (i := 30) (v := ?_) rfl rfl (by kernel_rfl) (by kernel_rfl) (by kernel_rfl) rfl (fun _ _ _ h => h) (Or.inl ⟨by rfl, ?_⟩) (by assumption) (fun h => till_no (by kernel_rfl) h) ?_
      rotate_left
      · intro w hSw; (try dsimp only at hSw); go_simp; try with_reducible rfl
      try simp only [Act.put, List.setIfInBounds_toArray, List.set_cons_zero, List.set_cons_succ]
      have c0 := M0.out.cell p (by (try simp only [List.length_set]); omega)
      have f0 := M0.out.free p
      obtain ⟨v1, hv1⟩ : ∃ v, v = v0.setCell ⟨w.heap.size, p, none⟩ (.int .u32 (X' : Int)) := ⟨_, rfl⟩
      have M1 : Hid (Arr v1 77 w.heap.size ((R k).set p X')) := by rw [hv1]; exact M0.out.set p X'
      have E1 : Hid (Arr v1 77 (w.heap.size + 1) (List.replicate 16 0)) := by rw [hv1]; exact E0.out.other _ (by simp) _
      have F1 : Hid (Blk v1 84 g #[.int .i64 p, .int .i64 q, .int .i64 r, .int .i64 s]) := by rw [hv1]; exact F0.out.other _ (by simp; omega) _
      have hB1 : Hid (Below w.heap.size w v1) := by rw [hv1]; exact hB1'.setCell (p := ⟨w.heap.size, p, none⟩) (Nat.le_refl _) _
      have hT1 := blk4 F1.out
      refine till_step (i := 31) (by kernel_rfl) rfl (fun K hK => ?_)
      go_simp
      rw [← hv1]
      refine hK.out _ _ (hT1) (fun h => till_no (by kernel_rfl) h) ?_
      clear hK K
      clear c0 f0 M0 E0 F0 hB1' hT hv1 v0
      refine till_take (i := 32) (v := ?_) rfl rfl (by kernel_rfl) (by kernel_rfl) (by kernel_rfl) rfl (fun _ _ _ h => h) (Or.inl ⟨by rfl, ?_⟩) (by assumption) (fun h => till_no (by kernel_rfl) h) ?_
      rotate_left
      · intro w hSw; (try dsimp only at hSw); go_simp; try with_reducible rfl
      try simp only [Act.put, List.setIfInBounds_toArray, List.set_cons_zero, List.set_cons_succ]
      have c1 := M1.out.cell q (by (try simp only [List.length_set]); omega)
      have f1 := M1.out.free q
      obtain ⟨v2, hv2⟩ : ∃ v, v = v1.setCell ⟨w.heap.size, q, none⟩ (.int .u32 (Y' : Int)) := ⟨_, rfl⟩
      have M2 : Hid (Arr v2 77 w.heap.size (((R k).set p X').set q Y')) := by rw [hv2]; exact M1.out.set q Y'
      have E2 : Hid (Arr v2 77 (w.heap.size + 1) (List.replicate 16 0)) := by rw [hv2]; exact E1.out.other _ (by simp) _
      have F2 : Hid (Blk v2 84 g #[.int .i64 p, .int .i64 q, .int .i64 r, .int .i64 s]) := by rw [hv2]; exact F1.out.other _ (by simp; omega) _
      have hB2 : Hid (Below w.heap.size w v2) := by rw [hv2]; exact hB1.out.setCell (p := ⟨w.heap.size, q, none⟩) (Nat.le_refl _) _
      have hT2 := blk4 F2.out
      refine till_step (i := 33) (by kernel_rfl) rfl (fun K hK => ?_)
      go_simp
      rw [← hv2]
      refine hK.out _ _ (hT2) (fun h => till_no (by kernel_rfl) h) ?_
      clear hK K
      clear c1 f1 M1 E1 F1 hB1 hT1 hv2 v1
      refine till_take (i := 34) (v := ?_) rfl rfl (by kernel_rfl) (by kernel_rfl) (by kernel_rfl) rfl (fun _ _ _ h => h) (Or.inl ⟨by rfl, ?_⟩) (by assumption) (fun h => till_no (by kernel_rfl) h) ?_
      rotate_left
      · intro w hSw; (try dsimp only at hSw); go_simp; try with_reducible rfl
      try simp only [Act.put, List.setIfInBounds_toArray, List.set_cons_zero, List.set_cons_succ]
      have c2 := M2.out.cell r (by (try simp only [List.length_set]); omega)
      have f2 := M2.out.free r
      obtain ⟨v3, hv3⟩ : ∃ v, v = v2.setCell ⟨w.heap.size, r, none⟩ (.int .u32 (Z' : Int)) := ⟨_, rfl⟩
      have M3 : Hid (Arr v3 77 w.heap.size ((((R k).set p X').set q Y').set r Z')) := by rw [hv3]; exact M2.out.set r Z'
      have E3 : Hid (Arr v3 77 (w.heap.size + 1) (List.replicate 16 0)) := by rw [hv3]; exact E2.out.other _ (by simp) _
      have F3 : Hid (Blk v3 84 g #[.int .i64 p, .int .i64 q, .int .i64 r, .int .i64 s]) := by rw [hv3]; exact F2.out.other _ (by simp; omega) _
      have hB3 : Hid (Below w.heap.size w v3) := by rw [hv3]; exact hB2.out.setCell (p := ⟨w.heap.size, r, none⟩) (Nat.le_refl _) _
      have hT3 := blk4 F3.out
      refine till_step (i := 35) (by kernel_rfl) rfl (fun K hK => ?_)
      go_simp
      rw [← hv3]
      refine hK.out _ _ (hT3) (fun h => till_no (by kernel_rfl) h) ?_
      clear hK K
      clear c2 f2 M2 E2 F2 hB2 hT2 hv3 v2
      refine till_take (i := 36) (v := ?_) rfl rfl (by kernel_rfl) (by kernel_rfl) (by kernel_rfl) rfl (fun _ _ _ h => h) (Or.inl ⟨by rfl, ?_⟩) (by assumption) (fun h => till_no (by kernel_rfl) h) ?_
      rotate_left
      · intro w hSw; (try dsimp only at hSw); go_simp; try with_reducible rfl
      try simp only [Act.put, List.setIfInBounds_toArray, List.set_cons_zero, List.set_cons_succ]
      have c3 := M3.out.cell s (by (try simp only [List.length_set]); omega)
      have f3 := M3.out.free s
      obtain ⟨v4, hv4⟩ : ∃ v, v = v3.setCell ⟨w.heap.size, s, none⟩ (.int .u32 (U' : Int)) := ⟨_, rfl⟩
      have M4 : Hid (Arr v4 77 w.heap.size (((((R k).set p X').set q Y').set r Z').set s U')) := by rw [hv4]; exact M3.out.set s U'
      have E4 : Hid (Arr v4 77 (w.heap.size + 1) (List.replicate 16 0)) := by rw [hv4]; exact E3.out.other _ (by simp) _
      have F4 : Hid (Blk v4 84 g #[.int .i64 p, .int .i64 q, .int .i64 r, .int .i64 s]) := by rw [hv4]; exact F3.out.other _ (by simp; omega) _
      have hB4 : Hid (Below w.heap.size w v4) := by rw [hv4]; exact hB3.out.setCell (p := ⟨w.heap.size, s, none⟩) (Nat.le_refl _) _
      have hT4 := blk4 F4.out
      refine till_step (i := 37) (by kernel_rfl) rfl (fun K hK => ?_)
      go_simp
      rw [← hv4]
      refine hK.out _ _ (hT4) (fun h => till_no (by kernel_rfl) h) ?_
      clear hK K
      clear c3 f3 M3 E3 F3 hB3 hT3 hv4 v3
      refine till_done (by kernel_rfl) (NoPanic.normal ?_) _
      have HA0' : Hid (Arr v4 77 w.heap.size (R (k + 1))) := by rw [HN.out]; exact M4
      clear M4 F4 hT4
      go_wp2
      go_roundw
      case rel => exact ⟨k + 1, by omega, by go_num, HA0', E4, hB4.out⟩
      case measure => simp [intOf]; omega
    · have hk' : k = 8 := by omega
      subst hk'
      have hl := HL.out 8
      go_wp2_with (first
        | (with_reducible refine wpList_loadArr rfl 77 _ rfl w.heap.size (R 8) ?hx HA0.out 16 74 Tryz.underlying77 ?hi ?_)
        | (with_reducible refine wpList_storeArr rfl 77 _ _ rfl (w.heap.size + 1) (List.replicate 16 0) (R 8) ?hx2 ?hy HA1.out ?hl ?hi2 ?_))
      case hx => rfl
      case hi => rw [hl]; exact Tryz.arr16
      case hl => rw [hl]; rfl
      case hi2 => exact Tryz.arr16
      exact bodyPost_arr rfl (w.heap.size + 1) (R 8) rfl rfl (HA1.out.setRow (R 8)) 16 74 Tryz.underlying77 (by rw [hl]; exact Tryz.arr16) ⟨rfl, below_setRow hbl (by omega) _⟩
end Go.Proofs.YtglgppeloolbhaaGreatDoor

/- The sixteen words with which a block begins. -/
namespace Go.Proofs.YtglgppeloolbhaaGreatDoor
open Go.RowKit
set_option maxRecDepth 100000
set_option linter.unusedSimpArgs false

set_option maxRecDepth 100000 in
set_option maxHeartbeats 4000000 in
theorem cbegin_any (key nonce : ByteArray) (c : Nat) (w : World) (hk : key.size = 32) (hn : nonce.size = 12) :
    Calls Tryz.prog 63 #[.string key, .string nonce, .int .i64 (c : Int)] w fun e w' => e = .returned (.agg (vals (firstN key nonce c))) ∧ Below w.heap.size w w' := by
  obtain ⟨F, HF⟩ : ∃ F, Hid (F = firstN key nonce c) := ⟨_, rfl⟩
  obtain ⟨f, Hf⟩ : ∃ f, Hid (f = wordS (textB key nonce c)) := ⟨_, rfl⟩
  have HFf : Hid (tabN 16 f = F) := by show _ = _; rw [HF.out, Hf.out]; rfl
  have HL : Hid (∀ i, f i < 4294967296) := by show ∀ i, _; rw [Hf.out]; exact wordS_lt _
  obtain ⟨A, hA⟩ : ∃ A, (⟨#[101, 120, 112, 97, 110, 100, 32, 51, 50, 45, 98, 121, 116, 101, 32, 107]⟩ : ByteArray) ++ key = A := ⟨_, rfl⟩
  have hAs : A.size = 48 := by rw [← hA, ByteArray.size_append, hk]; rfl
  obtain ⟨B, hB⟩ : ∃ B, B = (⟨(putL [(c : Int)] ssh).toArray⟩ : ByteArray) := ⟨_, rfl⟩
  have hBs : B.size = 4 := by rw [hB, put_size]; rfl
  obtain ⟨C, hC⟩ : ∃ C, A ++ B = C := ⟨_, rfl⟩
  have hCs : C.size = 52 := by rw [← hC, ByteArray.size_append, hAs, hBs]
  obtain ⟨D, hD⟩ : ∃ D, C ++ nonce = D := ⟨_, rfl⟩
  have hDs : D.size = 64 := by rw [← hD, ByteArray.size_append, hCs, hn]
  have hDt : D = textB key nonce c := by rw [← hD, ← hC, hB, ← hA]; rfl
  have HW : Hid (wordsL D ssh = wT f 16) := by
    show _ = _
    unfold wordsL wT
    rw [hDs, Hf.out, ← hDt]
    unfold wordS
    rw [hDs]
  have CP : Hid (∀ w a, IntsAt w .i64 a 1 [(c : Int)] → _) := fun w a h => putSmall_any a 1 1 [(c : Int)] w (by omega) h
  rw [← hB] at CP
  have CS : Hid (∀ w, _) := fun w => small_even D w (by omega) (by omega)
  have hsum1 : ¬ (9223372036854775807 < 16 + key.size) := by omega
  have hsum2 : ¬ (9223372036854775807 < A.size + B.size) := by omega
  have hsum3 : ¬ (9223372036854775807 < C.size + nonce.size) := by omega
  rw [← HF.out]
  clear hB hDt
  go_enter Tryz.func63, Tryz.ntmps63
  go_wp2_with fail
  have a0 := ((Arr.new w 77 (tabN 16 (cutN f 0)) _ rfl).alloc (.cells (vals (tabN 16 (cutN f 0))) 77)).alloc (.cells #[.int .i64 (c : Int)] 3)
  have a1 := (Arr.new' (w.alloc (.cells (vals (tabN 16 (cutN f 0))) 77)) 77 (tabN 16 (cutN f 0)) _ (w.heap.size + 1) (by simp) rfl).alloc (.cells #[.int .i64 (c : Int)] 3)
  have a2 := ints_lit ((w.alloc (.cells (vals (tabN 16 (cutN f 0))) 77)).alloc (.cells (vals (tabN 16 (cutN f 0))) 77)) .i64 (c : Int) 3
  have a3 : Below w.heap.size w (((w.alloc (.cells (vals (tabN 16 (cutN f 0))) 77)).alloc (.cells (vals (tabN 16 (cutN f 0))) 77)).alloc (.cells #[.int .i64 (c : Int)] 3)) := ((below_new w _).alloc (by simp) _).alloc (by simp; omega) _
  simp only [World.size_alloc] at a2
  generalize hq : World.alloc (World.alloc (World.alloc w _) _) _ = wq
  have A0 : Hid (Arr wq 77 w.heap.size (tabN 16 (cutN f 0))) := by rw [← hq]; exact a0
  have A1 : Hid (Arr wq 77 (w.heap.size + 1) (tabN 16 (cutN f 0))) := by rw [← hq]; exact a1
  have A2 : IntsAt wq .i64 (some ⟨w.heap.size + 1 + 1, 0, none⟩) 1 [(c : Int)] := by rw [← hq]; exact a2
  have hB0 : Below w.heap.size w wq := by rw [← hq]; exact a3
  clear a0 a1 a2 a3 hq
  refine (CP.out _ _ A2).mono ?_
  rintro e w1 ⟨rfl, hb1⟩
  have B0 : Hid (Arr w1 77 w.heap.size (tabN 16 (cutN f 0))) := A0.out.below hb1 A0.out.lt
  have B1 : Hid (Arr w1 77 (w.heap.size + 1) (tabN 16 (cutN f 0))) := A1.out.below hb1 A1.out.lt
  have hB1 := below_step hB0 (Nat.le_refl _) hb1
  clear A0 A1 A2 hB0 hb1 CP
  go_wp2_with fail
  refine (CS.out _).mono ?_
  rintro e w2 ⟨rfl, ho2, hb2⟩
  rw [HW.out] at ho2
  have hq16 : D.size / 4 = 16 := by omega
  rw [hq16] at ho2 ⊢
  have D0 : Hid (Arr w2 77 w.heap.size (tabN 16 (cutN f 0))) := B0.out.below hb2 B0.out.lt
  have D1 : Hid (Arr w2 77 (w.heap.size + 1) (tabN 16 (cutN f 0))) := B1.out.below hb2 B1.out.lt
  have hB2 := below_step hB1 (Nat.le_refl _) hb2
  have hg1 := B1.out.lt
  have D2 : Hid (IntsAt w2 .i64 (some ⟨w1.heap.size, 0, none⟩) 16 (wT f 16)) := ho2.ints
  clear B0 B1 hB1 ho2 hb2 CS HW hq16 hA hC hD hsum1 hsum2 hsum3
  generalize w1.heap.size = g at *
  go_wp2_with fail
  go_loopw [25] (fun i wr => ∃ k : Nat, k ≤ 16 ∧ i = .int .i64 k ∧ Hid (Arr wr 77 w.heap.size (tabN 16 (cutN f 0))) ∧ Hid (Arr wr 77 (w.heap.size + 1) (tabN 16 (cutN f k))) ∧ Hid (IntsAt wr .i64 (some ⟨g, 0, none⟩) 16 (wT f 16)) ∧ Below w.heap.size w wr) (fun i _ => 16 - (intOf i).toNat)
  case atStart => exact ⟨0, Nat.zero_le _, rfl, D0, D1, D2, hB2⟩
  case round =>
    clear D0 D1 D2 hB2
    obtain ⟨k, hk', rfl, HA0, HA1, HI, hbl⟩ := hrel
    by_cases hlt : k < 16
    · obtain ⟨X, hX⟩ : ∃ x, x = f k := ⟨_, rfl⟩
      have lX : X < 4294967296 := by rw [hX]; exact HL.out k
      have c0 := HI.out.cellAt k hlt
      rw [wT_getD _ _ _ hlt, ← hX] at c0
      have c1 := HA1.out.cell k (by rw [tabN_length]; exact hlt)
      have hf := HA1.out.free k
      have HO := HA1.out.set k X
      rw [hX, cutN_set, ← hX] at HO
      have HA0' : Hid (Arr _ 77 w.heap.size _) := HA0.out.other ⟨w.heap.size + 1, k, none⟩ (by simp) (Value.int .u32 (X : Int))
      have HI' : Hid (IntsAt _ .i64 (some ⟨g, 0, none⟩) 16 (wT f 16)) := HI.out.other ⟨w.heap.size + 1, k, none⟩ (by simp; omega) (Value.int .u32 (X : Int))
      have HO' : Hid (Arr _ 77 (w.heap.size + 1) _) := HO
      have HBl := hbl.setCell (p := ⟨w.heap.size + 1, k, none⟩) (by simp) (Value.int .u32 (X : Int))
      have b0 : (k : Int) < 16 := by omega
      clear hX HO HA0 HA1 HI
      go_wp2
      go_roundw
      case rel => exact ⟨k + 1, by omega, by go_num, HA0', HO', HI', HBl⟩
      case measure => simp [intOf]; omega
    · have hk16 : k = 16 := by omega
      subst hk16
      have hA1 := HA1.out
      rw [cutN_all, HFf.out] at hA1
      have HA1' : Hid (Arr wr 77 (w.heap.size + 1) F) := hA1
      have hl : F.length = 16 := by rw [← HFf.out, tabN_length]
      clear HA1 hA1 HI
      go_wp2_with (first
        | (with_reducible refine wpList_loadArr rfl 77 _ rfl (w.heap.size + 1) F ?hx HA1'.out 16 74 Tryz.underlying77 ?hi ?_)
        | (with_reducible refine wpList_storeArr rfl 77 _ _ rfl w.heap.size (tabN 16 (cutN f 0)) F ?hx2 ?hy HA0.out ?hl ?hi2 ?_))
      case hx => rfl
      case hi => rw [hl]; exact Tryz.arr16
      case hl => rw [hl, tabN_length]
      case hi2 => rw [tabN_length]; exact Tryz.arr16
      exact bodyPost_arr rfl w.heap.size F rfl rfl (HA0.out.setRow F) 16 74 Tryz.underlying77 (by rw [hl]; exact Tryz.arr16) ⟨rfl, below_setRow hbl (Nat.le_refl _) _⟩
end Go.Proofs.YtglgppeloolbhaaGreatDoor

/- A block of the program. -/
namespace Go.Proofs.YtglgppeloolbhaaGreatDoor
open Go.RowKit
set_option maxRecDepth 100000
set_option linter.unusedSimpArgs false

set_option maxRecDepth 100000 in
set_option maxHeartbeats 4000000 in
theorem block_any (key nonce : ByteArray) (c : Nat) (w : World) (hk : key.size = 32) (hn : nonce.size = 12) (hP : GlobP w) :
    Calls Tryz.prog 41 #[.string key, .string nonce, .int .i64 (c : Int)] w fun e w' => e = .returned (.string (blockB key nonce c)) ∧ Below w.heap.size w w' := by
  have CB : Hid (∀ w, _) := fun w => cbegin_any key nonce c w hk hn
  obtain ⟨F, HF⟩ : ∃ F, Hid (F = firstN key nonce c) := ⟨_, rfl⟩
  rw [← HF.out] at CB
  have hFl : F.length = 16 := by rw [HF.out]; exact firstN_length _ _ _
  have hFo : Hid (Ok F) := by show Ok F; rw [HF.out]; exact firstN_ok _ _ _
  obtain ⟨R, HR⟩ : ∃ R, Hid (R = roundsN F) := ⟨_, rfl⟩
  have HRl : Hid (∀ k, (R k).length = 16) := by show ∀ k, _; intro k; rw [HR.out, roundsN_length, hFl]
  have HRo : Hid (∀ k, Ok (R k)) := by show ∀ k, _; rw [HR.out]; exact roundsN_ok F hFo.out
  have HR0 : Hid (R 0 = F) := by show _ = _; rw [HR.out]; rfl
  have HRs : Hid (∀ k, R (k + 1) = stepsN (R k) 8) := by show ∀ k, _; rw [HR.out]; exact roundsN_succ F
  obtain ⟨N, HN⟩ : ∃ N : Nat → Nat, Hid (N = fun i => ((R 10).getD i 0 + F.getD i 0) % 4294967296) := ⟨_, rfl⟩
  obtain ⟨E, HE⟩ : ∃ E, Hid (E = (⟨(putL (wT N 16) ssh).toArray⟩ : ByteArray)) := ⟨_, rfl⟩
  have hE : E = blockB key nonce c := by rw [HE.out, HN.out, HR.out, HF.out]; rfl
  rw [← hE]
  have HP : Hid (GlobP w) := hP
  obtain ⟨i0, hi, hz0, hz1, hz2⟩ := info_parts Tryz.info3
  clear hE hP HR
  go_enter Tryz.func41, Tryz.ntmps41
  go_wp2_with fail
  refine (CB.out _).mono ?_
  rintro e w1 ⟨rfl, hb1⟩
  clear CB
  go_wp2_with (with_reducible refine wpList_storeArrH rfl 77 _ _ rfl w1.heap.size (List.replicate 16 0) F ?hx ?hy ?ha ?hl ?hi ?_)
  case hx => rfl
  case hy => rfl
  case ha => exact Arr.new w1 77 (List.replicate 16 0) _ rfl
  case hl => rw [hFl]; rfl
  case hi => exact Tryz.arr16
  unfold Hid
  rw [World.setRow_alloc_new]
  have hB1 : Below w.heap.size w (w1.alloc (.cells (vals F) 77)) := hb1.alloc hb1.size _
  have A0 : Hid (Arr (w1.alloc (.cells (vals F) 77)) 77 w1.heap.size F) := Arr.new w1 77 F _ rfl
  have hz : w1.heap.size < (w1.alloc (.cells (vals F) 77)).heap.size := by simp
  have hg : w.heap.size ≤ w1.heap.size := hb1.size
  clear hb1
  generalize w1.alloc _ = w2 at *
  generalize w1.heap.size = g at *
  go_wp2_with (first
    | (with_reducible refine wpList_loadArr rfl 77 _ rfl g F ?hx A0.out 16 74 Tryz.underlying77 ?hi0 ?_)
    | (with_reducible refine wpList_storeArrH rfl 77 _ _ rfl w2.heap.size (List.replicate 16 0) F ?hx2 ?hy ?ha ?hl ?hi ?_))
  case hx => rfl
  case hi0 => rw [hFl]; exact Tryz.arr16
  case hx2 => rfl
  case hy => rfl
  case ha => exact Arr.new w2 77 (List.replicate 16 0) _ rfl
  case hl => rw [hFl]; rfl
  case hi => exact Tryz.arr16
  unfold Hid
  rw [World.setRow_alloc_new]
  have hB2 : Below w.heap.size w (w2.alloc (.cells (vals F) 77)) := hB1.alloc hB1.size _
  have D0 : Hid (Arr (w2.alloc (.cells (vals F) 77)) 77 g F) := A0.out.alloc _
  have D1 : Hid (Arr (w2.alloc (.cells (vals F) 77)) 77 w2.heap.size F) := Arr.new w2 77 F _ rfl
  clear A0 hB1
  generalize w2.alloc _ = w3 at *
  generalize w2.heap.size = g1 at *
  go_wp2_with fail
  go_loopw [16] (fun i wr => ∃ k : Nat, k ≤ 10 ∧ i = .int .i64 k ∧ Hid (Arr wr 77 g F) ∧ Hid (Arr wr 77 g1 (R k)) ∧ Below w.heap.size w wr) (fun i _ => 10 - (intOf i).toNat)
  case atStart => exact ⟨0, Nat.zero_le _, rfl, D0, by rw [HR0.out]; exact D1, hB2⟩
  case round =>
    clear D0 D1 hB2
    obtain ⟨k, hk', rfl, HA0, HA1, hbl⟩ := hrel
    by_cases hlt : k < 10
    · have hl := HRl.out k
      have hl' := HRl.out (k + 1)
      go_wp2_with (with_reducible refine wpList_loadArr rfl 77 _ rfl g1 (R k) ?hx HA1.out 16 74 Tryz.underlying77 ?hi ?_)
      case hx => rfl
      case hi => rw [hl]; exact Tryz.arr16
      refine (round_any (R k) _ hl (HRo.out k) (HP.out.below hbl)).mono ?_
      rw [← HRs.out k]
      rintro e w4 ⟨rfl, hb4⟩
      have HD0 : Hid (Arr w4 77 g F) := HA0.out.below hb4 HA0.out.lt
      have HD1 : Hid (Arr w4 77 g1 (R k)) := HA1.out.below hb4 HA1.out.lt
      have hB4 := below_step hbl (Nat.le_refl _) hb4
      clear HA0 HA1 hbl hb4
      go_wp2_with (with_reducible refine wpList_storeArrH rfl 77 _ _ rfl g1 (R k) (R (k + 1)) ?hx ?hy HD1.out ?hl ?hi ?_)
      case hx => rfl
      case hy => rfl
      case hl => rw [hl, hl']
      case hi => rw [hl]; exact Tryz.arr16
      unfold Hid
      have N0 : Hid (Arr (w4.setRow g1 (vals (R (k + 1)))) 77 g F) := HD0.out.setRowOther _ (by omega) _
      have N1 : Hid (Arr (w4.setRow g1 (vals (R (k + 1)))) 77 g1 (R (k + 1))) := HD1.out.setRow _
      have hN := below_setRow hB4 (show w.heap.size ≤ g1 by omega) (vals (R (k + 1)))
      clear HD0 HD1 hB4
      go_wp2
      go_roundw
      case rel => exact ⟨k + 1, by omega, by go_num, N0, N1, hN⟩
      case measure => simp [intOf]; omega
    · have hk10 : k = 10 := by omega
      subst hk10
      obtain ⟨w5, h5⟩ : ∃ w5, w5 = wr := ⟨_, rfl⟩
      rw [← h5] at HA0 HA1 hbl ⊢
      clear h5
      have lg := HA0.out.lt
      have lg1 := HA1.out.lt
      go_wp2_with (at_make; refine wpList_make_full _ rfl _ _ 47 rfl w5.heap.size 3 i0 (.int .i64 0) 1 Tryz.underlying47 hi hz0 hz1 _ _ _ _ 16 rfl rfl ?b4 ?b5 ?b1 ?b2 ?b3 ?_)
      case b1 => rw [hz2]; omega
      case b2 => unfold maxLen; omega
      case b3 => omega
      case b4 => omega
      case b5 => omega
      intro w6 hown0 hgrow
      have hown : Own w6 w5.heap.size 3 .i64 w5.heap.size 16 (wT (cutN N 0) 16) := Own.made' _ (fun i _ => by unfold cutN; rw [if_neg (by omega)]; rfl) hown0
      have hb6 : Below w5.heap.size w5 w6 := (Below.refl _ _).grown hgrow (Nat.le_refl _) (fun k hk => by cases hk)
      have hB6 := below_step hbl (Nat.le_refl _) hb6
      have V0 : Hid (Arr w6 77 g F) := HA0.out.below hb6 lg
      have V1 : Hid (Arr w6 77 g1 (R 10)) := HA1.out.below hb6 lg1
      have hgr : w.heap.size ≤ w5.heap.size := hbl.size
      clear hown0 hgrow hi hz0 hz1 hz2 HA0 HA1 hbl hb6
      generalize w5.heap.size = h at *
      clear w5
      go_wp2
      go_loopw [22] (fun i wr => ∃ k : Nat, k ≤ 16 ∧ i = .int .i64 k ∧ Own wr h 3 .i64 h 16 (wT (cutN N k) 16) ∧ Hid (Arr wr 77 g F) ∧ Hid (Arr wr 77 g1 (R 10)) ∧ Below w.heap.size w wr) (fun i _ => 16 - (intOf i).toNat)
      case atStart => exact ⟨0, Nat.zero_le _, rfl, hown, V0, V1, hB6⟩
      case round =>
        clear hown V0 V1 hB6
        obtain ⟨k, hk16, rfl, hown, V0, V1, hbl⟩ := hrel
        by_cases hlt : k < 16
        · have c0 := V0.out.cell k (by omega)
          have c1 := V1.out.cell k (by rw [HRl.out]; omega)
          have lX := hFo.out k
          have lY := HRo.out 10 k
          have c2 := hown.cell k hlt
          have f2 := hown.free k
          have HO := hown.set k ((N k : Nat) : Int)
          rw [wT_cut_set] at HO
          have hNk : N k = ((R 10).getD k 0 + F.getD k 0) % 4294967296 := by rw [HN.out]
          generalize F.getD k 0 = X at *
          generalize (R 10).getD k 0 = Y at *
          generalize N k = Z at *
          have lZ : Z < 4294967296 := by omega
          have VN : Hid (IntKind.u32.wrap ((Y : Int) + (X : Int)) = (Z : Int)) := by show _ = _; rw [u32_wrap, hNk]; omega
          obtain ⟨wn, hwn⟩ : ∃ wn, Hid (wn = wr.setCell ⟨h, k, none⟩ (.int .i64 (Z : Int))) := ⟨_, rfl⟩
          have HO' : Own wn h 3 .i64 h 16 (wT (cutN N (k + 1)) 16) := by rw [hwn.out]; exact HO
          have V0' : Hid (Arr wn 77 g F) := by rw [hwn.out]; exact V0.out.other _ (by simp; omega) _
          have V1' : Hid (Arr wn 77 g1 (R 10)) := by rw [hwn.out]; exact V1.out.other _ (by simp; omega) _
          have hbl' : Below w.heap.size w wn := by rw [hwn.out]; exact hbl.setCell (p := ⟨h, k, none⟩) hgr _
          have b0 : (k : Int) < 16 := by omega
          have SS : Hid ((wr.setCell ⟨h, k, none⟩ (.int .i64 (Z : Int))).cell? ⟨g, k, none⟩ = some (.int .u32 (X : Int)) ∧ (wr.setCell ⟨h, k, none⟩ (.int .i64 (Z : Int))).cell? ⟨g1, k, none⟩ = some (.int .u32 (Y : Int))) :=
            ⟨by rw [World.cell?_setCell_far _ _ _ _ (show h ≠ g by omega)]; exact c0, by rw [World.cell?_setCell_far _ _ _ _ (show h ≠ g1 by omega)]; exact c1⟩
          clear HO hNk hown V0 V1 hbl
          go_wp2_with fail
          refine wp_region_noPanic ?_
          refine wp_region_held_drew (S := fun w' => w'.cell? ⟨g, k, none⟩ = some (.int .u32 (X : Int)) ∧ w'.cell? ⟨g1, k, none⟩ = some (.int .u32 (Y : Int))) (by kernel_rfl) (by first | exact trivial | assumption | exact ⟨by assumption, by assumption⟩) (fun hHeld => ?_)
          refine take_at (i := 0) (v := ?_) rfl rfl (by kernel_rfl) (by kernel_rfl) (by kernel_rfl) (fun _ _ _ h => h) (Or.inl ⟨by rfl, ?_⟩) (by assumption) ?_
          rotate_left
          · intro w hSw; (try dsimp only at hSw); go_simp; try with_reducible rfl
          try simp only [Act.put, List.setIfInBounds_toArray, List.set_cons_zero, List.set_cons_succ]
          refine take_at (i := 1) (v := ?_) rfl rfl (by kernel_rfl) (by kernel_rfl) (by kernel_rfl) (fun _ _ _ h => h) (Or.inl ⟨by rfl, ?_⟩) (by assumption) ?_
          rotate_left
          · intro w hSw; (try dsimp only at hSw); go_simp; try with_reducible rfl
          try simp only [Act.put, List.setIfInBounds_toArray, List.set_cons_zero, List.set_cons_succ]
          refine take_at (i := 2) (v := ?_) rfl rfl (by kernel_rfl) (by kernel_rfl) (by kernel_rfl) (fun _ _ _ h => h) (Or.inl ⟨by rfl, ?_⟩) (by assumption) ?_
          rotate_left
          · intro w hSw; (try dsimp only at hSw); go_simp; try with_reducible rfl
          try simp only [Act.put, List.setIfInBounds_toArray, List.set_cons_zero, List.set_cons_succ]
          refine take_at (i := 3) (v := ?_) rfl rfl (by kernel_rfl) (by kernel_rfl) (by kernel_rfl) (fun _ _ _ h => h) (Or.inl ⟨by rfl, ?_⟩) (by assumption) ?_
          rotate_left
          · intro w hSw; (try dsimp only at hSw); go_simp; try with_reducible rfl
          try simp only [Act.put, List.setIfInBounds_toArray, List.set_cons_zero, List.set_cons_succ]
          refine take_at (i := 4) (v := ?_) rfl rfl (by kernel_rfl) (by kernel_rfl) (by kernel_rfl) (fun _ _ _ h => h) (Or.inl ⟨by rfl, ?_⟩) (by assumption) ?_
          rotate_left
          · intro w hSw; (try dsimp only at hSw); go_simp; try with_reducible rfl
          try simp only [Act.put, List.setIfInBounds_toArray, List.set_cons_zero, List.set_cons_succ]
          refine take_at (i := 5) (v := ?_) rfl rfl (by kernel_rfl) (by kernel_rfl) (by kernel_rfl) (fun _ _ _ h => h) (Or.inl ⟨by rfl, ?_⟩) (by assumption) ?_
          rotate_left
          · intro w hSw; (try dsimp only at hSw); go_simp; try with_reducible rfl
          try simp only [Act.put, List.setIfInBounds_toArray, List.set_cons_zero, List.set_cons_succ]
          refine take_at (i := 6) (v := ?_) rfl rfl (by kernel_rfl) (by kernel_rfl) (by kernel_rfl) (fun _ _ _ h => h) (Or.inl ⟨by rfl, ?_⟩) (by assumption) ?_
          rotate_left
          · intro w hSw; (try dsimp only at hSw); go_simp; try with_reducible rfl
          try simp only [Act.put, List.setIfInBounds_toArray, List.set_cons_zero, List.set_cons_succ]
          refine take_at (i := 7) (v := ?_) rfl rfl (by kernel_rfl) (by kernel_rfl) (by kernel_rfl) (fun _ _ _ h => h) (Or.inl ⟨by rfl, ?_⟩) (by assumption) ?_
          rotate_left
          · intro w hSw; (try dsimp only at hSw); go_simp; try with_reducible rfl
          try simp only [Act.put, List.setIfInBounds_toArray, List.set_cons_zero, List.set_cons_succ]
          refine take_at (i := 8) (v := ?_) rfl rfl (by kernel_rfl) (by kernel_rfl) (by kernel_rfl) (fun _ _ _ h => h) (Or.inl ⟨by rfl, ?_⟩) (by assumption) ?_
          rotate_left
          · intro w hSw; (try dsimp only at hSw); go_simp; try with_reducible rfl
          try simp only [Act.put, List.setIfInBounds_toArray, List.set_cons_zero, List.set_cons_succ]
          refine take_at (i := 9) (v := ?_) rfl rfl (by kernel_rfl) (by kernel_rfl) (by kernel_rfl) (fun _ _ _ h => h) (Or.inl ⟨by rfl, ?_⟩) (by assumption) ?_
          rotate_left
          · intro w hSw; (try dsimp only at hSw); go_simp; try with_reducible rfl
          try simp only [Act.put, List.setIfInBounds_toArray, List.set_cons_zero, List.set_cons_succ]
          refine take_at (i := 10) (v := ?_) rfl rfl (by kernel_rfl) (by kernel_rfl) (by kernel_rfl) (fun _ _ _ h => h) (Or.inl ⟨by rfl, ?_⟩) (by assumption) ?_
          rotate_left
          · intro w hSw; (try dsimp only at hSw); go_simp; try with_reducible rfl
          try simp only [Act.put, List.setIfInBounds_toArray, List.set_cons_zero, List.set_cons_succ]
          refine wpAnyH_ready (rs := [11]) (by kernel_rfl) (by simp) ?_
          refine AllReadyH.cons rfl (fun K hK => ?_) AllReadyH.nil
          go_simp
          rw [VN.out, wrap_nat Z (by omega)]
          refine hK.out _ _ SS.out (fun hHeld => ?_)
          clear hK K
          refine wpAnyH_done (by kernel_rfl) (NoPanic.normal ?_) _
          rw [← hwn.out]
          clear c0 c1 c2 f2 SS VN hwn
          go_wp2
          go_roundw
          case rel => exact ⟨k + 1, by omega, by go_num, by exact World.ownsRow.drew HO', V0', V1', hbl'.drew⟩
          case measure => simp [intOf]; omega
        · have hk8 : k = 16 := by omega
          subst hk8
          rw [wT_cut_all] at hown
          have CP : Hid (∀ w, IntsAt w .i64 (some ⟨h, 0, none⟩) 16 (wT N 16) → _) := fun w hI => putSmall_any (some ⟨h, 0, none⟩) 16 16 (wT N 16) w (by omega) hI
          rw [← HE.out] at CP
          have HI : Hid (IntsAt wr .i64 (some ⟨h, 0, none⟩) 16 (wT N 16)) := hown.ints
          clear hown V0 V1
          go_wp2_with fail
          refine (CP.out _ HI.out).mono ?_
          rintro e w7 ⟨rfl, hb7⟩
          have hB7 := below_step hbl (Nat.le_refl _) hb7
          clear hb7 CP
          go_wp2_with fail
          go_ret
          exact ⟨rfl, hB7⟩
end Go.Proofs.YtglgppeloolbhaaGreatDoor

/- What is fit; Block. -/
namespace Go.Proofs.YtglgppeloolbhaaGreatDoor
open Go.RowKit
set_option maxRecDepth 100000
set_option linter.unusedSimpArgs false

/-- There is a block of these. -/
def Fits (key nonce : ByteArray) (c : Int) : Prop := key.size = 32 ∧ nonce.size = 12 ∧ 0 ≤ c ∧ c < 4294967296

set_option maxHeartbeats 1000000 in
theorem fit_yes (key nonce : ByteArray) (c : Int) (w : World) (h : Fits key nonce c) :
    Calls Tryz.prog 40 #[.string key, .string nonce, .int .i64 c] w fun e w' => e = .returned (.bool true) ∧ w' = w := by
  obtain ⟨h1, h2, h3, h4⟩ := h
  have g3 : decide (0 ≤ c) = true := by simp; omega
  have g4 : decide (c < 4294967296) = true := by simp; omega
  clear h3 h4
  go_enter Tryz.func40, Tryz.ntmps40
  go_wp2
  go_ret
  exact ⟨rfl, rfl⟩

set_option maxHeartbeats 1000000 in
theorem cblock_yes (key nonce : ByteArray) (c : Nat) (w : World) (h : Fits key nonce (c : Int)) (hP : GlobP w) :
    Calls Tryz.prog 28 #[.string key, .string nonce, .int .i64 (c : Int)] w fun e w' => e = .returned (.tuple #[.string (blockB key nonce c), .int .i64 0]) ∧ Below w.heap.size w w' := by
  have C1 : Hid (∀ w, _) := fun w => fit_yes key nonce (c : Int) w h
  have C2 : Hid (∀ w, GlobP w → _) := fun w hP => block_any key nonce c w h.1 h.2.1 hP
  obtain ⟨E, HE⟩ : ∃ E, Hid (E = blockB key nonce c) := ⟨_, rfl⟩
  rw [← HE.out] at C2 ⊢
  have HP : Hid (GlobP w) := hP
  clear hP h
  go_enter Tryz.func28, Tryz.ntmps28
  go_wp2_with fail
  refine (C1.out _).mono ?_
  rintro e w' ⟨rfl, rfl⟩
  go_wp2_with fail
  refine (C2.out _ HP.out).mono ?_
  rintro e w2 ⟨rfl, hb⟩
  go_wp2_with fail
  go_ret2
  exact ⟨rfl, hb⟩

end Go.Proofs.YtglgppeloolbhaaGreatDoor

/- Stream of the program. -/
namespace Go.Proofs.YtglgppeloolbhaaGreatDoor
open Go.RowKit
set_option maxRecDepth 100000
set_option linter.unusedSimpArgs false

/-- The first i blocks from a counter on. -/
def allB (key nonce : ByteArray) (c : Nat) : Nat → ByteArray
  | 0 => ⟨#[]⟩
  | i + 1 => allB key nonce c i ++ blockB key nonce (c + i)
theorem allB_succ (key nonce : ByteArray) (c i : Nat) : allB key nonce c (i + 1) = allB key nonce c i ++ blockB key nonce (c + i) := rfl
theorem allB_size (key nonce : ByteArray) (c i : Nat) : (allB key nonce c i).size = 64 * i := by
  induction i with
  | zero => rfl
  | succ i ih => rw [allB_succ, ByteArray.size_append, ih, blockB_size]; omega
def keyB (key nonce : ByteArray) (c n : Nat) : ByteArray := (allB key nonce c ((n + 63) / 64)).extract 0 n
theorem keyB_size (key nonce : ByteArray) (c n : Nat) : (keyB key nonce c n).size = n := by
  unfold keyB; rw [ByteArray.size_extract, allB_size]; omega
def streamB (key nonce : ByteArray) (c : Nat) (s : ByteArray) : ByteArray := ⟨(xorL s (keyB key nonce c s.size)).toArray⟩

set_option maxRecDepth 100000 in
set_option maxHeartbeats 4000000 in
theorem stream_yes (key nonce : ByteArray) (c : Nat) (s : ByteArray) (w : World) (h : Fits key nonce (c : Int)) (hs : s.size ≤ 65536) (hb : s.size ≤ (4294967296 - c) * 64) (hP : GlobP w) :
    Calls Tryz.prog 21 #[.string key, .string nonce, .int .i64 (c : Int), .string s] w fun e w' => e = .returned (.tuple #[.string (streamB key nonce c s), .int .i64 0]) ∧ Below w.heap.size w w' := by
  have HP : Hid (GlobP w) := hP
  have C1 : Hid (∀ w, _) := fun w => fit_yes key nonce (c : Int) w h
  have hc : c < 4294967296 := by have := h.2.2.2; omega
  have C2 : Hid (∀ k w, GlobP w → Calls Tryz.prog 41 #[.string key, .string nonce, .int .i64 ((c : Int) + ((k : Nat) : Int))] w fun e w' => e = .returned (.string (blockB key nonce (c + k))) ∧ Below w.heap.size w w') := by
    show ∀ k w, GlobP w → _
    intro k w hP
    have := block_any key nonce (c + k) w h.1 h.2.1 hP
    rw [Int.natCast_add] at this
    exact this
  obtain ⟨i0, hi, hz0, hz1, hz2⟩ := info_parts Tryz.info5
  obtain ⟨m, Hm⟩ : ∃ m, Hid (m = (s.size + 63) / 64) := ⟨_, rfl⟩
  have hm : m ≤ 1024 := by rw [Hm.out]; omega
  have hnm : s.size ≤ 64 * m := by rw [Hm.out]; omega
  have hq : Int.tdiv ((s.size : Int) + 64 - 1) 64 = (m : Int) := by rw [Hm.out, Int.tdiv_eq_ediv_of_nonneg (by omega)]; omega
  have g1 : decide ((65536 : Int) < (s.size : Int)) = false := by simp; omega
  have g2 : decide ((4294967296 - (c : Int)) * 64 < (s.size : Int)) = false := by simp; omega
  obtain ⟨E, HE⟩ : ∃ E, Hid (E = streamB key nonce c s) := ⟨_, rfl⟩
  obtain ⟨G, HG⟩ : ∃ G, Hid (G = keyB key nonce c s.size) := ⟨_, rfl⟩
  have hGs : G.size = s.size := by rw [HG.out, keyB_size]
  have CX : Hid (∀ w, _) := fun w => xor_len s G w (by omega) hGs
  have hEG : (⟨(xorL s G).toArray⟩ : ByteArray) = E := by rw [HE.out, HG.out]; rfl
  rw [hEG] at CX
  obtain ⟨D, HD⟩ : ∃ D : Nat → ByteArray, Hid (D = allB key nonce c) := ⟨_, rfl⟩
  have HDs : Hid (∀ i, D (i + 1) = D i ++ blockB key nonce (c + i)) := by show ∀ i, _; rw [HD.out]; exact allB_succ key nonce c
  have HDz : Hid (∀ i, (D i).size = 64 * i) := by show ∀ i, _; rw [HD.out]; exact allB_size key nonce c
  have HD0 : Hid (D 0 = ⟨#[]⟩) := by show _ = _; rw [HD.out]; rfl
  have HGD : Hid (G = (D m).extract 0 s.size) := by show _ = _; rw [HG.out, HD.out, Hm.out]; rfl
  rw [← HE.out]
  clear hP hEG HE HG h
  go_enter Tryz.func21, Tryz.ntmps21
  go_wp2_with fail
  refine (C1.out _).mono ?_
  rintro e w' ⟨rfl, rfl⟩
  clear C1
  go_wp2_with (at_make; refine wpList_make_own _ rfl _ _ 35 rfl w'.heap.size 5 i0 (.int .u8 0) 1 Tryz.underlying35 hi hz0 hz1 _ _ _ (64 * m) rfl rfl ?b5 ?b1 ?b2 ?b3 ?_)
  case b5 => omega
  case b1 => rw [hz2]; omega
  case b2 => unfold maxLen; omega
  case b3 => omega
  intro w1 hown0 hgrow
  have hbl0 : Below w'.heap.size w' w1 := (Below.refl _ _).grown hgrow (Nat.le_refl _) (fun k hk => by cases hk)
  clear hgrow g1 g2 hq
  generalize hgv : w'.heap.size = g at *
  go_wp2
  go_loopw [11, 40] (fun a i wr => ∃ k : Nat, k ≤ m ∧ i = .int .i64 k ∧ a = .slice (some ⟨g, 0, none⟩) (64 * k) (64 * m) ∧ wr.ownsRow g 5 1 (.slice (some ⟨g, 0, none⟩) (64 * k) (64 * m)) (64 * k) (Lib.strCells (D k)) ∧ Below g w' wr) (fun _ i _ => m - (intOf i).toNat)
  case atStart => exact ⟨0, Nat.zero_le _, rfl, rfl, by rw [HD0.out]; exact hown0, hbl0⟩
  case round =>
    clear hown0 hbl0
    obtain ⟨k, hk, rfl, rfl, hown, hbl⟩ := hrel
    by_cases hlt : k < m
    · have CB := C2.out k
      obtain ⟨T', hT'⟩ : ∃ T', Hid (T' = blockB key nonce (c + k)) := ⟨_, rfl⟩
      rw [← hT'.out] at CB
      have hTs' : T'.size = 64 := by rw [hT'.out]; exact blockB_size _ _ _
      have C : Hid (∀ w, GlobP w → _) := CB
      clear CB
      go_wp2_with fail
      refine (C.out _ (HP.out.below (by rw [hgv]; exact hbl))).mono ?_
      rintro e w2 ⟨rfl, hb2⟩
      have hB2 := below_step hbl (by omega) hb2
      have ho2 := owns_below hown hb2 (owns_lt hown)
      clear hown hbl hb2 C
      go_wp2_with (at_builtin; refine Lib.wpList_append_fits_string _ rfl _ _ 35 9 rfl g 5 i0 Tryz.underlying35 Tryz.underlying9 hi hz1 _ _ _ _ rfl ho2 T' rfl (by omega) (by omega) ?_)
      intro w3 ho3 hg3
      have hB3 : Below g w' w3 := hB2.grown hg3 (by have := hB2.size; omega) (fun k hk => by cases hk; exact Nat.le_refl _)
      rw [← strCells_append, show 64 * k + 64 = 64 * (k + 1) by omega] at ho3
      rw [show 64 * k + 64 = 64 * (k + 1) by omega]
      clear ho2 hB2 hg3
      go_wp2
      go_roundw
      case rel => exact ⟨k + 1, by omega, by go_num, rfl, by rw [HDs.out, ← hT'.out]; exact ho3, hB3⟩
      case measure => simp [intOf]; omega
    · have hk' : k = m := by omega
      subst hk'
      have hcv := (row_of_owns hown).conv (P := Tryz.prog) (bt_lt _) s.size (64 * k) (by rw [HDz.out]; exact hnm) 35 9 Tryz.underlying35 Tryz.underlying5 Tryz.underlying9
      rw [bytesOf_extract _ s.size (by rw [HDz.out]; exact hnm), ← HGD.out] at hcv
      clear hown
      go_wp2_with fail
      refine (CX.out _).mono ?_
      rintro e w4 ⟨rfl, hb4⟩
      have hB4 := below_step hbl (by omega) hb4
      clear hcv hb4 CX hbl
      go_wp2_with fail
      go_ret2
      exact ⟨rfl, by rw [hgv]; exact hB4⟩

end Go.Proofs.YtglgppeloolbhaaGreatDoor

/- Streams byte by byte: plain facts. -/
namespace Go.Proofs.YtglgppeloolbhaaGreatDoor
open Go.RowKit
set_option maxRecDepth 100000
set_option linter.unusedSimpArgs false

theorem streamB_size (key nonce : ByteArray) (c : Nat) (s : ByteArray) : (streamB key nonce c s).size = s.size := by
  show (xorL s (keyB key nonce c s.size)).toArray.size = _
  rw [List.size_toArray, xorL_length _ _ (keyB_size _ _ _ _)]
theorem bt_xorL (a b : ByteArray) (j : Nat) (ha : j < a.size) (hb : j < b.size) : bt ⟨(xorL a b).toArray⟩ j = bt a j ^^^ bt b j := by
  have hl : j < (xorL a b).length := by
    simp only [xorL, List.length_zipWith, Array.length_toList]
    exact Nat.lt_min.2 ⟨ha, hb⟩
  rw [bt_mk, List.getD_eq_getElem?_getD, List.getElem?_eq_getElem hl, Option.getD_some, xorL_get a b j ha hb hl, UInt8.toNat_xor]
  have e1 := bt_get a j ha
  have e2 := bt_get b j hb
  rw [e1, e2]
theorem bt_all (key nonce : ByteArray) (c i j : Nat) (h : j < 64 * i) : bt (allB key nonce c i) j = bt (blockB key nonce (c + j / 64)) (j % 64) := by
  induction i with
  | zero => omega
  | succ i ih =>
    rw [allB_succ]
    by_cases h1 : j < 64 * i
    · rw [bt_append_left _ _ _ (by rw [allB_size]; exact h1), ih h1]
    · have e : j = (allB key nonce c i).size + (j - 64 * i) := by rw [allB_size]; omega
      rw [e, bt_append_right, ← e, show j / 64 = i by omega, show j - 64 * i = j % 64 by omega]
theorem bt_key (key nonce : ByteArray) (c n j : Nat) (h : j < n) : bt (keyB key nonce c n) j = bt (blockB key nonce (c + j / 64)) (j % 64) := by
  unfold keyB
  rw [bt_extract _ 0 n j (by omega) (by rw [allB_size]; omega), Nat.zero_add, bt_all _ _ _ _ _ (by omega)]
theorem bt_stream (key nonce : ByteArray) (c : Nat) (s : ByteArray) (j : Nat) (h : j < s.size) : bt (streamB key nonce c s) j = bt s j ^^^ bt (blockB key nonce (c + j / 64)) (j % 64) := by
  unfold streamB
  rw [bt_xorL _ _ _ h (by rw [keyB_size]; exact h), bt_key _ _ _ _ _ h]
end Go.Proofs.YtglgppeloolbhaaGreatDoor

/- The block of noughts, computed by the kernel. -/
namespace Go.Proofs.YtglgppeloolbhaaGreatDoor
open Go.RowKit
set_option maxRecDepth 100000

end Go.Proofs.YtglgppeloolbhaaGreatDoor
