import Derived.Test.YtabhkebkbidfhaaDoorG
/- Runes on plain bytes: nothing of the program. -/
namespace Go.Proofs.YtabhkebkbidfhaaDoor
open Go.RowKit
set_option maxRecDepth 100000
set_option linter.unusedSimpArgs false

/-- Does a byte go on a rune? -/
abbrev contB (s : ByteArray) (i : Nat) : Prop := i < s.size ∧ 128 ≤ bt s i ∧ bt s i ≤ 191

abbrev contAll (s : ByteArray) (n : Nat) : Prop := ∀ i, i < n → contB s (i + 1)

/-- The number of a rune's bits so far. -/
def accR (s : ByteArray) (x : Nat) : Nat → Nat
  | 0 => x
  | k + 1 => accR s x k * 64 + bt s (k + 1) % 64

theorem accR_succ (s : ByteArray) (x k : Nat) : accR s x (k + 1) = accR s x k * 64 + bt s (k + 1) % 64 := rfl

abbrev goodR (x least : Nat) : Prop := least ≤ x ∧ x ≤ 1114111 ∧ ¬ (55296 ≤ x ∧ x ≤ 57343)

def oneTail (s : ByteArray) (n least x : Nat) : Option (Nat × Nat) := if contAll s n ∧ goodR (accR s x n) least then some (accR s x n, n + 1) else none

/-- The rune that a text begins with, and how many bytes it has; none: it is none of UTF-8. -/
def oneP (s : ByteArray) : Option (Nat × Nat) :=
  if bt s 0 < 128 then some (bt s 0, 1)
  else if 194 ≤ bt s 0 ∧ bt s 0 ≤ 223 then oneTail s 1 128 (bt s 0 % 32)
  else if 224 ≤ bt s 0 ∧ bt s 0 ≤ 239 then oneTail s 2 2048 (bt s 0 % 16)
  else if 240 ≤ bt s 0 ∧ bt s 0 ≤ 244 then oneTail s 3 65536 (bt s 0 % 8)
  else none

def runeX (o : Option (Nat × Nat)) : Int := match o with | some (x, _) => (x : Int) | none => -1

def runeK (o : Option (Nat × Nat)) : Nat := match o with | some (_, k) => k | none => 1

theorem accR_le (s : ByteArray) (x k : Nat) (hx : x ≤ 31) (hk : k ≤ 3) : accR s x k ≤ 8388607 := by
  have h1 : bt s 1 % 64 < 64 := Nat.mod_lt _ (by decide)
  have h2 : bt s 2 % 64 < 64 := Nat.mod_lt _ (by decide)
  have h3 : bt s 3 % 64 < 64 := Nat.mod_lt _ (by decide)
  match k, hk with
  | 0, _ => show x ≤ _; omega
  | 1, _ => show x * 64 + bt s 1 % 64 ≤ _; omega
  | 2, _ => show (x * 64 + bt s 1 % 64) * 64 + bt s 2 % 64 ≤ _; omega
  | 3, _ => show ((x * 64 + bt s 1 % 64) * 64 + bt s 2 % 64) * 64 + bt s 3 % 64 ≤ _; omega

theorem contAll_succ (s : ByteArray) (k : Nat) : contAll s (k + 1) ↔ contAll s k ∧ contB s (k + 1) := by
  unfold contAll
  constructor
  · intro h; exact ⟨fun i hi => h i (by omega), h k (by omega)⟩
  · rintro ⟨h1, h2⟩ i hi
    by_cases e : i = k
    · subst e; exact h2
    · exact h1 i (by omega)

theorem contAll_mono (s : ByteArray) (k n : Nat) (h : k ≤ n) (hc : contAll s n) : contAll s k := fun i hi => hc i (by omega)

theorem oneP_pos (s : ByteArray) : 1 ≤ runeK (oneP s) := by
  unfold oneP oneTail
  split
  · exact Nat.le_refl _
  all_goals (try (repeat' split))
  all_goals (first | exact Nat.le_refl _ | (show 1 ≤ _ + 1; omega))

theorem oneP_le (s : ByteArray) (h : 0 < s.size) : runeK (oneP s) ≤ s.size := by
  have ht : ∀ n least x, runeK (oneTail s n least x) ≤ s.size := by
    intro n least x
    unfold oneTail
    split
    · rename_i hc
      show n + 1 ≤ s.size
      cases n with
      | zero => exact h
      | succ n => exact (hc.1 n (by omega)).1
    · exact h
  unfold oneP
  split
  · exact h
  · split
    · exact ht _ _ _
    · split
      · exact ht _ _ _
      · split
        · exact ht _ _ _
        · exact h

theorem oneP_four (s : ByteArray) : runeK (oneP s) ≤ 4 := by
  have ht : ∀ n least x, n ≤ 3 → runeK (oneTail s n least x) ≤ 4 := by
    intro n least x hn
    unfold oneTail
    split
    · show n + 1 ≤ 4; omega
    · decide
  unfold oneP
  split
  · show 1 ≤ 4; decide
  · split
    · exact ht _ _ _ (by decide)
    · split
      · exact ht _ _ _ (by decide)
      · split
        · exact ht _ _ _ (by decide)
        · decide

end Go.Proofs.YtabhkebkbidfhaaDoor

/- The document's one: of one byte, of two. -/
namespace Go.Proofs.YtabhkebkbidfhaaDoor
open Go.RowKit
set_option maxRecDepth 100000
set_option linter.unusedSimpArgs false

theorem or64 (X y : Nat) (hX : X ≤ 8388607) (hy : y < 64) : bits .or .i64 ((X : Int) * 64) (y : Int) = ((X * 64 + y : Nat) : Int) := by
  have e : (X : Int) * 64 = ((X * 64 : Nat) : Int) := by simp
  rw [e, i64_or_nat _ _ (by omega) (by omega)]
  have h := Nat.two_pow_add_eq_or_of_lt (i := 6) (b := y) (by omega) X
  rw [show X * 64 = 2 ^ 6 * X by omega, ← h]

theorem u8_and63 (x : Nat) (h : x < 256) : bits .and .u8 (x : Int) 63 = ((x % 64 : Nat) : Int) := by
  rw [show (63 : Int) = ((63 : Nat) : Int) from rfl, u8_and_nat x 63 h (by decide), show (63 : Nat) = 2 ^ 6 - 1 from rfl, Nat.and_two_pow_sub_one_eq_mod]

theorem i64_and31n (x : Nat) : bits .and .i64 (x : Int) 31 = ((x % 32 : Nat) : Int) := by rw [i64_mask (x : Int) 5 (by decide) 31 (by decide)]; simp

theorem i64_and15n (x : Nat) : bits .and .i64 (x : Int) 15 = ((x % 16 : Nat) : Int) := by rw [i64_mask (x : Int) 4 (by decide) 15 (by decide)]; simp

theorem i64_and7n (x : Nat) : bits .and .i64 (x : Int) 7 = ((x % 8 : Nat) : Int) := by rw [i64_mask (x : Int) 3 (by decide) 7 (by decide)]; simp

set_option maxRecDepth 100000 in
set_option maxHeartbeats 4000000 in
theorem rone_a (s : ByteArray) (w : World) (h0 : 0 < s.size) (h1 : bt s 0 < 128) :
    Calls Tryd.prog 81 #[.string s] w fun e w' => e = .returned (.tuple #[.int .i64 (runeX (oneP s)), .int .i64 (runeK (oneP s) : Int)]) ∧ w' = w := by
  have hP : oneP s = some (bt s 0, 1) := by unfold oneP; rw [if_pos h1]
  rw [hP]
  show Calls _ _ _ _ fun e w' => e = .returned (.tuple #[.int .i64 ((bt s 0 : Nat) : Int), .int .i64 1]) ∧ w' = w
  have b0 := bt_get s 0 h0
  generalize bt s 0 = a at *
  have g0 : (a : Int) < 128 := by omega
  go_enter Tryd.func81, Tryd.ntmps81
  go_wp2
  go_ret2
  exact ⟨rfl, rfl⟩

set_option maxRecDepth 100000 in
set_option maxHeartbeats 4000000 in
theorem rone_b (s : ByteArray) (w : World) (h0 : 0 < s.size) (h1 : 194 ≤ bt s 0) (h2 : bt s 0 ≤ 223) :
    Calls Tryd.prog 81 #[.string s] w fun e w' => e = .returned (.tuple #[.int .i64 (runeX (oneP s)), .int .i64 (runeK (oneP s) : Int)]) ∧ w' = w := by
  have hP : oneP s = oneTail s 1 128 (bt s 0 % 32) := by unfold oneP; rw [if_neg (by omega), if_pos ⟨h1, h2⟩]
  rw [hP]
  have b0 := bt_get s 0 h0
  have va := i64_and31n (bt s 0)
  obtain ⟨x0, hx⟩ : ∃ x, x = bt s 0 % 32 := ⟨_, rfl⟩
  have hx0 : x0 ≤ 31 := by omega
  rw [← hx] at va ⊢
  have la := bt_lt s 0
  generalize bt s 0 = a at *
  have g0 : ¬ (a : Int) < 128 := by omega
  have g1 : decide ((194 : Int) ≤ (a : Int)) = true := by simp; omega
  have g2 : decide ((a : Int) ≤ 223) = true := by simp; omega
  obtain ⟨RX, HRX⟩ : ∃ x, Hid (x = runeX (oneTail s 1 128 x0)) := ⟨_, rfl⟩
  obtain ⟨RK, HRK⟩ : ∃ x, Hid (x = runeK (oneTail s 1 128 x0)) := ⟨_, rfl⟩
  have HNO : Hid (¬ (contAll s 1 ∧ goodR (accR s x0 1) 128) → RX = -1 ∧ RK = 1) := by
    show _ → _
    intro h
    rw [HRX.out, HRK.out]; unfold oneTail; rw [if_neg h]; exact ⟨rfl, rfl⟩
  have HYES : Hid (contAll s 1 ∧ goodR (accR s x0 1) 128 → RX = ((accR s x0 1 : Nat) : Int) ∧ RK = 1 + 1) := by
    show _ → _
    intro h
    rw [HRX.out, HRK.out]; unfold oneTail; rw [if_pos h]; exact ⟨rfl, rfl⟩
  rw [← HRX.out, ← HRK.out]
  clear hP hx h1 h2 HRX HRK
  go_enter Tryd.func81, Tryd.ntmps81
  go_wp2_with fail
  go_loopw [7, 8] (fun x i wr => ∃ k : Nat, ∃ j : Nat, ∃ X : Nat, k ≤ 1 ∧ Hid (j = k + 1) ∧ i = .int .i64 (j : Int) ∧ x = .int .i64 (X : Int) ∧ Hid (X = accR s x0 k) ∧ Hid (contAll s k) ∧ wr = w) (fun _ i _ => 5 - (intOf i).toNat)
  case atStart => exact ⟨0, 1, x0, by omega, rfl, rfl, rfl, rfl, fun i hi => by omega, rfl⟩
  case round =>
    obtain ⟨k, j, X, hk, HJ, rfl, rfl, HX, HC, rfl⟩ := hrel
    have lX : X ≤ 8388607 := by rw [HX.out]; exact accR_le s x0 k hx0 (by omega)
    have lj : j ≤ 4 := by have := HJ.out; omega
    by_cases hlt : k < 1
    · have c0 : (j : Int) ≤ 1 := by have := HJ.out; omega
      by_cases hin : j < s.size
      · have bk := bt_get s j hin
        have lb := bt_lt s j
        have q1 : decide ((s.size : Int) ≤ (j : Int)) = false := by simp; omega
        by_cases hlo : bt s j < 128
        · have hno : RX = -1 ∧ RK = 1 := HNO.out (fun h => by
            have := (h.1 k hlt).2.1
            rw [← HJ.out] at this; omega)
          have q2 : decide (((bt s j : Nat) : Int) < 128) = true := by simp; omega
          generalize bt s j = y at *
          go_wp2
          go_ret2
          (try rw [hno.1]); (try rw [hno.2])
          exact ⟨rfl, rfl⟩
        · have q2 : decide (((bt s j : Nat) : Int) < 128) = false := by simp; omega
          by_cases hhi : 191 < bt s j
          · have hno : RX = -1 ∧ RK = 1 := HNO.out (fun h => by
              have := (h.1 k hlt).2.2
              rw [← HJ.out] at this; omega)
            have q3 : decide ((191 : Int) < ((bt s j : Nat) : Int)) = true := by simp; omega
            generalize bt s j = y at *
            go_wp2
            go_ret2
            (try rw [hno.1]); (try rw [hno.2])
            exact ⟨rfl, rfl⟩
          · have q3 : decide ((191 : Int) < ((bt s j : Nat) : Int)) = false := by simp; omega
            have HN : Hid (X * 64 + bt s j % 64 = accR s x0 (k + 1)) := by show _ = _; rw [accR_succ, HX.out, HJ.out]
            have HCn : Hid (contAll s (k + 1)) := (contAll_succ s k).2 ⟨HC.out, by rw [← HJ.out]; exact ⟨hin, by omega, by omega⟩⟩
            have v1 := u8_and63 (bt s j) lb
            have v2 := or64 X (bt s j % 64) lX (Nat.mod_lt _ (by decide))
            have l64 : bt s j % 64 < 64 := Nat.mod_lt _ (by decide)
            generalize bt s j % 64 = z at *
            generalize bt s j = y at *
            obtain ⟨U, hU⟩ : ∃ U, U = X * 64 + z := ⟨_, rfl⟩
            rw [← hU] at v2 HN
            clear hU HX HC
            go_wp2
            refine ⟨⟨k + 1, j + 1, U, by omega, by have := HJ.out; show _ = _; omega, by go_num, rfl, HN, HCn, by first | rfl | trivial⟩, ?_⟩
            simp [intOf]; omega
      · have hno : RX = -1 ∧ RK = 1 := HNO.out (fun h => by
          have := (h.1 k hlt).1
          rw [← HJ.out] at this; omega)
        have q1 : decide ((s.size : Int) ≤ (j : Int)) = true := by simp; omega
        go_wp2
        go_ret2
        (try rw [hno.1]); (try rw [hno.2])
        exact ⟨rfl, rfl⟩
    · have hkN : k = 1 := by omega
      subst hkN
      have hj : j = 1 + 1 := HJ.out
      subst hj
      have HXo := HX.out
      by_cases p1 : X < 128
      · have hno : RX = -1 ∧ RK = 1 := HNO.out (fun h => by have := h.2.1; omega)
        have q1 : decide ((X : Int) < 128) = true := by simp; omega
        clear HXo HX
        go_wp2
        go_ret2
        (try rw [hno.1]); (try rw [hno.2])
        exact ⟨rfl, rfl⟩
      · have q1 : decide ((X : Int) < 128) = false := by simp; omega
        by_cases p2 : 1114111 < X
        · have hno : RX = -1 ∧ RK = 1 := HNO.out (fun h => by have := h.2.2.1; omega)
          have q2 : decide ((1114111 : Int) < (X : Int)) = true := by simp; omega
          clear HXo HX
          go_wp2
          go_ret2
          (try rw [hno.1]); (try rw [hno.2])
          exact ⟨rfl, rfl⟩
        · have q2 : decide ((1114111 : Int) < (X : Int)) = false := by simp; omega
          by_cases p3 : 55296 ≤ X
          · have q3 : decide ((55296 : Int) ≤ (X : Int)) = true := by simp; omega
            by_cases p4 : X ≤ 57343
            · have hno : RX = -1 ∧ RK = 1 := HNO.out (fun h => h.2.2.2 (by rw [← HXo]; exact ⟨p3, p4⟩))
              have q4 : decide ((X : Int) ≤ 57343) = true := by simp; omega
              clear HXo HX
              go_wp2
              go_ret2
              (try rw [hno.1]); (try rw [hno.2])
              exact ⟨rfl, rfl⟩
            · have hy : RX = (X : Int) ∧ RK = 1 + 1 := by
                rw [HXo]
                exact HYES.out ⟨HC.out, by rw [← HXo]; exact ⟨by omega, by omega, fun h => p4 h.2⟩⟩
              have q4 : decide ((X : Int) ≤ 57343) = false := by simp; omega
              clear HXo HX
              go_wp2
              go_ret2
              (try rw [hy.1]); (try rw [hy.2])
              exact ⟨rfl, rfl⟩
          · have q3 : decide ((55296 : Int) ≤ (X : Int)) = false := by simp; omega
            have hy : RX = (X : Int) ∧ RK = 1 + 1 := by
              rw [HXo]
              exact HYES.out ⟨HC.out, by rw [← HXo]; exact ⟨by omega, by omega, fun h => p3 h.1⟩⟩
            clear HXo HX
            go_wp2
            go_ret2
            (try rw [hy.1]); (try rw [hy.2])
            exact ⟨rfl, rfl⟩

end Go.Proofs.YtabhkebkbidfhaaDoor

/- The document's one: of three bytes, of four; of any. -/
namespace Go.Proofs.YtabhkebkbidfhaaDoor
open Go.RowKit
set_option maxRecDepth 100000
set_option linter.unusedSimpArgs false

set_option maxRecDepth 100000 in
set_option maxHeartbeats 4000000 in
theorem rone_c (s : ByteArray) (w : World) (h0 : 0 < s.size) (h1 : 224 ≤ bt s 0) (h2 : bt s 0 ≤ 239) :
    Calls Tryd.prog 81 #[.string s] w fun e w' => e = .returned (.tuple #[.int .i64 (runeX (oneP s)), .int .i64 (runeK (oneP s) : Int)]) ∧ w' = w := by
  have hP : oneP s = oneTail s 2 2048 (bt s 0 % 16) := by unfold oneP; rw [if_neg (by omega), if_neg (by omega), if_pos ⟨h1, h2⟩]
  rw [hP]
  have b0 := bt_get s 0 h0
  have va := i64_and15n (bt s 0)
  obtain ⟨x0, hx⟩ : ∃ x, x = bt s 0 % 16 := ⟨_, rfl⟩
  have hx0 : x0 ≤ 31 := by omega
  rw [← hx] at va ⊢
  have la := bt_lt s 0
  generalize bt s 0 = a at *
  have g0 : ¬ (a : Int) < 128 := by omega
  have g1 : decide ((194 : Int) ≤ (a : Int)) = true := by simp; omega
  have g2 : decide ((a : Int) ≤ 223) = false := by simp; omega
  have g3 : decide ((224 : Int) ≤ (a : Int)) = true := by simp; omega
  have g4 : decide ((a : Int) ≤ 239) = true := by simp; omega
  obtain ⟨RX, HRX⟩ : ∃ x, Hid (x = runeX (oneTail s 2 2048 x0)) := ⟨_, rfl⟩
  obtain ⟨RK, HRK⟩ : ∃ x, Hid (x = runeK (oneTail s 2 2048 x0)) := ⟨_, rfl⟩
  have HNO : Hid (¬ (contAll s 2 ∧ goodR (accR s x0 2) 2048) → RX = -1 ∧ RK = 1) := by
    show _ → _
    intro h
    rw [HRX.out, HRK.out]; unfold oneTail; rw [if_neg h]; exact ⟨rfl, rfl⟩
  have HYES : Hid (contAll s 2 ∧ goodR (accR s x0 2) 2048 → RX = ((accR s x0 2 : Nat) : Int) ∧ RK = 2 + 1) := by
    show _ → _
    intro h
    rw [HRX.out, HRK.out]; unfold oneTail; rw [if_pos h]; exact ⟨rfl, rfl⟩
  rw [← HRX.out, ← HRK.out]
  clear hP hx h1 h2 HRX HRK
  go_enter Tryd.func81, Tryd.ntmps81
  go_wp2_with fail
  go_loopw [7, 8] (fun x i wr => ∃ k : Nat, ∃ j : Nat, ∃ X : Nat, k ≤ 2 ∧ Hid (j = k + 1) ∧ i = .int .i64 (j : Int) ∧ x = .int .i64 (X : Int) ∧ Hid (X = accR s x0 k) ∧ Hid (contAll s k) ∧ wr = w) (fun _ i _ => 5 - (intOf i).toNat)
  case atStart => exact ⟨0, 1, x0, by omega, rfl, rfl, rfl, rfl, fun i hi => by omega, rfl⟩
  case round =>
    obtain ⟨k, j, X, hk, HJ, rfl, rfl, HX, HC, rfl⟩ := hrel
    have lX : X ≤ 8388607 := by rw [HX.out]; exact accR_le s x0 k hx0 (by omega)
    have lj : j ≤ 4 := by have := HJ.out; omega
    by_cases hlt : k < 2
    · have c0 : (j : Int) ≤ 2 := by have := HJ.out; omega
      by_cases hin : j < s.size
      · have bk := bt_get s j hin
        have lb := bt_lt s j
        have q1 : decide ((s.size : Int) ≤ (j : Int)) = false := by simp; omega
        by_cases hlo : bt s j < 128
        · have hno : RX = -1 ∧ RK = 1 := HNO.out (fun h => by
            have := (h.1 k hlt).2.1
            rw [← HJ.out] at this; omega)
          have q2 : decide (((bt s j : Nat) : Int) < 128) = true := by simp; omega
          generalize bt s j = y at *
          go_wp2
          go_ret2
          (try rw [hno.1]); (try rw [hno.2])
          exact ⟨rfl, rfl⟩
        · have q2 : decide (((bt s j : Nat) : Int) < 128) = false := by simp; omega
          by_cases hhi : 191 < bt s j
          · have hno : RX = -1 ∧ RK = 1 := HNO.out (fun h => by
              have := (h.1 k hlt).2.2
              rw [← HJ.out] at this; omega)
            have q3 : decide ((191 : Int) < ((bt s j : Nat) : Int)) = true := by simp; omega
            generalize bt s j = y at *
            go_wp2
            go_ret2
            (try rw [hno.1]); (try rw [hno.2])
            exact ⟨rfl, rfl⟩
          · have q3 : decide ((191 : Int) < ((bt s j : Nat) : Int)) = false := by simp; omega
            have HN : Hid (X * 64 + bt s j % 64 = accR s x0 (k + 1)) := by show _ = _; rw [accR_succ, HX.out, HJ.out]
            have HCn : Hid (contAll s (k + 1)) := (contAll_succ s k).2 ⟨HC.out, by rw [← HJ.out]; exact ⟨hin, by omega, by omega⟩⟩
            have v1 := u8_and63 (bt s j) lb
            have v2 := or64 X (bt s j % 64) lX (Nat.mod_lt _ (by decide))
            have l64 : bt s j % 64 < 64 := Nat.mod_lt _ (by decide)
            generalize bt s j % 64 = z at *
            generalize bt s j = y at *
            obtain ⟨U, hU⟩ : ∃ U, U = X * 64 + z := ⟨_, rfl⟩
            rw [← hU] at v2 HN
            clear hU HX HC
            go_wp2
            refine ⟨⟨k + 1, j + 1, U, by omega, by have := HJ.out; show _ = _; omega, by go_num, rfl, HN, HCn, by first | rfl | trivial⟩, ?_⟩
            simp [intOf]; omega
      · have hno : RX = -1 ∧ RK = 1 := HNO.out (fun h => by
          have := (h.1 k hlt).1
          rw [← HJ.out] at this; omega)
        have q1 : decide ((s.size : Int) ≤ (j : Int)) = true := by simp; omega
        go_wp2
        go_ret2
        (try rw [hno.1]); (try rw [hno.2])
        exact ⟨rfl, rfl⟩
    · have hkN : k = 2 := by omega
      subst hkN
      have hj : j = 2 + 1 := HJ.out
      subst hj
      have HXo := HX.out
      by_cases p1 : X < 2048
      · have hno : RX = -1 ∧ RK = 1 := HNO.out (fun h => by have := h.2.1; omega)
        have q1 : decide ((X : Int) < 2048) = true := by simp; omega
        clear HXo HX
        go_wp2
        go_ret2
        (try rw [hno.1]); (try rw [hno.2])
        exact ⟨rfl, rfl⟩
      · have q1 : decide ((X : Int) < 2048) = false := by simp; omega
        by_cases p2 : 1114111 < X
        · have hno : RX = -1 ∧ RK = 1 := HNO.out (fun h => by have := h.2.2.1; omega)
          have q2 : decide ((1114111 : Int) < (X : Int)) = true := by simp; omega
          clear HXo HX
          go_wp2
          go_ret2
          (try rw [hno.1]); (try rw [hno.2])
          exact ⟨rfl, rfl⟩
        · have q2 : decide ((1114111 : Int) < (X : Int)) = false := by simp; omega
          by_cases p3 : 55296 ≤ X
          · have q3 : decide ((55296 : Int) ≤ (X : Int)) = true := by simp; omega
            by_cases p4 : X ≤ 57343
            · have hno : RX = -1 ∧ RK = 1 := HNO.out (fun h => h.2.2.2 (by rw [← HXo]; exact ⟨p3, p4⟩))
              have q4 : decide ((X : Int) ≤ 57343) = true := by simp; omega
              clear HXo HX
              go_wp2
              go_ret2
              (try rw [hno.1]); (try rw [hno.2])
              exact ⟨rfl, rfl⟩
            · have hy : RX = (X : Int) ∧ RK = 2 + 1 := by
                rw [HXo]
                exact HYES.out ⟨HC.out, by rw [← HXo]; exact ⟨by omega, by omega, fun h => p4 h.2⟩⟩
              have q4 : decide ((X : Int) ≤ 57343) = false := by simp; omega
              clear HXo HX
              go_wp2
              go_ret2
              (try rw [hy.1]); (try rw [hy.2])
              exact ⟨rfl, rfl⟩
          · have q3 : decide ((55296 : Int) ≤ (X : Int)) = false := by simp; omega
            have hy : RX = (X : Int) ∧ RK = 2 + 1 := by
              rw [HXo]
              exact HYES.out ⟨HC.out, by rw [← HXo]; exact ⟨by omega, by omega, fun h => p3 h.1⟩⟩
            clear HXo HX
            go_wp2
            go_ret2
            (try rw [hy.1]); (try rw [hy.2])
            exact ⟨rfl, rfl⟩

set_option maxRecDepth 100000 in
set_option maxHeartbeats 4000000 in
theorem rone_d (s : ByteArray) (w : World) (h0 : 0 < s.size) (h1 : 240 ≤ bt s 0) (h2 : bt s 0 ≤ 244) :
    Calls Tryd.prog 81 #[.string s] w fun e w' => e = .returned (.tuple #[.int .i64 (runeX (oneP s)), .int .i64 (runeK (oneP s) : Int)]) ∧ w' = w := by
  have hP : oneP s = oneTail s 3 65536 (bt s 0 % 8) := by unfold oneP; rw [if_neg (by omega), if_neg (by omega), if_neg (by omega), if_pos ⟨h1, h2⟩]
  rw [hP]
  have b0 := bt_get s 0 h0
  have va := i64_and7n (bt s 0)
  obtain ⟨x0, hx⟩ : ∃ x, x = bt s 0 % 8 := ⟨_, rfl⟩
  have hx0 : x0 ≤ 31 := by omega
  rw [← hx] at va ⊢
  have la := bt_lt s 0
  generalize bt s 0 = a at *
  have g0 : ¬ (a : Int) < 128 := by omega
  have g1 : decide ((194 : Int) ≤ (a : Int)) = true := by simp; omega
  have g2 : decide ((a : Int) ≤ 223) = false := by simp; omega
  have g3 : decide ((224 : Int) ≤ (a : Int)) = true := by simp; omega
  have g4 : decide ((a : Int) ≤ 239) = false := by simp; omega
  have g5 : decide ((240 : Int) ≤ (a : Int)) = true := by simp; omega
  have g6 : decide ((a : Int) ≤ 244) = true := by simp; omega
  obtain ⟨RX, HRX⟩ : ∃ x, Hid (x = runeX (oneTail s 3 65536 x0)) := ⟨_, rfl⟩
  obtain ⟨RK, HRK⟩ : ∃ x, Hid (x = runeK (oneTail s 3 65536 x0)) := ⟨_, rfl⟩
  have HNO : Hid (¬ (contAll s 3 ∧ goodR (accR s x0 3) 65536) → RX = -1 ∧ RK = 1) := by
    show _ → _
    intro h
    rw [HRX.out, HRK.out]; unfold oneTail; rw [if_neg h]; exact ⟨rfl, rfl⟩
  have HYES : Hid (contAll s 3 ∧ goodR (accR s x0 3) 65536 → RX = ((accR s x0 3 : Nat) : Int) ∧ RK = 3 + 1) := by
    show _ → _
    intro h
    rw [HRX.out, HRK.out]; unfold oneTail; rw [if_pos h]; exact ⟨rfl, rfl⟩
  rw [← HRX.out, ← HRK.out]
  clear hP hx h1 h2 HRX HRK
  go_enter Tryd.func81, Tryd.ntmps81
  go_wp2_with fail
  go_loopw [7, 8] (fun x i wr => ∃ k : Nat, ∃ j : Nat, ∃ X : Nat, k ≤ 3 ∧ Hid (j = k + 1) ∧ i = .int .i64 (j : Int) ∧ x = .int .i64 (X : Int) ∧ Hid (X = accR s x0 k) ∧ Hid (contAll s k) ∧ wr = w) (fun _ i _ => 5 - (intOf i).toNat)
  case atStart => exact ⟨0, 1, x0, by omega, rfl, rfl, rfl, rfl, fun i hi => by omega, rfl⟩
  case round =>
    obtain ⟨k, j, X, hk, HJ, rfl, rfl, HX, HC, rfl⟩ := hrel
    have lX : X ≤ 8388607 := by rw [HX.out]; exact accR_le s x0 k hx0 (by omega)
    have lj : j ≤ 4 := by have := HJ.out; omega
    by_cases hlt : k < 3
    · have c0 : (j : Int) ≤ 3 := by have := HJ.out; omega
      by_cases hin : j < s.size
      · have bk := bt_get s j hin
        have lb := bt_lt s j
        have q1 : decide ((s.size : Int) ≤ (j : Int)) = false := by simp; omega
        by_cases hlo : bt s j < 128
        · have hno : RX = -1 ∧ RK = 1 := HNO.out (fun h => by
            have := (h.1 k hlt).2.1
            rw [← HJ.out] at this; omega)
          have q2 : decide (((bt s j : Nat) : Int) < 128) = true := by simp; omega
          generalize bt s j = y at *
          go_wp2
          go_ret2
          (try rw [hno.1]); (try rw [hno.2])
          exact ⟨rfl, rfl⟩
        · have q2 : decide (((bt s j : Nat) : Int) < 128) = false := by simp; omega
          by_cases hhi : 191 < bt s j
          · have hno : RX = -1 ∧ RK = 1 := HNO.out (fun h => by
              have := (h.1 k hlt).2.2
              rw [← HJ.out] at this; omega)
            have q3 : decide ((191 : Int) < ((bt s j : Nat) : Int)) = true := by simp; omega
            generalize bt s j = y at *
            go_wp2
            go_ret2
            (try rw [hno.1]); (try rw [hno.2])
            exact ⟨rfl, rfl⟩
          · have q3 : decide ((191 : Int) < ((bt s j : Nat) : Int)) = false := by simp; omega
            have HN : Hid (X * 64 + bt s j % 64 = accR s x0 (k + 1)) := by show _ = _; rw [accR_succ, HX.out, HJ.out]
            have HCn : Hid (contAll s (k + 1)) := (contAll_succ s k).2 ⟨HC.out, by rw [← HJ.out]; exact ⟨hin, by omega, by omega⟩⟩
            have v1 := u8_and63 (bt s j) lb
            have v2 := or64 X (bt s j % 64) lX (Nat.mod_lt _ (by decide))
            have l64 : bt s j % 64 < 64 := Nat.mod_lt _ (by decide)
            generalize bt s j % 64 = z at *
            generalize bt s j = y at *
            obtain ⟨U, hU⟩ : ∃ U, U = X * 64 + z := ⟨_, rfl⟩
            rw [← hU] at v2 HN
            clear hU HX HC
            go_wp2
            refine ⟨⟨k + 1, j + 1, U, by omega, by have := HJ.out; show _ = _; omega, by go_num, rfl, HN, HCn, by first | rfl | trivial⟩, ?_⟩
            simp [intOf]; omega
      · have hno : RX = -1 ∧ RK = 1 := HNO.out (fun h => by
          have := (h.1 k hlt).1
          rw [← HJ.out] at this; omega)
        have q1 : decide ((s.size : Int) ≤ (j : Int)) = true := by simp; omega
        go_wp2
        go_ret2
        (try rw [hno.1]); (try rw [hno.2])
        exact ⟨rfl, rfl⟩
    · have hkN : k = 3 := by omega
      subst hkN
      have hj : j = 3 + 1 := HJ.out
      subst hj
      have HXo := HX.out
      by_cases p1 : X < 65536
      · have hno : RX = -1 ∧ RK = 1 := HNO.out (fun h => by have := h.2.1; omega)
        have q1 : decide ((X : Int) < 65536) = true := by simp; omega
        clear HXo HX
        go_wp2
        go_ret2
        (try rw [hno.1]); (try rw [hno.2])
        exact ⟨rfl, rfl⟩
      · have q1 : decide ((X : Int) < 65536) = false := by simp; omega
        by_cases p2 : 1114111 < X
        · have hno : RX = -1 ∧ RK = 1 := HNO.out (fun h => by have := h.2.2.1; omega)
          have q2 : decide ((1114111 : Int) < (X : Int)) = true := by simp; omega
          clear HXo HX
          go_wp2
          go_ret2
          (try rw [hno.1]); (try rw [hno.2])
          exact ⟨rfl, rfl⟩
        · have q2 : decide ((1114111 : Int) < (X : Int)) = false := by simp; omega
          by_cases p3 : 55296 ≤ X
          · have q3 : decide ((55296 : Int) ≤ (X : Int)) = true := by simp; omega
            by_cases p4 : X ≤ 57343
            · have hno : RX = -1 ∧ RK = 1 := HNO.out (fun h => h.2.2.2 (by rw [← HXo]; exact ⟨p3, p4⟩))
              have q4 : decide ((X : Int) ≤ 57343) = true := by simp; omega
              clear HXo HX
              go_wp2
              go_ret2
              (try rw [hno.1]); (try rw [hno.2])
              exact ⟨rfl, rfl⟩
            · have hy : RX = (X : Int) ∧ RK = 3 + 1 := by
                rw [HXo]
                exact HYES.out ⟨HC.out, by rw [← HXo]; exact ⟨by omega, by omega, fun h => p4 h.2⟩⟩
              have q4 : decide ((X : Int) ≤ 57343) = false := by simp; omega
              clear HXo HX
              go_wp2
              go_ret2
              (try rw [hy.1]); (try rw [hy.2])
              exact ⟨rfl, rfl⟩
          · have q3 : decide ((55296 : Int) ≤ (X : Int)) = false := by simp; omega
            have hy : RX = (X : Int) ∧ RK = 3 + 1 := by
              rw [HXo]
              exact HYES.out ⟨HC.out, by rw [← HXo]; exact ⟨by omega, by omega, fun h => p3 h.1⟩⟩
            clear HXo HX
            go_wp2
            go_ret2
            (try rw [hy.1]); (try rw [hy.2])
            exact ⟨rfl, rfl⟩

set_option maxRecDepth 100000 in
set_option maxHeartbeats 4000000 in
theorem rone_e (s : ByteArray) (w : World) (h0 : 0 < s.size) (h1 : 128 ≤ bt s 0) (h2 : bt s 0 < 194 ∨ 244 < bt s 0) :
    Calls Tryd.prog 81 #[.string s] w fun e w' => e = .returned (.tuple #[.int .i64 (runeX (oneP s)), .int .i64 (runeK (oneP s) : Int)]) ∧ w' = w := by
  have hP : oneP s = none := by unfold oneP; rw [if_neg (by omega), if_neg (by omega), if_neg (by omega), if_neg (by omega)]
  rw [hP]
  show Calls _ _ _ _ fun e w' => e = .returned (.tuple #[.int .i64 (-1), .int .i64 1]) ∧ w' = w
  have b0 := bt_get s 0 h0
  have la := bt_lt s 0
  generalize bt s 0 = a at *
  have g0 : ¬ (a : Int) < 128 := by omega
  rcases h2 with h2 | h2
  · have g1 : decide ((194 : Int) ≤ (a : Int)) = false := by simp; omega
    have g2 : decide ((224 : Int) ≤ (a : Int)) = false := by simp; omega
    have g3 : decide ((240 : Int) ≤ (a : Int)) = false := by simp; omega
    clear hP
    go_enter Tryd.func81, Tryd.ntmps81
    go_wp2
    go_ret2
    exact ⟨rfl, rfl⟩
  · have g1 : decide ((194 : Int) ≤ (a : Int)) = true := by simp; omega
    have g2 : decide ((a : Int) ≤ 223) = false := by simp; omega
    have g3 : decide ((224 : Int) ≤ (a : Int)) = true := by simp; omega
    have g4 : decide ((a : Int) ≤ 239) = false := by simp; omega
    have g5 : decide ((240 : Int) ≤ (a : Int)) = true := by simp; omega
    have g6 : decide ((a : Int) ≤ 244) = false := by simp; omega
    clear hP
    go_enter Tryd.func81, Tryd.ntmps81
    go_wp2
    go_ret2
    exact ⟨rfl, rfl⟩

theorem rone_any (s : ByteArray) (w : World) (h0 : 0 < s.size) :
    Calls Tryd.prog 81 #[.string s] w fun e w' => e = .returned (.tuple #[.int .i64 (runeX (oneP s)), .int .i64 (runeK (oneP s) : Int)]) ∧ w' = w := by
  by_cases h1 : bt s 0 < 128
  · exact rone_a s w h0 h1
  · by_cases h2 : bt s 0 < 194 ∨ 244 < bt s 0
    · exact rone_e s w h0 (by omega) h2
    · by_cases h3 : bt s 0 ≤ 223
      · exact rone_b s w h0 (by omega) h3
      · by_cases h4 : bt s 0 ≤ 239
        · exact rone_c s w h0 (by omega) h4
        · exact rone_d s w h0 (by omega) (by omega)

end Go.Proofs.YtabhkebkbidfhaaDoor

/- The runes of the language and those of the document: plain. -/
namespace Go.Proofs.YtabhkebkbidfhaaDoor
open Go.RowKit
set_option maxRecDepth 100000
set_option linter.unusedSimpArgs false

theorem bt_beyond (s : ByteArray) (j : Nat) (h : s.size ≤ j) : bt s j = 0 := by
  rw [bt_eq, Array.getElem?_eq_none h]; rfl

theorem get_bt (s : ByteArray) (j : Nat) : (s.get! j).toNat = bt s j := by
  rw [bt_eq]
  show (s.data[j]!).toNat = _
  by_cases h : j < s.data.size
  · rw [getElem!_pos s.data j h, Array.getElem?_eq_getElem h]; rfl
  · rw [getElem!_neg s.data j h, Array.getElem?_eq_none (by omega)]; rfl

theorem bt_rest (s : ByteArray) (i k : Nat) : bt (s.extract i s.size) k = bt s (i + k) := by
  by_cases hk : i + k < s.size
  · exact bt_extract s i s.size k hk (Nat.le_refl _)
  · rw [bt_beyond _ _ (by rw [ByteArray.size_extract]; omega), bt_beyond _ _ (by omega)]

/-- What ranging over a text gives at a place. -/
def runeOf (o : Option (Nat × Nat)) : Nat × Nat := match o with | some p => p | none => (65533, 1)

theorem tail_one (t : ByteArray) (least x : Nat) : oneTail t 1 least x = if (1 < t.size ∧ 128 ≤ bt t 1 ∧ bt t 1 ≤ 191) ∧ goodR (x * 64 + bt t 1 % 64) least then some (x * 64 + bt t 1 % 64, 2) else none := by
  unfold oneTail
  have e : contAll t 1 ↔ (1 < t.size ∧ 128 ≤ bt t 1 ∧ bt t 1 ≤ 191) := by
    rw [contAll_succ]
    exact ⟨fun h => h.2, fun h => ⟨fun i hi => absurd hi (Nat.not_lt_zero _), h⟩⟩
  simp only [e]
  rfl

theorem tail_two (t : ByteArray) (least x : Nat) : oneTail t 2 least x = if ((1 < t.size ∧ 128 ≤ bt t 1 ∧ bt t 1 ≤ 191) ∧ (2 < t.size ∧ 128 ≤ bt t 2 ∧ bt t 2 ≤ 191)) ∧ goodR ((x * 64 + bt t 1 % 64) * 64 + bt t 2 % 64) least then some ((x * 64 + bt t 1 % 64) * 64 + bt t 2 % 64, 3) else none := by
  unfold oneTail
  have e : contAll t 2 ↔ ((1 < t.size ∧ 128 ≤ bt t 1 ∧ bt t 1 ≤ 191) ∧ (2 < t.size ∧ 128 ≤ bt t 2 ∧ bt t 2 ≤ 191)) := by
    rw [contAll_succ, contAll_succ]
    exact ⟨fun h => ⟨h.1.2, h.2⟩, fun h => ⟨⟨fun i hi => absurd hi (Nat.not_lt_zero _), h.1⟩, h.2⟩⟩
  simp only [e]
  rfl

theorem tail_three (t : ByteArray) (least x : Nat) : oneTail t 3 least x = if (((1 < t.size ∧ 128 ≤ bt t 1 ∧ bt t 1 ≤ 191) ∧ (2 < t.size ∧ 128 ≤ bt t 2 ∧ bt t 2 ≤ 191)) ∧ (3 < t.size ∧ 128 ≤ bt t 3 ∧ bt t 3 ≤ 191)) ∧ goodR (((x * 64 + bt t 1 % 64) * 64 + bt t 2 % 64) * 64 + bt t 3 % 64) least then some (((x * 64 + bt t 1 % 64) * 64 + bt t 2 % 64) * 64 + bt t 3 % 64, 4) else none := by
  unfold oneTail
  have e : contAll t 3 ↔ (((1 < t.size ∧ 128 ≤ bt t 1 ∧ bt t 1 ≤ 191) ∧ (2 < t.size ∧ 128 ≤ bt t 2 ∧ bt t 2 ≤ 191)) ∧ (3 < t.size ∧ 128 ≤ bt t 3 ∧ bt t 3 ≤ 191)) := by
    rw [contAll_succ, contAll_succ, contAll_succ]
    exact ⟨fun h => ⟨⟨h.1.1.2, h.1.2⟩, h.2⟩, fun h => ⟨⟨⟨fun i hi => absurd hi (Nat.not_lt_zero _), h.1.1⟩, h.1.2⟩, h.2⟩⟩
  simp only [e]
  rfl

/-- The model's decoding, over letters. -/
def decF (a b c d n : Nat) : Nat × Nat :=
  if a < 128 then (a, 1)
  else if a / 32 = 6 ∧ (1 < n ∧ b / 64 = 2) then (if 128 ≤ a % 32 * 64 + b % 64 then (a % 32 * 64 + b % 64, 2) else (65533, 1))
  else if a / 16 = 14 ∧ (1 < n ∧ b / 64 = 2) ∧ (2 < n ∧ c / 64 = 2) then
    (if 2048 ≤ a % 16 * 4096 + b % 64 * 64 + c % 64 ∧ (a % 16 * 4096 + b % 64 * 64 + c % 64 < 55296 ∨ (57344 ≤ a % 16 * 4096 + b % 64 * 64 + c % 64 ∧ a % 16 * 4096 + b % 64 * 64 + c % 64 ≤ 1114111)) then (a % 16 * 4096 + b % 64 * 64 + c % 64, 3) else (65533, 1))
  else if a / 8 = 30 ∧ (1 < n ∧ b / 64 = 2) ∧ (2 < n ∧ c / 64 = 2) ∧ (3 < n ∧ d / 64 = 2) then
    (if 65536 ≤ a % 8 * 262144 + b % 64 * 4096 + c % 64 * 64 + d % 64 ∧ (a % 8 * 262144 + b % 64 * 4096 + c % 64 * 64 + d % 64 < 55296 ∨ (57344 ≤ a % 8 * 262144 + b % 64 * 4096 + c % 64 * 64 + d % 64 ∧ a % 8 * 262144 + b % 64 * 4096 + c % 64 * 64 + d % 64 ≤ 1114111)) then (a % 8 * 262144 + b % 64 * 4096 + c % 64 * 64 + d % 64, 4) else (65533, 1))
  else (65533, 1)

theorem decode_F (s : ByteArray) (i : Nat) (h : i ≤ s.size) : Utf8.decode s i = decF (bt s i) (bt s (i + 1)) (bt s (i + 2)) (bt s (i + 3)) (s.size - i) := by
  have e : ∀ k, (i + k < s.size) = (k < s.size - i) := fun k => propext (by omega)
  unfold Utf8.decode decF Utf8.valid Utf8.runeError
  have hv : ∀ x : Nat, ((0 ≤ (x : Int) ∧ (x : Int) < 55296) ∨ (57344 ≤ (x : Int) ∧ (x : Int) ≤ 1114111)) = (x < 55296 ∨ (57344 ≤ x ∧ x ≤ 1114111)) := fun x => propext (by omega)
  simp only [get_bt, Nat.add_zero, e, Bool.and_eq_true, beq_iff_eq, decide_eq_true_eq, Bool.or_eq_true, ge_iff_le, and_assoc, hv]

theorem decF_one (t : ByteArray) : decF (bt t 0) (bt t 1) (bt t 2) (bt t 3) t.size = runeOf (oneP t) := by
  have la := bt_lt t 0
  have lb := bt_lt t 1
  have lc := bt_lt t 2
  have ld := bt_lt t 3
  unfold oneP decF
  rw [tail_one, tail_two, tail_three]
  unfold goodR
  generalize bt t 0 = a at *
  generalize bt t 1 = b at *
  generalize bt t 2 = c at *
  generalize bt t 3 = d at *
  generalize t.size = n at *
  by_cases h0 : a < 128
  · rw [if_pos h0, if_pos h0]; rfl
  · rw [if_neg h0, if_neg h0]
    by_cases h1 : 194 ≤ a ∧ a ≤ 223
    · rw [if_pos h1]
      by_cases k1 : 1 < n ∧ 128 ≤ b ∧ b ≤ 191
      · rw [if_pos (show a / 32 = 6 ∧ 1 < n ∧ b / 64 = 2 by omega), if_pos (show 128 ≤ a % 32 * 64 + b % 64 by omega), if_pos ⟨k1, by omega⟩]; rfl
      · rw [if_neg (show ¬ (a / 32 = 6 ∧ 1 < n ∧ b / 64 = 2) by omega), if_neg (by omega), if_neg (by omega), if_neg (fun h => k1 h.1)]; rfl
    · rw [if_neg h1]
      by_cases h2 : 224 ≤ a ∧ a ≤ 239
      · rw [if_neg (by omega), if_pos h2]
        have ev : a % 16 * 4096 + b % 64 * 64 + c % 64 = (a % 16 * 64 + b % 64) * 64 + c % 64 := by omega
        by_cases k1 : (1 < n ∧ 128 ≤ b ∧ b ≤ 191) ∧ (2 < n ∧ 128 ≤ c ∧ c ≤ 191)
        · rw [if_pos (show a / 16 = 14 ∧ (1 < n ∧ b / 64 = 2) ∧ (2 < n ∧ c / 64 = 2) by omega), ev]
          by_cases k2 : 2048 ≤ (a % 16 * 64 + b % 64) * 64 + c % 64 ∧ (a % 16 * 64 + b % 64) * 64 + c % 64 ≤ 1114111 ∧ ¬ (55296 ≤ (a % 16 * 64 + b % 64) * 64 + c % 64 ∧ (a % 16 * 64 + b % 64) * 64 + c % 64 ≤ 57343)
          · rw [if_pos (by omega), if_pos ⟨k1, k2⟩]; rfl
          · rw [if_neg (by omega), if_neg (fun h => k2 h.2)]; rfl
        · rw [if_neg (by omega), if_neg (by omega), if_neg (fun h => k1 h.1)]; rfl
      · rw [if_neg h2]
        by_cases h3 : 240 ≤ a ∧ a ≤ 244
        · rw [if_neg (by omega), if_neg (by omega), if_pos h3]
          have ev : a % 8 * 262144 + b % 64 * 4096 + c % 64 * 64 + d % 64 = ((a % 8 * 64 + b % 64) * 64 + c % 64) * 64 + d % 64 := by omega
          by_cases k1 : ((1 < n ∧ 128 ≤ b ∧ b ≤ 191) ∧ (2 < n ∧ 128 ≤ c ∧ c ≤ 191)) ∧ (3 < n ∧ 128 ≤ d ∧ d ≤ 191)
          · rw [if_pos (show a / 8 = 30 ∧ (1 < n ∧ b / 64 = 2) ∧ (2 < n ∧ c / 64 = 2) ∧ (3 < n ∧ d / 64 = 2) by omega), ev]
            by_cases k2 : 65536 ≤ ((a % 8 * 64 + b % 64) * 64 + c % 64) * 64 + d % 64 ∧ ((a % 8 * 64 + b % 64) * 64 + c % 64) * 64 + d % 64 ≤ 1114111 ∧ ¬ (55296 ≤ ((a % 8 * 64 + b % 64) * 64 + c % 64) * 64 + d % 64 ∧ ((a % 8 * 64 + b % 64) * 64 + c % 64) * 64 + d % 64 ≤ 57343)
            · rw [if_pos (by omega), if_pos ⟨k1, k2⟩]; rfl
            · rw [if_neg (by omega), if_neg (fun h => k2 h.2)]; rfl
          · rw [if_neg (by omega), if_neg (fun h => k1 h.1)]; rfl
        · rw [if_neg h3]
          by_cases k1 : a / 32 = 6 ∧ 1 < n ∧ b / 64 = 2
          · rw [if_pos k1, if_neg (by omega)]; rfl
          · rw [if_neg k1, if_neg (by omega)]
            by_cases k2 : a / 8 = 30 ∧ (1 < n ∧ b / 64 = 2) ∧ (2 < n ∧ c / 64 = 2) ∧ (3 < n ∧ d / 64 = 2)
            · rw [if_pos k2, if_neg (by omega)]; rfl
            · rw [if_neg k2]; rfl

/-- Ranging over a text gives the document's runes. -/
theorem decode_one (s : ByteArray) (i : Nat) (h : i ≤ s.size) : Utf8.decode s i = runeOf (oneP (s.extract i s.size)) := by
  rw [decode_F s i h, ← decF_one, bt_rest, bt_rest, bt_rest, bt_rest, ByteArray.size_extract, Nat.min_self]
  rfl

end Go.Proofs.YtabhkebkbidfhaaDoor

/- The places of runes, and how many there are: plain. -/
namespace Go.Proofs.YtabhkebkbidfhaaDoor
open Go.RowKit
set_option maxRecDepth 100000
set_option linter.unusedSimpArgs false

/-- What is left of a text; its first rune; where the next one stands. -/
def restB (s : ByteArray) (p : Nat) : ByteArray := s.extract p s.size

theorem restB_size (s : ByteArray) (p : Nat) : (restB s p).size = s.size - p := by unfold restB; rw [ByteArray.size_extract, Nat.min_self]

def runeAt (s : ByteArray) (p : Nat) : Int := runeX (oneP (restB s p))

def nextR (s : ByteArray) (p : Nat) : Nat := p + runeK (oneP (restB s p))

theorem nextR_gt (s : ByteArray) (p : Nat) : p < nextR s p := by unfold nextR; have := oneP_pos (restB s p); omega

theorem nextR_le (s : ByteArray) (p : Nat) (h : p < s.size) : nextR s p ≤ s.size := by
  unfold nextR
  have := oneP_le (restB s p) (by rw [restB_size]; omega)
  rw [restB_size] at this; omega

/-- Where the rune k stands; the end, if there are no more. -/
def posR (s : ByteArray) : Nat → Nat
  | 0 => 0
  | k + 1 => if posR s k < s.size then nextR s (posR s k) else posR s k

theorem posR_zero (s : ByteArray) : posR s 0 = 0 := rfl

theorem posR_succ (s : ByteArray) (k : Nat) (h : posR s k < s.size) : posR s (k + 1) = nextR s (posR s k) := by
  show (if posR s k < s.size then _ else _) = _; rw [if_pos h]

theorem posR_stop (s : ByteArray) (k : Nat) (h : ¬ posR s k < s.size) : posR s (k + 1) = posR s k := by
  show (if posR s k < s.size then _ else _) = _; rw [if_neg h]

theorem posR_le (s : ByteArray) (k : Nat) : posR s k ≤ s.size := by
  induction k with
  | zero => exact Nat.zero_le _
  | succ k ih =>
    by_cases h : posR s k < s.size
    · rw [posR_succ s k h]; exact nextR_le s _ h
    · rw [posR_stop s k h]; exact ih

theorem posR_ge (s : ByteArray) (k : Nat) (h : posR s k < s.size) : k ≤ posR s k := by
  induction k with
  | zero => exact Nat.zero_le _
  | succ k ih =>
    by_cases h' : posR s k < s.size
    · rw [posR_succ s k h']
      have := ih h'
      have := nextR_gt s (posR s k)
      omega
    · rw [posR_stop s k h'] at h; exact absurd h h'

theorem posR_stay (s : ByteArray) (k j : Nat) (h : ¬ posR s k < s.size) : posR s (k + j) = posR s k := by
  induction j with
  | zero => rfl
  | succ j ih => rw [show k + (j + 1) = k + j + 1 by omega, posR_stop s (k + j) (by rw [ih]; exact h), ih]

/-- How many runes there are from a place on. -/
def cntF (s : ByteArray) : Nat → Nat → Nat
  | 0, _ => 0
  | f + 1, p => if p < s.size then 1 + cntF s f (nextR s p) else 0

theorem cntF_more (s : ByteArray) (f g p : Nat) (hf : s.size - p ≤ f) (hg : s.size - p ≤ g) : cntF s f p = cntF s g p := by
  induction f generalizing g p with
  | zero =>
    cases g with
    | zero => rfl
    | succ g => show 0 = if p < s.size then _ else 0; rw [if_neg (by omega)]
  | succ f ih =>
    cases g with
    | zero => show (if p < s.size then _ else 0) = 0; rw [if_neg (by omega)]
    | succ g =>
      show (if p < s.size then 1 + cntF s f (nextR s p) else 0) = if p < s.size then 1 + cntF s g (nextR s p) else 0
      by_cases h : p < s.size
      · have := nextR_gt s p
        rw [if_pos h, if_pos h, ih g (nextR s p) (by omega) (by omega)]
      · rw [if_neg h, if_neg h]

def leftR (s : ByteArray) (p : Nat) : Nat := cntF s s.size p

def countR (s : ByteArray) : Nat := leftR s 0

theorem leftR_step (s : ByteArray) (p : Nat) (h : p < s.size) : leftR s p = 1 + leftR s (nextR s p) := by
  unfold leftR
  have hn := nextR_gt s p
  rw [cntF_more s s.size (s.size + 1) p (by omega) (by omega)]
  show (if p < s.size then 1 + cntF s s.size (nextR s p) else 0) = _
  rw [if_pos h]

theorem leftR_end (s : ByteArray) (p : Nat) (h : ¬ p < s.size) : leftR s p = 0 := by
  unfold leftR
  rw [cntF_more s s.size 0 p (by omega) (by omega)]; rfl

/-- So many runes stand ahead of a place, and so many behind it. -/
theorem count_split (s : ByteArray) (k : Nat) (h : posR s k < s.size ∨ k = 0 ∨ posR s (k - 1) < s.size) : countR s = k + leftR s (posR s k) := by
  induction k with
  | zero => show leftR s 0 = 0 + leftR s 0; omega
  | succ k ih =>
    have hk : posR s k < s.size := by
      rcases h with h | h | h
      · by_cases h' : posR s k < s.size
        · exact h'
        · rw [posR_stop s k h'] at h; exact absurd h h'
      · omega
      · exact h
    have := ih (Or.inl hk)
    rw [this, leftR_step s _ hk, posR_succ s k hk]; omega

theorem pos_before (s : ByteArray) (k : Nat) (h : k < countR s) : posR s k < s.size := by
  by_cases hk : posR s k < s.size
  · exact hk
  · exfalso
    -- the first place at which the end is reached
    have : ∃ j, j ≤ k ∧ ¬ posR s j < s.size ∧ (j = 0 ∨ posR s (j - 1) < s.size) := by
      clear h
      induction k with
      | zero => exact ⟨0, Nat.le_refl _, hk, Or.inl rfl⟩
      | succ k ih =>
        by_cases h' : posR s k < s.size
        · exact ⟨k + 1, Nat.le_refl _, hk, Or.inr h'⟩
        · obtain ⟨j, h1, h2⟩ := ih h'
          exact ⟨j, by omega, h2⟩
    obtain ⟨j, h1, h2, h3⟩ := this
    have h4 := count_split s j (Or.inr h3)
    rw [leftR_end s _ h2] at h4
    omega

theorem pos_count (s : ByteArray) : posR s (countR s) = s.size := by
  by_cases h : posR s (countR s) < s.size
  · exfalso
    have h1 := count_split s (countR s) (Or.inl h)
    have h2 := leftR_step s _ h
    omega
  · have := posR_le s (countR s); omega

theorem count_le (s : ByteArray) : countR s ≤ s.size := by
  by_cases h : countR s = 0
  · omega
  · have h1 := posR_ge s (countR s - 1) (pos_before s _ (by omega))
    have h2 := pos_before s (countR s - 1) (by omega)
    omega

theorem restB_rest (s : ByteArray) (p k : Nat) (h : p + k ≤ s.size) : (restB s p).extract k (restB s p).size = restB s (p + k) := by
  rw [restB_size]
  apply bt_ext
  · rw [ByteArray.size_extract, restB_size, restB_size]; omega
  · intro i hi
    rw [ByteArray.size_extract, restB_size] at hi
    rw [bt_extract _ k (s.size - p) i (by omega) (by rw [restB_size]; exact Nat.le_refl _)]
    unfold restB
    rw [bt_rest, bt_rest, Nat.add_assoc]

theorem restB_zero (s : ByteArray) : restB s 0 = s := by
  apply bt_ext
  · rw [restB_size]; omega
  · intro i _; unfold restB; rw [bt_rest, Nat.zero_add]

/-- The first n runes. -/
def cutR (s : ByteArray) (n : Nat) : ByteArray := s.extract 0 (posR s n)

end Go.Proofs.YtabhkebkbidfhaaDoor

/- The document's Count, Cut. -/
namespace Go.Proofs.YtabhkebkbidfhaaDoor
open Go.RowKit
set_option maxRecDepth 100000
set_option linter.unusedSimpArgs false

def strLenV : Value → Nat
  | .string s => s.size
  | _ => 0

theorem isEmpty_yes (s : ByteArray) (h : s.size = 0) : s.toList.isEmpty = true := by
  rw [toList_data]
  have : s.data.size = 0 := h
  rw [Array.eq_empty_of_size_eq_zero this]; rfl

theorem isEmpty_no (s : ByteArray) (h : ¬ s.size = 0) : s.toList.isEmpty = false := by
  rw [toList_data]
  cases hq : s.data.toList with
  | nil =>
    have h2 : s.data.toList.length = 0 := by rw [hq]; rfl
    rw [Array.length_toList] at h2
    exact absurd h2 h
  | cons a l => rfl

end Go.Proofs.YtabhkebkbidfhaaDoor

/- The document's Check. -/
namespace Go.Proofs.YtabhkebkbidfhaaDoor
open Go.RowKit
set_option maxRecDepth 100000
set_option linter.unusedSimpArgs false

def goodX (x : Int) : Prop := 32 ≤ x ∧ x ≠ 47 ∧ ¬ (127 ≤ x ∧ x ≤ 159)

/-- A name. -/
def BaseP (s : ByteArray) : Prop := s.toList ≠ [46] ∧ s.toList ≠ [46, 46] ∧ 0 < s.size ∧ bt s 0 ≠ 32 ∧ bt s (s.size - 1) ≠ 32

def NameP (s : ByteArray) : Prop := BaseP s ∧ (∀ k, k < countR s → goodX (runeAt s (posR s k))) ∧ countR s ≤ 32

/-- What Check answers. -/
def NameE (s : ByteArray) (x : Int) : Prop := (x = 0 ∧ NameP s) ∨ (x = 80 ∧ ¬ NameP s)

theorem NameE.uniq {s : ByteArray} {x y : Int} (h1 : NameE s x) (h2 : NameE s y) : x = y := by
  rcases h1 with ⟨rfl, a⟩ | ⟨rfl, a⟩ <;> rcases h2 with ⟨rfl, b⟩ | ⟨rfl, b⟩ <;> first | rfl | exact absurd a b | exact absurd b a




set_option maxRecDepth 100000 in
set_option maxHeartbeats 4000000 in
theorem rcheckN_any (s : ByteArray) (w : World) (hs : s.size ≤ 1048576) :
    Calls Tryd.prog 74 #[.string s] w fun e w' => ∃ x, e = .returned (.int .i64 x) ∧ NameE s x ∧ w' = w := by
  by_cases h1 : s.toList = [46]
  · have g1 : (s.toList == [46]) = true := by rw [beq_iff_eq]; exact h1
    have hno : ¬ NameP s := fun h => h.1.1 h1
    clear h1
    go_enter Tryd.func74, Tryd.ntmps74
    go_wp2_with fail
    go_ret
    exact ⟨80, rfl, Or.inr ⟨rfl, hno⟩, rfl⟩
  · have g1 : (s.toList == [46]) = false := by rw [beq_eq_false_iff_ne]; exact h1
    by_cases h2 : s.toList = [46, 46]
    · have g2 : (s.toList == [46, 46]) = true := by rw [beq_iff_eq]; exact h2
      have hno : ¬ NameP s := fun h => h.1.2.1 h2
      clear h1 h2
      go_enter Tryd.func74, Tryd.ntmps74
      go_wp2_with fail
      go_ret
      exact ⟨80, rfl, Or.inr ⟨rfl, hno⟩, rfl⟩
    · have g2 : (s.toList == [46, 46]) = false := by rw [beq_eq_false_iff_ne]; exact h2
      by_cases h3 : s.size = 0
      · have g3 := isEmpty_yes s h3
        have hno : ¬ NameP s := fun h => by have := h.1.2.2.1; omega
        clear h1 h2 h3
        go_enter Tryd.func74, Tryd.ntmps74
        go_wp2_with fail
        go_ret
        exact ⟨80, rfl, Or.inr ⟨rfl, hno⟩, rfl⟩
      · have g3 := isEmpty_no s h3
        have b0 := bt_get s 0 (by omega)
        obtain ⟨m, hm⟩ : ∃ m, m = s.size - 1 := ⟨_, rfl⟩
        have hz2 : m < s.size := by omega
        have b9 := bt_get s m hz2
        have l0 := bt_lt s 0
        have l9 := bt_lt s m
        have hz : (s.size : Int) - 1 = (m : Int) := by omega
        by_cases h4 : bt s 0 = 32
        · have g4 : (((bt s 0 : Nat) : Int) == 32) = true := by rw [beq_iff_eq]; omega
          have hno : ¬ NameP s := fun h => h.1.2.2.2.1 h4
          clear h1 h2 h4 b9 l9 hz hz2 hm
          generalize bt s 0 = a at *
          go_enter Tryd.func74, Tryd.ntmps74
          go_wp2_with fail
          go_ret
          exact ⟨80, rfl, Or.inr ⟨rfl, hno⟩, rfl⟩
        · have g4 : (((bt s 0 : Nat) : Int) == 32) = false := by rw [beq_eq_false_iff_ne]; omega
          have i1 : (m : Int) < (s.size : Int) := by omega
          by_cases h5 : bt s m = 32
          · have g5 : (((bt s m : Nat) : Int) == 32) = true := by rw [beq_iff_eq]; omega
            have hno : ¬ NameP s := fun h => h.1.2.2.2.2 (by rw [← hm]; exact h5)
            clear h1 h2 h4 h5 hm
            generalize bt s 0 = a at *
            generalize bt s m = b at *
            go_enter Tryd.func74, Tryd.ntmps74
            go_wp2_with fail
            go_ret
            exact ⟨80, rfl, Or.inr ⟨rfl, hno⟩, rfl⟩
          · have g5 : (((bt s m : Nat) : Int) == 32) = false := by rw [beq_eq_false_iff_ne]; omega
            have HB : Hid (BaseP s) := ⟨h1, h2, by omega, h4, by rw [← hm]; exact h5⟩
            clear h1 h2 h4 h5 hm
            generalize bt s 0 = a at *
            generalize bt s m = b at *
            go_enter Tryd.func74, Tryd.ntmps74
            go_wp2_with fail
            go_loopw [3, 4] (fun n t wr => ∃ p k : Nat, ∃ T : ByteArray, t = .string T ∧ n = .int .i64 (k : Int) ∧ Hid (T = restB s p) ∧ Hid (p = posR s k) ∧ Hid (k + leftR s p = countR s) ∧ Hid (∀ j, j < k → goodX (runeAt s (posR s j))) ∧ k ≤ 32 ∧ p ≤ s.size ∧ wr = w) (fun _ t _ => strLenV t)
            case atStart => exact ⟨0, 0, s, rfl, rfl, (restB_zero s).symm, rfl, Nat.zero_add _, fun j hj => absurd hj (Nat.not_lt_zero _), by omega, Nat.zero_le _, rfl⟩
            case round =>
              obtain ⟨p, k, T, rfl, rfl, HT, HP, HK, HG, hk, hp, rfl⟩ := hrel
              have hTs : T.size = s.size - p := by rw [HT.out, restB_size]
              by_cases h0 : p < s.size
              · have g6 := isEmpty_no T (by omega)
                have C : Hid (∀ w, _) := fun w => rone_any T w (by omega)
                have hq1 := nextR_gt s p
                have hq2 := nextR_le s p h0
                have hst := leftR_step s p h0
                have hcnt : k < countR s := by have := HK.out; omega
                obtain ⟨K, hK⟩ : ∃ K, K = runeK (oneP T) := ⟨_, rfl⟩
                obtain ⟨X, hX⟩ : ∃ X, X = runeX (oneP T) := ⟨_, rfl⟩
                have hnx : nextR s p = p + K := by rw [hK, HT.out]; rfl
                have hrx : runeAt s (posR s k) = X := by rw [hX, ← HP.out, HT.out]; rfl
                rw [← hK, ← hX] at C
                have hbad : ¬ goodX X → ¬ NameP s := fun hb h => hb (by rw [← hrx]; exact h.2.1 k hcnt)
                by_cases x1 : X < 32
                · have hno := hbad (fun h => by have := h.1; omega)
                  have q1 : decide (X < 32) = true := by simp; exact x1
                  clear hbad hrx hX hK hnx hst hcnt hq1 hq2 HT HP HK HG hTs
                  go_wp2_with fail
                  refine (C.out _).mono ?_
                  rintro e w1 ⟨rfl, rfl⟩
                  clear C
                  go_wp2_with fail
                  go_ret
                  exact ⟨80, rfl, Or.inr ⟨rfl, hno⟩, rfl⟩
                · have q1 : decide (X < 32) = false := by simp; omega
                  by_cases x2 : X = 47
                  · have hno := hbad (fun h => h.2.1 x2)
                    subst x2
                    clear hbad hrx hX hK hnx hst hcnt hq1 hq2 HT HP HK HG hTs
                    go_wp2_with fail
                    refine (C.out _).mono ?_
                    rintro e w1 ⟨rfl, rfl⟩
                    clear C
                    go_wp2_with fail
                    go_ret
                    exact ⟨80, rfl, Or.inr ⟨rfl, hno⟩, rfl⟩
                  · have q2 : (X == 47) = false := by rw [beq_eq_false_iff_ne]; exact x2
                    by_cases x3 : 127 ≤ X ∧ X ≤ 159
                    · have hno := hbad (fun h => h.2.2 x3)
                      have q3 : decide (127 ≤ X) = true := by simp; exact x3.1
                      have q4 : decide (X ≤ 159) = true := by simp; exact x3.2
                      clear hbad hrx hX hK hnx hst hcnt hq1 hq2 HT HP HK HG hTs x3
                      go_wp2_with fail
                      refine (C.out _).mono ?_
                      rintro e w1 ⟨rfl, rfl⟩
                      clear C
                      go_wp2_with fail
                      go_ret
                      exact ⟨80, rfl, Or.inr ⟨rfl, hno⟩, rfl⟩
                    · have hgood : goodX X := ⟨by omega, x2, x3⟩
                      by_cases x5 : 32 ≤ k
                      · have hno : ¬ NameP s := fun h => by have := h.2.2; omega
                        have q5 : decide ((32 : Int) ≤ (k : Int)) = true := by simp; omega
                        by_cases x4 : 127 ≤ X
                        · have q3 : decide (127 ≤ X) = true := by simp; exact x4
                          have q4 : decide (X ≤ 159) = false := by simp; omega
                          clear hgood hbad hrx hX hK hnx hst hcnt hq1 hq2 HT HP HK HG hTs x3
                          go_wp2_with fail
                          refine (C.out _).mono ?_
                          rintro e w1 ⟨rfl, rfl⟩
                          clear C
                          go_wp2_with fail
                          go_ret
                          exact ⟨80, rfl, Or.inr ⟨rfl, hno⟩, rfl⟩
                        · have q3 : decide (127 ≤ X) = false := by simp; omega
                          clear hgood hbad hrx hX hK hnx hst hcnt hq1 hq2 HT HP HK HG hTs x3
                          go_wp2_with fail
                          refine (C.out _).mono ?_
                          rintro e w1 ⟨rfl, rfl⟩
                          clear C
                          go_wp2_with fail
                          go_ret
                          exact ⟨80, rfl, Or.inr ⟨rfl, hno⟩, rfl⟩
                      · have q5 : decide ((32 : Int) ≤ (k : Int)) = false := by simp; omega
                        obtain ⟨T', hT'⟩ : ∃ T', T.extract K T.size = T' := ⟨_, rfl⟩
                        have HT' : Hid (T' = restB s (p + K)) := by show _ = _; rw [← hT', HT.out]; exact restB_rest s p K (by omega)
                        have hTs' : T'.size = s.size - (p + K) := by rw [HT'.out, restB_size]
                        have HM : Hid (T'.size < T.size) := by show _ < _; omega
                        have HP' : Hid (p + K = posR s (k + 1)) := by
                          show _ = _
                          have h1 := HP.out
                          rw [posR_succ s k (by rw [← h1]; exact h0), ← h1, hnx]
                        have HK' : Hid (k + 1 + leftR s (p + K) = countR s) := by
                          show _ = _
                          rw [hnx] at hst
                          have h2 := HK.out
                          omega
                        have HG' : Hid (∀ j, j < k + 1 → goodX (runeAt s (posR s j))) := by
                          show ∀ j, _
                          intro j hj
                          by_cases e : j = k
                          · subst e; rw [hrx]; exact hgood
                          · exact HG.out j (by omega)
                        have i4 : (K : Int) ≤ (T.size : Int) := by omega
                        have i5 : (0 : Int) ≤ (K : Int) := by omega
                        have i6 : K ≤ T.size := by omega
                        have hpK : p + K ≤ s.size := by omega
                        by_cases x4 : 127 ≤ X
                        · have q3 : decide (127 ≤ X) = true := by simp; exact x4
                          have q4 : decide (X ≤ 159) = false := by simp; omega
                          clear hgood hbad hrx hX hK hnx hst hcnt hq1 hq2 HT HP HK HG hTs hTs' x3
                          go_wp2_with fail
                          refine (C.out _).mono ?_
                          rintro e w1 ⟨rfl, rfl⟩
                          clear C
                          go_wp2_with fail
                          refine ⟨⟨p + K, k + 1, T', rfl, by go_num, HT', HP', HK', HG', by omega, hpK, by first | rfl | trivial⟩, ?_⟩
                          exact HM.out
                        · have q3 : decide (127 ≤ X) = false := by simp; omega
                          clear hgood hbad hrx hX hK hnx hst hcnt hq1 hq2 HT HP HK HG hTs hTs' x3
                          go_wp2_with fail
                          refine (C.out _).mono ?_
                          rintro e w1 ⟨rfl, rfl⟩
                          clear C
                          go_wp2_with fail
                          refine ⟨⟨p + K, k + 1, T', rfl, by go_num, HT', HP', HK', HG', by omega, hpK, by first | rfl | trivial⟩, ?_⟩
                          exact HM.out
              · have g6 := isEmpty_yes T (by omega)
                have hy : NameP s := by
                  have h1 := leftR_end s p h0
                  have h2 := HK.out
                  have h3 : countR s = k := by omega
                  exact ⟨HB.out, by rw [h3]; exact HG.out, by omega⟩
                clear HT HP HK HG hTs
                go_wp2_with fail
                go_ret
                exact ⟨0, rfl, Or.inl ⟨rfl, hy⟩, rfl⟩

end Go.Proofs.YtabhkebkbidfhaaDoor
