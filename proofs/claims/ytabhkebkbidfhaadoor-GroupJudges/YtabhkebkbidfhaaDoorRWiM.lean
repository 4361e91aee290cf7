/- Layer 19, the document's: May, Check of records. -/
import Derived.Test.YtabhkebkbidfhaaDoorRWiE
import Derived.Test.YtabhkebkbidfhaaDoorRG
import Derived.Test.YtabhkebkbidfhaaDoorRWiC
namespace Go.Proofs.YtabhkebkbidfhaaDoor
open Go.RowKit
set_option maxRecDepth 100000
set_option linter.unusedSimpArgs false
set_option linter.unusedVariables false
set_option maxRecDepth 100000



set_option maxHeartbeats 4000000 in
theorem rmay1 (M : OpT → Bool) (hM : ∀ o, M o = true ↔ MayO o) (F C S : Int) (H : ByteArray) (k0 k1 k2 k3 k4 k5 k6 : Int) (s7 s8 : ByteArray) (q : Int) (a : Option Addr) (n c : Nat) (w : World) (D : Bool) (h7 : s7.size ≤ 1048576) (h8 : s8.size ≤ 9223372036854775807) (hD : (M (k0, (k1, k2), (k3, k4), (k5, k6), s7, s8) && decide (k2 = F) && decide (q = 0) && decide (n = 0)) = D) (g1 : ¬ F < 1) (g2 : ¬ (6 : Int) < F) (g3 : ¬ C < 1) (g4 : ¬ (1099511627775 : Int) < C) (CS : ∀ W, Calls Tryd.prog 58 #[.int .i64 S] W fun e w' => e = .returned (.bool true) ∧ w' = W) (g5 : ((H.size : Int) != 32) = false) :
    Calls Tryd.prog 33 #[.agg #[.int .i64 1, .int .i64 F, .int .i64 C, .int .i64 S, .string H, .int .i64 k0, .int .i64 k1, .int .i64 k2, .int .i64 k3, .int .i64 k4, .int .i64 k5, .int .i64 k6, .string s7, .string s8, .int .i64 q, .slice a n c]] w fun e w' => e = .returned (.bool D) ∧ Below w.heap.size w w' := by
  have CT' : ∀ W, Below w.heap.size w W → _ := fun W hW => rmayO_any (k0, (k1, k2), (k3, k4), (k5, k6), s7, s8) (M (k0, (k1, k2), (k3, k4), (k5, k6), s7, s8)) (hM _) W h7 h8
  obtain ⟨X, hX⟩ : ∃ X, M (k0, (k1, k2), (k3, k4), (k5, k6), s7, s8) = X := ⟨_, rfl⟩
  simp only [hX, opA] at CT' hD
  have CT : Hid (∀ W, Below w.heap.size w W → _) := CT'
  have HD : Hid (_ = D) := hD
  clear CT' hX hD h7 h8 hM
  have HB0 : Hid (Below w.heap.size w (w.alloc (.cells #[.int .i64 1, .int .i64 F, .int .i64 C, .int .i64 S, .string H, .int .i64 k0, .int .i64 k1, .int .i64 k2, .int .i64 k3, .int .i64 k4, .int .i64 k5, .int .i64 k6, .string s7, .string s8, .int .i64 q, .slice a n c] 31))) := below_new _ _
  have HK0 : Hid (Blk (w.alloc (.cells #[.int .i64 1, .int .i64 F, .int .i64 C, .int .i64 S, .string H, .int .i64 k0, .int .i64 k1, .int .i64 k2, .int .i64 k3, .int .i64 k4, .int .i64 k5, .int .i64 k6, .string s7, .string s8, .int .i64 q, .slice a n c] 31)) 31 w.heap.size #[.int .i64 1, .int .i64 F, .int .i64 C, .int .i64 S, .string H, .int .i64 k0, .int .i64 k1, .int .i64 k2, .int .i64 k3, .int .i64 k4, .int .i64 k5, .int .i64 k6, .string s7, .string s8, .int .i64 q, .slice a n c]) := Blk.new _ _ _
  cases X with
  | false =>
    obtain rfl : false = D := by have h := HD.out; simpa using h
    go_enter Tryd.func33, Tryd.ntmps33
    go_wp2_with fail
    refine (CS _).mono ?_
    rintro e wx ⟨rfl, rfl⟩
    go_wp2_with fail
    obtain ⟨w0, hw0⟩ : ∃ w0, w.alloc (.cells #[.int .i64 1, .int .i64 F, .int .i64 C, .int .i64 S, .string H, .int .i64 k0, .int .i64 k1, .int .i64 k2, .int .i64 k3, .int .i64 k4, .int .i64 k5, .int .i64 k6, .string s7, .string s8, .int .i64 q, .slice a n c] 31) = w0 := ⟨_, rfl⟩
    obtain ⟨h0, hh0⟩ : ∃ h0, w.heap.size = h0 := ⟨_, rfl⟩
    rw [hw0] at HB0 HK0
    rw [hh0] at HK0
    try rw [hw0]
    try rw [hh0]
    clear hw0 hh0
    refine (CT.out w0 HB0.out).mono ?_
    rintro e w1 ⟨rfl, hb1⟩
    have HB1 : Hid (Below w.heap.size w w1) := below_step HB0.out (Nat.le_refl _) hb1
    have hK1 : Blk w1 31 h0 #[.int .i64 1, .int .i64 F, .int .i64 C, .int .i64 S, .string H, .int .i64 k0, .int .i64 k1, .int .i64 k2, .int .i64 k3, .int .i64 k4, .int .i64 k5, .int .i64 k6, .string s7, .string s8, .int .i64 q, .slice a n c] := HK0.out.on hb1
    have d1 : w1.cell? ⟨h0, 1, none⟩ = some (.int .i64 F) := hK1.cell 1
    have d7 : w1.cell? ⟨h0, 7, none⟩ = some (.int .i64 k2) := hK1.cell 7
    have d14 : w1.cell? ⟨h0, 14, none⟩ = some (.int .i64 q) := hK1.cell 14
    have d15 : w1.cell? ⟨h0, 15, none⟩ = some (.slice a n c) := hK1.cell 15
    clear hb1 hK1 HB0 HK0 CT CS
    go_wp2_with fail
    go_ret
    exact ⟨rfl, HB1.out⟩
  | true =>
    by_cases h1 : k2 = F
    · have t1 : (k2 == F) = true := by simp [h1]
      by_cases h2 : q = 0
      · have t2 : (q == 0) = true := by simp [h2]
        by_cases h3 : n = 0
        · have t3 : ((n : Int) == 0) = true := by simp [h3]
          obtain rfl : true = D := by have h := HD.out; simpa [h1, h2, h3] using h
          clear h1 h2 h3
          go_enter Tryd.func33, Tryd.ntmps33
          go_wp2_with fail
          refine (CS _).mono ?_
          rintro e wx ⟨rfl, rfl⟩
          go_wp2_with fail
          obtain ⟨w0, hw0⟩ : ∃ w0, w.alloc (.cells #[.int .i64 1, .int .i64 F, .int .i64 C, .int .i64 S, .string H, .int .i64 k0, .int .i64 k1, .int .i64 k2, .int .i64 k3, .int .i64 k4, .int .i64 k5, .int .i64 k6, .string s7, .string s8, .int .i64 q, .slice a n c] 31) = w0 := ⟨_, rfl⟩
          obtain ⟨h0, hh0⟩ : ∃ h0, w.heap.size = h0 := ⟨_, rfl⟩
          rw [hw0] at HB0 HK0
          rw [hh0] at HK0
          try rw [hw0]
          try rw [hh0]
          clear hw0 hh0
          refine (CT.out w0 HB0.out).mono ?_
          rintro e w1 ⟨rfl, hb1⟩
          have HB1 : Hid (Below w.heap.size w w1) := below_step HB0.out (Nat.le_refl _) hb1
          have hK1 : Blk w1 31 h0 #[.int .i64 1, .int .i64 F, .int .i64 C, .int .i64 S, .string H, .int .i64 k0, .int .i64 k1, .int .i64 k2, .int .i64 k3, .int .i64 k4, .int .i64 k5, .int .i64 k6, .string s7, .string s8, .int .i64 q, .slice a n c] := HK0.out.on hb1
          have d1 : w1.cell? ⟨h0, 1, none⟩ = some (.int .i64 F) := hK1.cell 1
          have d7 : w1.cell? ⟨h0, 7, none⟩ = some (.int .i64 k2) := hK1.cell 7
          have d14 : w1.cell? ⟨h0, 14, none⟩ = some (.int .i64 q) := hK1.cell 14
          have d15 : w1.cell? ⟨h0, 15, none⟩ = some (.slice a n c) := hK1.cell 15
          clear hb1 hK1 HB0 HK0 CT CS
          go_wp2_with fail
          go_ret
          exact ⟨rfl, HB1.out⟩
        · have t3 : ((n : Int) == 0) = false := by simp [h3]
          obtain rfl : false = D := by have h := HD.out; simpa [h1, h2, h3] using h
          clear h1 h2
          go_enter Tryd.func33, Tryd.ntmps33
          go_wp2_with fail
          refine (CS _).mono ?_
          rintro e wx ⟨rfl, rfl⟩
          go_wp2_with fail
          obtain ⟨w0, hw0⟩ : ∃ w0, w.alloc (.cells #[.int .i64 1, .int .i64 F, .int .i64 C, .int .i64 S, .string H, .int .i64 k0, .int .i64 k1, .int .i64 k2, .int .i64 k3, .int .i64 k4, .int .i64 k5, .int .i64 k6, .string s7, .string s8, .int .i64 q, .slice a n c] 31) = w0 := ⟨_, rfl⟩
          obtain ⟨h0, hh0⟩ : ∃ h0, w.heap.size = h0 := ⟨_, rfl⟩
          rw [hw0] at HB0 HK0
          rw [hh0] at HK0
          try rw [hw0]
          try rw [hh0]
          clear hw0 hh0
          refine (CT.out w0 HB0.out).mono ?_
          rintro e w1 ⟨rfl, hb1⟩
          have HB1 : Hid (Below w.heap.size w w1) := below_step HB0.out (Nat.le_refl _) hb1
          have hK1 : Blk w1 31 h0 #[.int .i64 1, .int .i64 F, .int .i64 C, .int .i64 S, .string H, .int .i64 k0, .int .i64 k1, .int .i64 k2, .int .i64 k3, .int .i64 k4, .int .i64 k5, .int .i64 k6, .string s7, .string s8, .int .i64 q, .slice a n c] := HK0.out.on hb1
          have d1 : w1.cell? ⟨h0, 1, none⟩ = some (.int .i64 F) := hK1.cell 1
          have d7 : w1.cell? ⟨h0, 7, none⟩ = some (.int .i64 k2) := hK1.cell 7
          have d14 : w1.cell? ⟨h0, 14, none⟩ = some (.int .i64 q) := hK1.cell 14
          have d15 : w1.cell? ⟨h0, 15, none⟩ = some (.slice a n c) := hK1.cell 15
          clear hb1 hK1 HB0 HK0 CT CS
          go_wp2_with fail
          go_ret
          exact ⟨rfl, HB1.out⟩
      · have t2 : (q == 0) = false := by simp [h2]
        obtain rfl : false = D := by have h := HD.out; simpa [h1, h2] using h
        clear h1
        go_enter Tryd.func33, Tryd.ntmps33
        go_wp2_with fail
        refine (CS _).mono ?_
        rintro e wx ⟨rfl, rfl⟩
        go_wp2_with fail
        obtain ⟨w0, hw0⟩ : ∃ w0, w.alloc (.cells #[.int .i64 1, .int .i64 F, .int .i64 C, .int .i64 S, .string H, .int .i64 k0, .int .i64 k1, .int .i64 k2, .int .i64 k3, .int .i64 k4, .int .i64 k5, .int .i64 k6, .string s7, .string s8, .int .i64 q, .slice a n c] 31) = w0 := ⟨_, rfl⟩
        obtain ⟨h0, hh0⟩ : ∃ h0, w.heap.size = h0 := ⟨_, rfl⟩
        rw [hw0] at HB0 HK0
        rw [hh0] at HK0
        try rw [hw0]
        try rw [hh0]
        clear hw0 hh0
        refine (CT.out w0 HB0.out).mono ?_
        rintro e w1 ⟨rfl, hb1⟩
        have HB1 : Hid (Below w.heap.size w w1) := below_step HB0.out (Nat.le_refl _) hb1
        have hK1 : Blk w1 31 h0 #[.int .i64 1, .int .i64 F, .int .i64 C, .int .i64 S, .string H, .int .i64 k0, .int .i64 k1, .int .i64 k2, .int .i64 k3, .int .i64 k4, .int .i64 k5, .int .i64 k6, .string s7, .string s8, .int .i64 q, .slice a n c] := HK0.out.on hb1
        have d1 : w1.cell? ⟨h0, 1, none⟩ = some (.int .i64 F) := hK1.cell 1
        have d7 : w1.cell? ⟨h0, 7, none⟩ = some (.int .i64 k2) := hK1.cell 7
        have d14 : w1.cell? ⟨h0, 14, none⟩ = some (.int .i64 q) := hK1.cell 14
        have d15 : w1.cell? ⟨h0, 15, none⟩ = some (.slice a n c) := hK1.cell 15
        clear hb1 hK1 HB0 HK0 CT CS
        go_wp2_with fail
        go_ret
        exact ⟨rfl, HB1.out⟩
    · have t1 : (k2 == F) = false := by simp [h1]
      obtain rfl : false = D := by have h := HD.out; simpa [h1] using h
      go_enter Tryd.func33, Tryd.ntmps33
      go_wp2_with fail
      refine (CS _).mono ?_
      rintro e wx ⟨rfl, rfl⟩
      go_wp2_with fail
      obtain ⟨w0, hw0⟩ : ∃ w0, w.alloc (.cells #[.int .i64 1, .int .i64 F, .int .i64 C, .int .i64 S, .string H, .int .i64 k0, .int .i64 k1, .int .i64 k2, .int .i64 k3, .int .i64 k4, .int .i64 k5, .int .i64 k6, .string s7, .string s8, .int .i64 q, .slice a n c] 31) = w0 := ⟨_, rfl⟩
      obtain ⟨h0, hh0⟩ : ∃ h0, w.heap.size = h0 := ⟨_, rfl⟩
      rw [hw0] at HB0 HK0
      rw [hh0] at HK0
      try rw [hw0]
      try rw [hh0]
      clear hw0 hh0
      refine (CT.out w0 HB0.out).mono ?_
      rintro e w1 ⟨rfl, hb1⟩
      have HB1 : Hid (Below w.heap.size w w1) := below_step HB0.out (Nat.le_refl _) hb1
      have hK1 : Blk w1 31 h0 #[.int .i64 1, .int .i64 F, .int .i64 C, .int .i64 S, .string H, .int .i64 k0, .int .i64 k1, .int .i64 k2, .int .i64 k3, .int .i64 k4, .int .i64 k5, .int .i64 k6, .string s7, .string s8, .int .i64 q, .slice a n c] := HK0.out.on hb1
      have d1 : w1.cell? ⟨h0, 1, none⟩ = some (.int .i64 F) := hK1.cell 1
      have d7 : w1.cell? ⟨h0, 7, none⟩ = some (.int .i64 k2) := hK1.cell 7
      have d14 : w1.cell? ⟨h0, 14, none⟩ = some (.int .i64 q) := hK1.cell 14
      have d15 : w1.cell? ⟨h0, 15, none⟩ = some (.slice a n c) := hK1.cell 15
      clear hb1 hK1 HB0 HK0 CT CS
      go_wp2_with fail
      go_ret
      exact ⟨rfl, HB1.out⟩

set_option maxHeartbeats 4000000 in
theorem rmay2 (F C S : Int) (H : ByteArray) (k0 k1 k2 k3 k4 k5 k6 : Int) (s7 s8 : ByteArray) (q : Int) (a : Option Addr) (n c : Nat) (w : World) (X Y D : Bool) (hX : decide ((k0, (k1, k2), (k3, k4), (k5, k6), s7, s8) = op0) = X) (hD : (X && decide (1 ≤ q ∧ q ≤ 6) && Y) = D)
    (CW' : ∀ W, Below w.heap.size w W → Calls Tryd.prog 60 #[.slice a n c] W fun e w' => e = .returned (.bool Y) ∧ Below W.heap.size W w') (g1 : ¬ F < 1) (g2 : ¬ (6 : Int) < F) (g3 : ¬ C < 1) (g4 : ¬ (1099511627775 : Int) < C) (CS : ∀ W, Calls Tryd.prog 58 #[.int .i64 S] W fun e w' => e = .returned (.bool true) ∧ w' = W) (g5 : ((H.size : Int) != 32) = false) :
    Calls Tryd.prog 33 #[.agg #[.int .i64 2, .int .i64 F, .int .i64 C, .int .i64 S, .string H, .int .i64 k0, .int .i64 k1, .int .i64 k2, .int .i64 k3, .int .i64 k4, .int .i64 k5, .int .i64 k6, .string s7, .string s8, .int .i64 q, .slice a n c]] w fun e w' => e = .returned (.bool D) ∧ Below w.heap.size w w' := by
  have heq := opEq_is (k0, (k1, k2), (k3, k4), (k5, k6), s7, s8) op0 X hX
  simp only [opA, op0] at heq
  have CW : Hid (∀ W, Below w.heap.size w W → _) := CW'
  have HD : Hid (_ = D) := hD
  clear CW' hX hD
  have HB0 : Hid (Below w.heap.size w (w.alloc (.cells #[.int .i64 2, .int .i64 F, .int .i64 C, .int .i64 S, .string H, .int .i64 k0, .int .i64 k1, .int .i64 k2, .int .i64 k3, .int .i64 k4, .int .i64 k5, .int .i64 k6, .string s7, .string s8, .int .i64 q, .slice a n c] 31))) := below_new _ _
  cases X with
  | false =>
    obtain rfl : false = D := by have h := HD.out; simpa using h
    go_enter Tryd.func33, Tryd.ntmps33
    go_wp2_with fail
    refine (CS _).mono ?_
    rintro e wx ⟨rfl, rfl⟩
    go_wp2_with fail
    go_ret
    exact ⟨rfl, HB0.out⟩
  | true =>
    by_cases h1 : 1 ≤ q
    · have r1 : decide ((1 : Int) ≤ q) = true := decide_eq_true h1
      by_cases h2 : q ≤ 6
      · have r2 : decide (q ≤ (6 : Int)) = true := decide_eq_true h2
        obtain rfl : Y = D := by have h := HD.out; rw [decide_eq_true ⟨h1, h2⟩] at h; simpa using h
        go_enter Tryd.func33, Tryd.ntmps33
        go_wp2_with fail
        refine (CS _).mono ?_
        rintro e wx ⟨rfl, rfl⟩
        go_wp2_with fail
        obtain ⟨w0, hw0⟩ : ∃ w0, w.alloc (.cells #[.int .i64 2, .int .i64 F, .int .i64 C, .int .i64 S, .string H, .int .i64 k0, .int .i64 k1, .int .i64 k2, .int .i64 k3, .int .i64 k4, .int .i64 k5, .int .i64 k6, .string s7, .string s8, .int .i64 q, .slice a n c] 31) = w0 := ⟨_, rfl⟩
        rw [hw0] at HB0
        try rw [hw0]
        clear hw0
        refine (CW.out w0 HB0.out).mono ?_
        rintro e w1 ⟨rfl, hb1⟩
        have hB1 := below_step HB0.out (Nat.le_refl _) hb1
        clear hb1
        go_wp2_with fail
        go_ret
        exact ⟨rfl, hB1⟩
      · have r2 : decide (q ≤ (6 : Int)) = false := decide_eq_false h2
        obtain rfl : false = D := by have h := HD.out; rw [decide_eq_false (fun k => h2 k.2)] at h; simpa using h
        go_enter Tryd.func33, Tryd.ntmps33
        go_wp2_with fail
        refine (CS _).mono ?_
        rintro e wx ⟨rfl, rfl⟩
        go_wp2_with fail
        go_ret
        exact ⟨rfl, HB0.out⟩
    · have r1 : decide ((1 : Int) ≤ q) = false := decide_eq_false h1
      obtain rfl : false = D := by have h := HD.out; rw [decide_eq_false (fun k => h1 k.1)] at h; simpa using h
      go_enter Tryd.func33, Tryd.ntmps33
      go_wp2_with fail
      refine (CS _).mono ?_
      rintro e wx ⟨rfl, rfl⟩
      go_wp2_with fail
      go_ret
      exact ⟨rfl, HB0.out⟩

set_option maxHeartbeats 4000000 in
theorem rmay3 (F C S : Int) (H : ByteArray) (k0 k1 k2 k3 k4 k5 k6 : Int) (s7 s8 : ByteArray) (q : Int) (a : Option Addr) (n c : Nat) (w : World) (X Y D : Bool) (hX : decide ((k0, (k1, k2), (k3, k4), (k5, k6), s7, s8) = op0) = X) (hD : (X && decide (1 ≤ q ∧ q ≤ 6) && Y) = D)
    (CW' : ∀ W, Below w.heap.size w W → Calls Tryd.prog 60 #[.slice a n c] W fun e w' => e = .returned (.bool Y) ∧ Below W.heap.size W w') (g1 : ¬ F < 1) (g2 : ¬ (6 : Int) < F) (g3 : ¬ C < 1) (g4 : ¬ (1099511627775 : Int) < C) (CS : ∀ W, Calls Tryd.prog 58 #[.int .i64 S] W fun e w' => e = .returned (.bool true) ∧ w' = W) (g5 : ((H.size : Int) != 32) = false) :
    Calls Tryd.prog 33 #[.agg #[.int .i64 3, .int .i64 F, .int .i64 C, .int .i64 S, .string H, .int .i64 k0, .int .i64 k1, .int .i64 k2, .int .i64 k3, .int .i64 k4, .int .i64 k5, .int .i64 k6, .string s7, .string s8, .int .i64 q, .slice a n c]] w fun e w' => e = .returned (.bool D) ∧ Below w.heap.size w w' := by
  have heq := opEq_is (k0, (k1, k2), (k3, k4), (k5, k6), s7, s8) op0 X hX
  simp only [opA, op0] at heq
  have CW : Hid (∀ W, Below w.heap.size w W → _) := CW'
  have HD : Hid (_ = D) := hD
  clear CW' hX hD
  have HB0 : Hid (Below w.heap.size w (w.alloc (.cells #[.int .i64 3, .int .i64 F, .int .i64 C, .int .i64 S, .string H, .int .i64 k0, .int .i64 k1, .int .i64 k2, .int .i64 k3, .int .i64 k4, .int .i64 k5, .int .i64 k6, .string s7, .string s8, .int .i64 q, .slice a n c] 31))) := below_new _ _
  cases X with
  | false =>
    obtain rfl : false = D := by have h := HD.out; simpa using h
    go_enter Tryd.func33, Tryd.ntmps33
    go_wp2_with fail
    refine (CS _).mono ?_
    rintro e wx ⟨rfl, rfl⟩
    go_wp2_with fail
    go_ret
    exact ⟨rfl, HB0.out⟩
  | true =>
    by_cases h1 : 1 ≤ q
    · have r1 : decide ((1 : Int) ≤ q) = true := decide_eq_true h1
      by_cases h2 : q ≤ 6
      · have r2 : decide (q ≤ (6 : Int)) = true := decide_eq_true h2
        obtain rfl : Y = D := by have h := HD.out; rw [decide_eq_true ⟨h1, h2⟩] at h; simpa using h
        go_enter Tryd.func33, Tryd.ntmps33
        go_wp2_with fail
        refine (CS _).mono ?_
        rintro e wx ⟨rfl, rfl⟩
        go_wp2_with fail
        obtain ⟨w0, hw0⟩ : ∃ w0, w.alloc (.cells #[.int .i64 3, .int .i64 F, .int .i64 C, .int .i64 S, .string H, .int .i64 k0, .int .i64 k1, .int .i64 k2, .int .i64 k3, .int .i64 k4, .int .i64 k5, .int .i64 k6, .string s7, .string s8, .int .i64 q, .slice a n c] 31) = w0 := ⟨_, rfl⟩
        rw [hw0] at HB0
        try rw [hw0]
        clear hw0
        refine (CW.out w0 HB0.out).mono ?_
        rintro e w1 ⟨rfl, hb1⟩
        have hB1 := below_step HB0.out (Nat.le_refl _) hb1
        clear hb1
        go_wp2_with fail
        go_ret
        exact ⟨rfl, hB1⟩
      · have r2 : decide (q ≤ (6 : Int)) = false := decide_eq_false h2
        obtain rfl : false = D := by have h := HD.out; rw [decide_eq_false (fun k => h2 k.2)] at h; simpa using h
        go_enter Tryd.func33, Tryd.ntmps33
        go_wp2_with fail
        refine (CS _).mono ?_
        rintro e wx ⟨rfl, rfl⟩
        go_wp2_with fail
        go_ret
        exact ⟨rfl, HB0.out⟩
    · have r1 : decide ((1 : Int) ≤ q) = false := decide_eq_false h1
      obtain rfl : false = D := by have h := HD.out; rw [decide_eq_false (fun k => h1 k.1)] at h; simpa using h
      go_enter Tryd.func33, Tryd.ntmps33
      go_wp2_with fail
      refine (CS _).mono ?_
      rintro e wx ⟨rfl, rfl⟩
      go_wp2_with fail
      go_ret
      exact ⟨rfl, HB0.out⟩

set_option maxHeartbeats 4000000 in
theorem rmay4 (F C S : Int) (H : ByteArray) (k0 k1 k2 k3 k4 k5 k6 : Int) (s7 s8 : ByteArray) (q : Int) (a : Option Addr) (n c : Nat) (w : World) (X Y D : Bool) (hX : decide ((k0, (k1, k2), (k3, k4), (k5, k6), s7, s8) = op0) = X) (hD : (X && decide (q = 0) && Y) = D)
    (CW' : ∀ W, Below w.heap.size w W → Calls Tryd.prog 60 #[.slice a n c] W fun e w' => e = .returned (.bool Y) ∧ Below W.heap.size W w') (g1 : ¬ F < 1) (g2 : ¬ (6 : Int) < F) (g3 : ¬ C < 1) (g4 : ¬ (1099511627775 : Int) < C) (CS : ∀ W, Calls Tryd.prog 58 #[.int .i64 S] W fun e w' => e = .returned (.bool true) ∧ w' = W) (g5 : ((H.size : Int) != 32) = false) :
    Calls Tryd.prog 33 #[.agg #[.int .i64 4, .int .i64 F, .int .i64 C, .int .i64 S, .string H, .int .i64 k0, .int .i64 k1, .int .i64 k2, .int .i64 k3, .int .i64 k4, .int .i64 k5, .int .i64 k6, .string s7, .string s8, .int .i64 q, .slice a n c]] w fun e w' => e = .returned (.bool D) ∧ Below w.heap.size w w' := by
  have heq := opEq_is (k0, (k1, k2), (k3, k4), (k5, k6), s7, s8) op0 X hX
  simp only [opA, op0] at heq
  have CW : Hid (∀ W, Below w.heap.size w W → _) := CW'
  have HD : Hid (_ = D) := hD
  clear CW' hX hD
  have HB0 : Hid (Below w.heap.size w (w.alloc (.cells #[.int .i64 4, .int .i64 F, .int .i64 C, .int .i64 S, .string H, .int .i64 k0, .int .i64 k1, .int .i64 k2, .int .i64 k3, .int .i64 k4, .int .i64 k5, .int .i64 k6, .string s7, .string s8, .int .i64 q, .slice a n c] 31))) := below_new _ _
  cases X with
  | false =>
    obtain rfl : false = D := by have h := HD.out; simpa using h
    go_enter Tryd.func33, Tryd.ntmps33
    go_wp2_with fail
    refine (CS _).mono ?_
    rintro e wx ⟨rfl, rfl⟩
    go_wp2_with fail
    go_ret
    exact ⟨rfl, HB0.out⟩
  | true =>
    by_cases h2 : q = 0
    · have t2 : (q == 0) = true := by simp [h2]
      obtain rfl : Y = D := by have h := HD.out; simpa [h2] using h
      clear h2
      go_enter Tryd.func33, Tryd.ntmps33
      go_wp2_with fail
      refine (CS _).mono ?_
      rintro e wx ⟨rfl, rfl⟩
      go_wp2_with fail
      obtain ⟨w0, hw0⟩ : ∃ w0, w.alloc (.cells #[.int .i64 4, .int .i64 F, .int .i64 C, .int .i64 S, .string H, .int .i64 k0, .int .i64 k1, .int .i64 k2, .int .i64 k3, .int .i64 k4, .int .i64 k5, .int .i64 k6, .string s7, .string s8, .int .i64 q, .slice a n c] 31) = w0 := ⟨_, rfl⟩
      rw [hw0] at HB0
      try rw [hw0]
      clear hw0
      refine (CW.out w0 HB0.out).mono ?_
      rintro e w1 ⟨rfl, hb1⟩
      have hB1 := below_step HB0.out (Nat.le_refl _) hb1
      clear hb1
      go_wp2_with fail
      go_ret
      exact ⟨rfl, hB1⟩
    · have t2 : (q == 0) = false := by simp [h2]
      obtain rfl : false = D := by have h := HD.out; simpa [h2] using h
      go_enter Tryd.func33, Tryd.ntmps33
      go_wp2_with fail
      refine (CS _).mono ?_
      rintro e wx ⟨rfl, rfl⟩
      go_wp2_with fail
      go_ret
      exact ⟨rfl, HB0.out⟩

set_option maxHeartbeats 4000000 in
theorem rmay0 (K : Int) (F C S : Int) (H : ByteArray) (k0 k1 k2 k3 k4 k5 k6 : Int) (s7 s8 : ByteArray) (q : Int) (a : Option Addr) (n c : Nat) (w : World) (h1 : ¬ K = 1) (h2 : ¬ K = 2) (h3 : ¬ K = 3) (h4 : ¬ K = 4) (g1 : ¬ F < 1) (g2 : ¬ (6 : Int) < F) (g3 : ¬ C < 1) (g4 : ¬ (1099511627775 : Int) < C) (CS : ∀ W, Calls Tryd.prog 58 #[.int .i64 S] W fun e w' => e = .returned (.bool true) ∧ w' = W) (g5 : ((H.size : Int) != 32) = false) :
    Calls Tryd.prog 33 #[.agg #[.int .i64 K, .int .i64 F, .int .i64 C, .int .i64 S, .string H, .int .i64 k0, .int .i64 k1, .int .i64 k2, .int .i64 k3, .int .i64 k4, .int .i64 k5, .int .i64 k6, .string s7, .string s8, .int .i64 q, .slice a n c]] w fun e w' => e = .returned (.bool false) ∧ Below w.heap.size w w' := by
  have t1 : (K == 1) = false := by simp [h1]
  have t2 : (K == 2) = false := by simp [h2]
  have t3 : (K == 3) = false := by simp [h3]
  have t4 : (K == 4) = false := by simp [h4]
  have HB0 : Hid (Below w.heap.size w (w.alloc (.cells #[.int .i64 K, .int .i64 F, .int .i64 C, .int .i64 S, .string H, .int .i64 k0, .int .i64 k1, .int .i64 k2, .int .i64 k3, .int .i64 k4, .int .i64 k5, .int .i64 k6, .string s7, .string s8, .int .i64 q, .slice a n c] 31))) := below_new _ _
  go_enter Tryd.func33, Tryd.ntmps33
  go_wp2_with fail
  refine (CS _).mono ?_
  rintro e wx ⟨rfl, rfl⟩
  go_wp2_with fail
  go_ret
  exact ⟨rfl, HB0.out⟩

set_option maxHeartbeats 4000000 in
/-- May, of any record. -/
theorem rmayR_any (M : OpT → Bool) (hM : ∀ o, M o = true ↔ MayO o) (R : RecT) (a : Option Addr) (c : Nat) (w : World) (h7 : R.2.2.2.2.2.1.2.2.2.2.1.size ≤ 1048576) (h8 : R.2.2.2.2.2.1.2.2.2.2.2.size ≤ 9223372036854775807) (hI : WrAt w a R.2.2.2.2.2.2.2.length R.2.2.2.2.2.2.2) (hz : ∀ i, (wrL R.2.2.2.2.2.2.2 i).2.size ≤ 9223372036854775807) (hn : R.2.2.2.2.2.2.2.length ≤ 9223372036854775807) (hH : R.2.2.2.2.1.size ≤ 9223372036854775807) :
    Calls Tryd.prog 33 #[.agg (recA R a c)] w fun e w' => e = .returned (.bool (mayRb M R)) ∧ Below w.heap.size w w' := by
  have CW : ∀ W, Below w.heap.size w W → _ := fun W hW => rwraps19_any R.2.2.2.2.2.2.2 (mayWb R.2.2.2.2.2.2.2) (mayWb_iff _) R.2.2.2.2.2.2.2.length a c W hn (hI.below hW) hz
  unfold mayRb
  obtain ⟨K, F, C, S, H, ⟨k0, ⟨k1, k2⟩, ⟨k3, k4⟩, ⟨k5, k6⟩, s7, s8⟩, q, l⟩ := R
  simp only [recA] at CW h7 h8 hH ⊢
  have CS := rnumber19_any S
  have HB0 : Hid (Below w.heap.size w (w.alloc (.cells #[.int .i64 K, .int .i64 F, .int .i64 C, .int .i64 S, .string H, .int .i64 k0, .int .i64 k1, .int .i64 k2, .int .i64 k3, .int .i64 k4, .int .i64 k5, .int .i64 k6, .string s7, .string s8, .int .i64 q, .slice a l.length c] 31))) := below_new _ _
  by_cases g1 : F < 1
  · rw [show (decide (1 ≤ F ∧ F ≤ 6)) = false from decide_eq_false (by omega)]
    simp only [Bool.false_and]
    obtain ⟨n, hn'⟩ : ∃ n, l.length = n := ⟨_, rfl⟩
    rw [hn'] at HB0 ⊢
    clear CW CS hn'
    go_enter Tryd.func33, Tryd.ntmps33
    go_wp2_with fail
    go_ret
    exact ⟨rfl, HB0.out⟩
  · by_cases g2 : (6 : Int) < F
    · rw [show (decide (1 ≤ F ∧ F ≤ 6)) = false from decide_eq_false (by omega)]
      simp only [Bool.false_and]
      obtain ⟨n, hn'⟩ : ∃ n, l.length = n := ⟨_, rfl⟩
      rw [hn'] at HB0 ⊢
      clear CW CS hn'
      go_enter Tryd.func33, Tryd.ntmps33
      go_wp2_with fail
      go_ret
      exact ⟨rfl, HB0.out⟩
    · rw [show (decide (1 ≤ F ∧ F ≤ 6)) = true from decide_eq_true (by omega)]
      by_cases g3 : C < 1
      · rw [show (decide (1 ≤ C)) = false from decide_eq_false (by omega)]
        simp only [Bool.false_and, Bool.and_false]
        obtain ⟨n, hn'⟩ : ∃ n, l.length = n := ⟨_, rfl⟩
        rw [hn'] at HB0 ⊢
        clear CW CS hn'
        go_enter Tryd.func33, Tryd.ntmps33
        go_wp2_with fail
        go_ret
        exact ⟨rfl, HB0.out⟩
      · rw [show (decide (1 ≤ C)) = true from decide_eq_true (by omega)]
        by_cases g4 : (1099511627775 : Int) < C
        · rw [show (decide (0 ≤ C ∧ C ≤ 1099511627775)) = false from decide_eq_false (by omega)]
          simp only [Bool.false_and, Bool.and_false]
          obtain ⟨n, hn'⟩ : ∃ n, l.length = n := ⟨_, rfl⟩
          rw [hn'] at HB0 ⊢
          clear CW CS hn'
          go_enter Tryd.func33, Tryd.ntmps33
          go_wp2_with fail
          go_ret
          exact ⟨rfl, HB0.out⟩
        · rw [show (decide (0 ≤ C ∧ C ≤ 1099511627775)) = true from decide_eq_true (by omega)]
          by_cases g5 : 0 ≤ S ∧ S ≤ 1099511627775
          · rw [decide_eq_true g5] at CS ⊢
            by_cases g6 : H.size = 32
            · have g7 : ((H.size : Int) != 32) = false := by rw [bne_eq_false_iff_eq]; omega
              rw [decide_eq_true g6]
              simp only [Bool.true_and, Bool.and_true]
              unfold ownRb
              by_cases h1 : K = 1
              · subst h1
                rw [if_pos rfl]
                exact rmay1 M hM F C S H k0 k1 k2 k3 k4 k5 k6 s7 s8 q a l.length c w _ h7 h8 rfl g1 g2 g3 g4 CS g7
              · rw [if_neg h1]
                by_cases h2 : K = 2
                · subst h2
                  rw [if_pos (.inl rfl)]
                  exact rmay2 F C S H k0 k1 k2 k3 k4 k5 k6 s7 s8 q a l.length c w _ _ _ rfl rfl CW g1 g2 g3 g4 CS g7
                · by_cases h3 : K = 3
                  · subst h3
                    rw [if_pos (.inr rfl)]
                    exact rmay3 F C S H k0 k1 k2 k3 k4 k5 k6 s7 s8 q a l.length c w _ _ _ rfl rfl CW g1 g2 g3 g4 CS g7
                  · rw [if_neg (by omega)]
                    by_cases h4 : K = 4
                    · subst h4
                      rw [if_pos rfl]
                      exact rmay4 F C S H k0 k1 k2 k3 k4 k5 k6 s7 s8 q a l.length c w _ _ _ rfl rfl CW g1 g2 g3 g4 CS g7
                    · rw [if_neg h4]
                      exact rmay0 K F C S H k0 k1 k2 k3 k4 k5 k6 s7 s8 q a l.length c w h1 h2 h3 h4 g1 g2 g3 g4 CS g7
            · have g7 : ((H.size : Int) != 32) = true := by rw [bne_iff_ne]; omega
              rw [decide_eq_false g6]
              simp only [Bool.false_and, Bool.and_false, Bool.true_and]
              obtain ⟨n, hn'⟩ : ∃ n, l.length = n := ⟨_, rfl⟩
              rw [hn'] at HB0 ⊢
              clear CW hn' g5 g6
              go_enter Tryd.func33, Tryd.ntmps33
              go_wp2_with fail
              refine (CS _).mono ?_
              rintro e wx ⟨rfl, rfl⟩
              go_wp2_with fail
              go_ret
              exact ⟨rfl, HB0.out⟩
          · rw [decide_eq_false g5] at CS ⊢
            simp only [Bool.false_and, Bool.and_false, Bool.true_and]
            obtain ⟨n, hn'⟩ : ∃ n, l.length = n := ⟨_, rfl⟩
            rw [hn'] at HB0 ⊢
            clear CW hn' g5
            go_enter Tryd.func33, Tryd.ntmps33
            go_wp2_with fail
            refine (CS _).mono ?_
            rintro e wx ⟨rfl, rfl⟩
            go_wp2_with fail
            go_ret
            exact ⟨rfl, HB0.out⟩

end Go.Proofs.YtabhkebkbidfhaaDoor
