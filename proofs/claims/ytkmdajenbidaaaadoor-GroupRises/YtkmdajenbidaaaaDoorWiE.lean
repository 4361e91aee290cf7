/- Layer 19, the code: areWraps, recordHasItsOwn, Check. -/
import Derived.Test.YtkmdajenbidaaaaDoorWiU
import Derived.Test.YtkmdajenbidaaaaDoorWiA
import Derived.Test.YtkmdajenbidaaaaDoorTY
namespace Go.Proofs.YtkmdajenbidaaaaDoor
open Go.RowKit
set_option maxRecDepth 100000
set_option linter.unusedSimpArgs false
set_option linter.unusedVariables false

theorem rise_wr (l : List (Int × ByteArray)) (k : Nat) (h : ∀ i, i < k → OneW l i) : ∀ i, i < k → (i : Int) + 1 ≤ (wrL l i).1 := by
  intro i
  induction i with
  | zero => intro hi; have := (h 0 hi).1; omega
  | succ i ih =>
    intro hi
    have h1 := ih (by omega)
    have h2 := (h (i + 1) hi).2.2.2 (by omega)
    rw [Nat.add_sub_cancel] at h2
    omega

theorem few_wr (l : List (Int × ByteArray)) (k : Nat) (h : ∀ i, i < k → OneW l i) : k ≤ 6 := by
  by_cases hk : k = 0
  · omega
  · have h1 := rise_wr l k h (k - 1) (by omega)
    have h2 := (h (k - 1) (by omega)).2.1
    omega

/-- Who stands ahead of place k. -/
def lastW (l : List (Int × ByteArray)) (k : Nat) : Int := if k = 0 then 0 else (wrL l (k - 1)).1

theorem one_last (l : List (Int × ByteArray)) (k : Nat) (h : ∀ i, i < k → OneW l i) : OneW l k ↔ (lastW l k < (wrL l k).1 ∧ (wrL l k).1 ≤ 6 ∧ (wrL l k).2.size = 48) := by
  unfold OneW lastW
  by_cases hk : k = 0
  · subst hk
    rw [if_pos rfl]
    refine ⟨fun h => ⟨by omega, h.2.1, h.2.2.1⟩, fun h => ⟨by omega, h.2.1, h.2.2, fun k => absurd k (Nat.lt_irrefl _)⟩⟩
  · rw [if_neg hk]
    have h1 := (h (k - 1) (by omega)).1
    refine ⟨fun j => ⟨j.2.2.2 (by omega), j.2.1, j.2.2.1⟩, fun j => ⟨by omega, j.2.1, j.2.2, fun _ => j.1⟩⟩

set_option maxHeartbeats 2000000 in
theorem areWraps_any (l : List (Int × ByteArray)) (a : Option Addr) (n c : Nat) (w : World) (D : Bool) (hD : D = true ↔ MayW l) (hI : WrAt w a n l) (hz : ∀ i, (wrL l i).2.size ≤ 9223372036854775807) (hn : n ≤ 9223372036854775807) :
    Calls Tryd.prog 43 #[.slice a n c] w fun e w' => e = .returned (.bool D) ∧ Below w.heap.size w w' := by
  have HD : Hid (D = true ↔ MayW l) := hD
  have HL : Hid (l.length = n) := hI.1
  have HI : Hid (WrAt w a n l) := hI
  have HZ : Hid (∀ i, (wrL l i).2.size ≤ 9223372036854775807) := hz
  clear hD hI hz
  go_enter Tryd.func43, Tryd.ntmps43
  go_wp2_with fail
  go_loopw [3, 8] (fun la i wr => ∃ k : Nat, k ≤ n ∧ i = .int .i64 k ∧ la = .int .i64 (lastW l k) ∧ Hid (Below w.heap.size w wr) ∧ Hid (∀ j, j < k → OneW l j)) (fun _ i _ => n - (intOf i).toNat)
  case atStart => exact ⟨0, Nat.zero_le _, rfl, rfl, Below.refl _ _, fun j h => absurd h (Nat.not_lt_zero _)⟩
  case round =>
    obtain ⟨k, hk, rfl, rfl, HB, HK⟩ := hrel
    by_cases hlt : k < n
    · have b0 : (k : Int) < (n : Int) := by omega
      obtain ⟨lb, off, rfl, hcl⟩ := (HI.out.below HB.out).2.resolve_left (by omega)
      obtain ⟨k0, k1⟩ := hcl k hlt
      have hz1 := HZ.out k
      have HO : Hid (OneW l k ↔ (lastW l k < (wrL l k).1 ∧ (wrL l k).1 ≤ 6 ∧ (wrL l k).2.size = 48)) := one_last l k HK.out
      have HX : Hid (lastW l (k + 1) = (wrL l k).1) := by show lastW l (k + 1) = _; unfold lastW; rw [if_neg (by omega), Nat.add_sub_cancel]
      obtain ⟨⟨x0, x1⟩, hx⟩ : ∃ x, wrL l k = x := ⟨_, rfl⟩
      obtain ⟨la, hla⟩ : ∃ la, lastW l k = la := ⟨_, rfl⟩
      rw [hx] at k0 k1 hz1 HO HX
      rw [hla] at HO
      try rw [hla]
      simp only at k0 k1 hz1 HO HX
      have HF : Hid (¬ (la < x0 ∧ x0 ≤ 6 ∧ x1.size = 48) → D = false) := fun h => Bool.eq_false_iff.2 (fun e => h (HO.out.1 ((HD.out.1 e).1 k (by rw [HL.out]; exact hlt))))
      have y0 : (wr.alloc (.cells #[.int .i64 x0, .string x1] 47)).cell? ⟨wr.heap.size, 0, none⟩ = some (.int .i64 x0) := (Blk.new wr 47 #[.int .i64 x0, .string x1]).cell 0
      have y1 : (wr.alloc (.cells #[.int .i64 x0, .string x1] 47)).cell? ⟨wr.heap.size, 1, none⟩ = some (.string x1) := (Blk.new wr 47 #[.int .i64 x0, .string x1]).cell 1
      have HB2 : Hid (Below w.heap.size w (wr.alloc (.cells #[.int .i64 x0, .string x1] 47))) := HB.out.alloc HB.out.size _
      clear hx hla hcl HB
      by_cases h0 : la < x0
      · have t0 : ¬ (x0 ≤ la) := by omega
        by_cases h1 : x0 ≤ 6
        · have t1 : ¬ ((6 : Int) < x0) := by omega
          by_cases h2 : x1.size = 48
          · have s1 : ((x1.size : Int) != 48) = false := by rw [bne_eq_false_iff_eq]; omega
            have s2 : (x1.size : Int) = 48 := by omega
            have HK2 : Hid (∀ j, j < k + 1 → OneW l j) := by
              intro j hj
              by_cases e : j = k
              · rw [e]; exact HO.out.2 ⟨h0, h1, h2⟩
              · exact HK.out j (by omega)
            clear h2
            go_wp2_with fail
            refine ⟨?_, ?_⟩
            · first
              | exact ⟨k + 1, by omega, by go_num, by rw [HX.out], HB2, HK2⟩
              | ((repeat apply Exists.intro); refine ⟨?_, rfl⟩; exact ⟨k + 1, by omega, by go_num, by rw [HX.out], HB2, HK2⟩)
            · simp [intOf] <;> omega
          · have s1 : ((x1.size : Int) != 48) = true := by rw [bne_iff_ne]; omega
            have s2 : ¬ ((x1.size : Int) = 48) := by omega
            obtain rfl : D = false := HF.out (fun e => h2 e.2.2)
            go_wp2_with fail
            go_ret
            exact ⟨rfl, HB2.out⟩
        · have t1 : (6 : Int) < x0 := by omega
          obtain rfl : D = false := HF.out (fun e => h1 e.2.1)
          go_wp2_with fail
          go_ret
          exact ⟨rfl, HB2.out⟩
      · have t0 : x0 ≤ la := by omega
        obtain rfl : D = false := HF.out (fun e => h0 e.1)
        go_wp2_with fail
        go_ret
        exact ⟨rfl, HB2.out⟩
    · obtain rfl : k = n := by omega
      have b0 : ¬ ((k : Int) < (k : Int)) := by omega
      obtain rfl : D = true := HD.out.2 ⟨fun i hi => HK.out i (by rw [← HL.out]; exact hi), by rw [HL.out]; exact few_wr l k HK.out⟩
      go_wp2_with fail
      go_ret
      exact ⟨rfl, HB.out⟩



set_option maxHeartbeats 4000000 in
theorem recOwn1 (M : OpT → Bool) (hM : ∀ o, M o = true ↔ MayO o) (F C S : Int) (H : ByteArray) (k0 k1 k2 k3 k4 k5 k6 : Int) (s7 s8 : ByteArray) (q : Int) (a : Option Addr) (n c : Nat) (w : World) (D : Bool) (hG : Glob8 w) (h7 : s7.size ≤ 1048576) (h8 : s8.size ≤ 9223372036854775807) (hD : (M (k0, (k1, k2), (k3, k4), (k5, k6), s7, s8) && decide (k2 = F) && decide (q = 0) && decide (n = 0)) = D) :
    Calls Tryd.prog 36 #[.agg #[.int .i64 1, .int .i64 F, .int .i64 C, .int .i64 S, .string H, .int .i64 k0, .int .i64 k1, .int .i64 k2, .int .i64 k3, .int .i64 k4, .int .i64 k5, .int .i64 k6, .string s7, .string s8, .int .i64 q, .slice a n c]] w fun e w' => e = .returned (.bool D) ∧ Below w.heap.size w w' := by
  have CT' : ∀ W, Below w.heap.size w W → _ := fun W hW => check_any M hM (k0, (k1, k2), (k3, k4), (k5, k6), s7, s8) W (hG.below hW) h7 h8
  obtain ⟨X, hX⟩ : ∃ X, M (k0, (k1, k2), (k3, k4), (k5, k6), s7, s8) = X := ⟨_, rfl⟩
  simp only [hX, opA] at CT' hD
  have CT : Hid (∀ W, Below w.heap.size w W → _) := CT'
  have HD : Hid (_ = D) := hD
  clear CT' hX hD hG h7 h8 hM
  have HB0 : Hid (Below w.heap.size w (w.alloc (.cells #[.int .i64 1, .int .i64 F, .int .i64 C, .int .i64 S, .string H, .int .i64 k0, .int .i64 k1, .int .i64 k2, .int .i64 k3, .int .i64 k4, .int .i64 k5, .int .i64 k6, .string s7, .string s8, .int .i64 q, .slice a n c] 35))) := below_new _ _
  have HK0 : Hid (Blk (w.alloc (.cells #[.int .i64 1, .int .i64 F, .int .i64 C, .int .i64 S, .string H, .int .i64 k0, .int .i64 k1, .int .i64 k2, .int .i64 k3, .int .i64 k4, .int .i64 k5, .int .i64 k6, .string s7, .string s8, .int .i64 q, .slice a n c] 35)) 35 w.heap.size #[.int .i64 1, .int .i64 F, .int .i64 C, .int .i64 S, .string H, .int .i64 k0, .int .i64 k1, .int .i64 k2, .int .i64 k3, .int .i64 k4, .int .i64 k5, .int .i64 k6, .string s7, .string s8, .int .i64 q, .slice a n c]) := Blk.new _ _ _
  cases X with
  | false =>
    obtain rfl : false = D := by have h := HD.out; simpa using h
    rw [if_neg (by simp)] at CT
    go_enter Tryd.func36, Tryd.ntmps36
    go_wp2_with fail
    obtain ⟨w0, hw0⟩ : ∃ w0, w.alloc (.cells #[.int .i64 1, .int .i64 F, .int .i64 C, .int .i64 S, .string H, .int .i64 k0, .int .i64 k1, .int .i64 k2, .int .i64 k3, .int .i64 k4, .int .i64 k5, .int .i64 k6, .string s7, .string s8, .int .i64 q, .slice a n c] 35) = w0 := ⟨_, rfl⟩
    obtain ⟨h0, hh0⟩ : ∃ h0, w.heap.size = h0 := ⟨_, rfl⟩
    rw [hw0] at HB0 HK0
    rw [hh0] at HK0
    try rw [hw0]
    try rw [hh0]
    clear hw0 hh0
    refine (CT.out w0 HB0.out).mono ?_
    rintro e w1 ⟨rfl, hb1⟩
    have HB1 : Hid (Below w.heap.size w w1) := below_step HB0.out (Nat.le_refl _) hb1
    have hK1 : Blk w1 35 h0 #[.int .i64 1, .int .i64 F, .int .i64 C, .int .i64 S, .string H, .int .i64 k0, .int .i64 k1, .int .i64 k2, .int .i64 k3, .int .i64 k4, .int .i64 k5, .int .i64 k6, .string s7, .string s8, .int .i64 q, .slice a n c] := HK0.out.on hb1
    have d1 : w1.cell? ⟨h0, 1, none⟩ = some (.int .i64 F) := hK1.cell 1
    have d7 : w1.cell? ⟨h0, 7, none⟩ = some (.int .i64 k2) := hK1.cell 7
    have d14 : w1.cell? ⟨h0, 14, none⟩ = some (.int .i64 q) := hK1.cell 14
    have d15 : w1.cell? ⟨h0, 15, none⟩ = some (.slice a n c) := hK1.cell 15
    clear hb1 hK1 HB0 HK0 CT
    go_wp2_with fail
    go_ret
    exact ⟨rfl, HB1.out⟩
  | true =>
    rw [if_pos rfl] at CT
    by_cases h1 : k2 = F
    · have t1 : (k2 == F) = true := by simp [h1]
      by_cases h2 : q = 0
      · have t2 : (q == 0) = true := by simp [h2]
        by_cases h3 : n = 0
        · have t3 : ((n : Int) == 0) = true := by simp [h3]
          obtain rfl : true = D := by have h := HD.out; simpa [h1, h2, h3] using h
          clear h1 h2 h3
          go_enter Tryd.func36, Tryd.ntmps36
          go_wp2_with fail
          obtain ⟨w0, hw0⟩ : ∃ w0, w.alloc (.cells #[.int .i64 1, .int .i64 F, .int .i64 C, .int .i64 S, .string H, .int .i64 k0, .int .i64 k1, .int .i64 k2, .int .i64 k3, .int .i64 k4, .int .i64 k5, .int .i64 k6, .string s7, .string s8, .int .i64 q, .slice a n c] 35) = w0 := ⟨_, rfl⟩
          obtain ⟨h0, hh0⟩ : ∃ h0, w.heap.size = h0 := ⟨_, rfl⟩
          rw [hw0] at HB0 HK0
          rw [hh0] at HK0
          try rw [hw0]
          try rw [hh0]
          clear hw0 hh0
          refine (CT.out w0 HB0.out).mono ?_
          rintro e w1 ⟨rfl, hb1⟩
          have HB1 : Hid (Below w.heap.size w w1) := below_step HB0.out (Nat.le_refl _) hb1
          have hK1 : Blk w1 35 h0 #[.int .i64 1, .int .i64 F, .int .i64 C, .int .i64 S, .string H, .int .i64 k0, .int .i64 k1, .int .i64 k2, .int .i64 k3, .int .i64 k4, .int .i64 k5, .int .i64 k6, .string s7, .string s8, .int .i64 q, .slice a n c] := HK0.out.on hb1
          have d1 : w1.cell? ⟨h0, 1, none⟩ = some (.int .i64 F) := hK1.cell 1
          have d7 : w1.cell? ⟨h0, 7, none⟩ = some (.int .i64 k2) := hK1.cell 7
          have d14 : w1.cell? ⟨h0, 14, none⟩ = some (.int .i64 q) := hK1.cell 14
          have d15 : w1.cell? ⟨h0, 15, none⟩ = some (.slice a n c) := hK1.cell 15
          clear hb1 hK1 HB0 HK0 CT
          go_wp2_with fail
          go_ret
          exact ⟨rfl, HB1.out⟩
        · have t3 : ((n : Int) == 0) = false := by simp [h3]
          obtain rfl : false = D := by have h := HD.out; simpa [h1, h2, h3] using h
          clear h1 h2
          go_enter Tryd.func36, Tryd.ntmps36
          go_wp2_with fail
          obtain ⟨w0, hw0⟩ : ∃ w0, w.alloc (.cells #[.int .i64 1, .int .i64 F, .int .i64 C, .int .i64 S, .string H, .int .i64 k0, .int .i64 k1, .int .i64 k2, .int .i64 k3, .int .i64 k4, .int .i64 k5, .int .i64 k6, .string s7, .string s8, .int .i64 q, .slice a n c] 35) = w0 := ⟨_, rfl⟩
          obtain ⟨h0, hh0⟩ : ∃ h0, w.heap.size = h0 := ⟨_, rfl⟩
          rw [hw0] at HB0 HK0
          rw [hh0] at HK0
          try rw [hw0]
          try rw [hh0]
          clear hw0 hh0
          refine (CT.out w0 HB0.out).mono ?_
          rintro e w1 ⟨rfl, hb1⟩
          have HB1 : Hid (Below w.heap.size w w1) := below_step HB0.out (Nat.le_refl _) hb1
          have hK1 : Blk w1 35 h0 #[.int .i64 1, .int .i64 F, .int .i64 C, .int .i64 S, .string H, .int .i64 k0, .int .i64 k1, .int .i64 k2, .int .i64 k3, .int .i64 k4, .int .i64 k5, .int .i64 k6, .string s7, .string s8, .int .i64 q, .slice a n c] := HK0.out.on hb1
          have d1 : w1.cell? ⟨h0, 1, none⟩ = some (.int .i64 F) := hK1.cell 1
          have d7 : w1.cell? ⟨h0, 7, none⟩ = some (.int .i64 k2) := hK1.cell 7
          have d14 : w1.cell? ⟨h0, 14, none⟩ = some (.int .i64 q) := hK1.cell 14
          have d15 : w1.cell? ⟨h0, 15, none⟩ = some (.slice a n c) := hK1.cell 15
          clear hb1 hK1 HB0 HK0 CT
          go_wp2_with fail
          go_ret
          exact ⟨rfl, HB1.out⟩
      · have t2 : (q == 0) = false := by simp [h2]
        obtain rfl : false = D := by have h := HD.out; simpa [h1, h2] using h
        clear h1
        go_enter Tryd.func36, Tryd.ntmps36
        go_wp2_with fail
        obtain ⟨w0, hw0⟩ : ∃ w0, w.alloc (.cells #[.int .i64 1, .int .i64 F, .int .i64 C, .int .i64 S, .string H, .int .i64 k0, .int .i64 k1, .int .i64 k2, .int .i64 k3, .int .i64 k4, .int .i64 k5, .int .i64 k6, .string s7, .string s8, .int .i64 q, .slice a n c] 35) = w0 := ⟨_, rfl⟩
        obtain ⟨h0, hh0⟩ : ∃ h0, w.heap.size = h0 := ⟨_, rfl⟩
        rw [hw0] at HB0 HK0
        rw [hh0] at HK0
        try rw [hw0]
        try rw [hh0]
        clear hw0 hh0
        refine (CT.out w0 HB0.out).mono ?_
        rintro e w1 ⟨rfl, hb1⟩
        have HB1 : Hid (Below w.heap.size w w1) := below_step HB0.out (Nat.le_refl _) hb1
        have hK1 : Blk w1 35 h0 #[.int .i64 1, .int .i64 F, .int .i64 C, .int .i64 S, .string H, .int .i64 k0, .int .i64 k1, .int .i64 k2, .int .i64 k3, .int .i64 k4, .int .i64 k5, .int .i64 k6, .string s7, .string s8, .int .i64 q, .slice a n c] := HK0.out.on hb1
        have d1 : w1.cell? ⟨h0, 1, none⟩ = some (.int .i64 F) := hK1.cell 1
        have d7 : w1.cell? ⟨h0, 7, none⟩ = some (.int .i64 k2) := hK1.cell 7
        have d14 : w1.cell? ⟨h0, 14, none⟩ = some (.int .i64 q) := hK1.cell 14
        have d15 : w1.cell? ⟨h0, 15, none⟩ = some (.slice a n c) := hK1.cell 15
        clear hb1 hK1 HB0 HK0 CT
        go_wp2_with fail
        go_ret
        exact ⟨rfl, HB1.out⟩
    · have t1 : (k2 == F) = false := by simp [h1]
      obtain rfl : false = D := by have h := HD.out; simpa [h1] using h
      go_enter Tryd.func36, Tryd.ntmps36
      go_wp2_with fail
      obtain ⟨w0, hw0⟩ : ∃ w0, w.alloc (.cells #[.int .i64 1, .int .i64 F, .int .i64 C, .int .i64 S, .string H, .int .i64 k0, .int .i64 k1, .int .i64 k2, .int .i64 k3, .int .i64 k4, .int .i64 k5, .int .i64 k6, .string s7, .string s8, .int .i64 q, .slice a n c] 35) = w0 := ⟨_, rfl⟩
      obtain ⟨h0, hh0⟩ : ∃ h0, w.heap.size = h0 := ⟨_, rfl⟩
      rw [hw0] at HB0 HK0
      rw [hh0] at HK0
      try rw [hw0]
      try rw [hh0]
      clear hw0 hh0
      refine (CT.out w0 HB0.out).mono ?_
      rintro e w1 ⟨rfl, hb1⟩
      have HB1 : Hid (Below w.heap.size w w1) := below_step HB0.out (Nat.le_refl _) hb1
      have hK1 : Blk w1 35 h0 #[.int .i64 1, .int .i64 F, .int .i64 C, .int .i64 S, .string H, .int .i64 k0, .int .i64 k1, .int .i64 k2, .int .i64 k3, .int .i64 k4, .int .i64 k5, .int .i64 k6, .string s7, .string s8, .int .i64 q, .slice a n c] := HK0.out.on hb1
      have d1 : w1.cell? ⟨h0, 1, none⟩ = some (.int .i64 F) := hK1.cell 1
      have d7 : w1.cell? ⟨h0, 7, none⟩ = some (.int .i64 k2) := hK1.cell 7
      have d14 : w1.cell? ⟨h0, 14, none⟩ = some (.int .i64 q) := hK1.cell 14
      have d15 : w1.cell? ⟨h0, 15, none⟩ = some (.slice a n c) := hK1.cell 15
      clear hb1 hK1 HB0 HK0 CT
      go_wp2_with fail
      go_ret
      exact ⟨rfl, HB1.out⟩

set_option maxHeartbeats 4000000 in
theorem recOwn2 (F C S : Int) (H : ByteArray) (k0 k1 k2 k3 k4 k5 k6 : Int) (s7 s8 : ByteArray) (q : Int) (a : Option Addr) (n c : Nat) (w : World) (X Y D : Bool) (hX : decide ((k0, (k1, k2), (k3, k4), (k5, k6), s7, s8) = op0) = X) (hD : (X && decide (1 ≤ q ∧ q ≤ 6) && Y) = D)
    (CW' : ∀ W, Below w.heap.size w W → Calls Tryd.prog 43 #[.slice a n c] W fun e w' => e = .returned (.bool Y) ∧ Below W.heap.size W w') :
    Calls Tryd.prog 36 #[.agg #[.int .i64 2, .int .i64 F, .int .i64 C, .int .i64 S, .string H, .int .i64 k0, .int .i64 k1, .int .i64 k2, .int .i64 k3, .int .i64 k4, .int .i64 k5, .int .i64 k6, .string s7, .string s8, .int .i64 q, .slice a n c]] w fun e w' => e = .returned (.bool D) ∧ Below w.heap.size w w' := by
  have heq := opEq_is (k0, (k1, k2), (k3, k4), (k5, k6), s7, s8) op0 X hX
  simp only [opA, op0] at heq
  have CW : Hid (∀ W, Below w.heap.size w W → _) := CW'
  have HD : Hid (_ = D) := hD
  clear CW' hX hD
  have HB0 : Hid (Below w.heap.size w (w.alloc (.cells #[.int .i64 2, .int .i64 F, .int .i64 C, .int .i64 S, .string H, .int .i64 k0, .int .i64 k1, .int .i64 k2, .int .i64 k3, .int .i64 k4, .int .i64 k5, .int .i64 k6, .string s7, .string s8, .int .i64 0, .slice a n c] 35))) := below_new _ _
  by_cases h1 : 1 ≤ q ∧ q ≤ 6
  · have CQ := isWho_any q
    rw [decide_eq_true h1] at HD CQ
    cases X with
    | false =>
      obtain rfl : false = D := by have h := HD.out; simpa using h
      go_enter Tryd.func36, Tryd.ntmps36
      go_wp2_with fail
      refine (CQ _).mono ?_
      rintro e w1 ⟨rfl, rfl⟩
      go_wp2_with fail
      go_ret
      exact ⟨rfl, HB0.out⟩
    | true =>
      obtain rfl : Y = D := by have h := HD.out; simpa using h
      go_enter Tryd.func36, Tryd.ntmps36
      go_wp2_with fail
      refine (CQ _).mono ?_
      rintro e w1 ⟨rfl, rfl⟩
      go_wp2_with fail
      obtain ⟨w0, hw0⟩ : ∃ w0, w.alloc (.cells #[.int .i64 2, .int .i64 F, .int .i64 C, .int .i64 S, .string H, .int .i64 k0, .int .i64 k1, .int .i64 k2, .int .i64 k3, .int .i64 k4, .int .i64 k5, .int .i64 k6, .string s7, .string s8, .int .i64 0, .slice a n c] 35) = w0 := ⟨_, rfl⟩
      rw [hw0] at HB0
      try rw [hw0]
      clear hw0
      refine (CW.out w0 HB0.out).mono ?_
      rintro e w1 ⟨rfl, hb1⟩
      have hB1 := below_step HB0.out (Nat.le_refl _) hb1
      clear hb1
      go_wp2_with fail
      go_ret
      exact ⟨rfl, hB1⟩
  · have CQ := isWho_any q
    rw [decide_eq_false h1] at HD CQ
    obtain rfl : false = D := by have h := HD.out; simpa using h
    have HB : Hid (Below w.heap.size w (w.alloc (.cells #[.int .i64 2, .int .i64 F, .int .i64 C, .int .i64 S, .string H, .int .i64 k0, .int .i64 k1, .int .i64 k2, .int .i64 k3, .int .i64 k4, .int .i64 k5, .int .i64 k6, .string s7, .string s8, .int .i64 q, .slice a n c] 35))) := below_new _ _
    go_enter Tryd.func36, Tryd.ntmps36
    go_wp2_with fail
    refine (CQ _).mono ?_
    rintro e w1 ⟨rfl, rfl⟩
    go_wp2_with fail
    go_ret
    exact ⟨rfl, HB.out⟩

set_option maxHeartbeats 4000000 in
theorem recOwn3 (F C S : Int) (H : ByteArray) (k0 k1 k2 k3 k4 k5 k6 : Int) (s7 s8 : ByteArray) (q : Int) (a : Option Addr) (n c : Nat) (w : World) (X Y D : Bool) (hX : decide ((k0, (k1, k2), (k3, k4), (k5, k6), s7, s8) = op0) = X) (hD : (X && decide (1 ≤ q ∧ q ≤ 6) && Y) = D)
    (CW' : ∀ W, Below w.heap.size w W → Calls Tryd.prog 43 #[.slice a n c] W fun e w' => e = .returned (.bool Y) ∧ Below W.heap.size W w') :
    Calls Tryd.prog 36 #[.agg #[.int .i64 3, .int .i64 F, .int .i64 C, .int .i64 S, .string H, .int .i64 k0, .int .i64 k1, .int .i64 k2, .int .i64 k3, .int .i64 k4, .int .i64 k5, .int .i64 k6, .string s7, .string s8, .int .i64 q, .slice a n c]] w fun e w' => e = .returned (.bool D) ∧ Below w.heap.size w w' := by
  have heq := opEq_is (k0, (k1, k2), (k3, k4), (k5, k6), s7, s8) op0 X hX
  simp only [opA, op0] at heq
  have CW : Hid (∀ W, Below w.heap.size w W → _) := CW'
  have HD : Hid (_ = D) := hD
  clear CW' hX hD
  have HB0 : Hid (Below w.heap.size w (w.alloc (.cells #[.int .i64 3, .int .i64 F, .int .i64 C, .int .i64 S, .string H, .int .i64 k0, .int .i64 k1, .int .i64 k2, .int .i64 k3, .int .i64 k4, .int .i64 k5, .int .i64 k6, .string s7, .string s8, .int .i64 0, .slice a n c] 35))) := below_new _ _
  by_cases h1 : 1 ≤ q ∧ q ≤ 6
  · have CQ := isWho_any q
    rw [decide_eq_true h1] at HD CQ
    cases X with
    | false =>
      obtain rfl : false = D := by have h := HD.out; simpa using h
      go_enter Tryd.func36, Tryd.ntmps36
      go_wp2_with fail
      refine (CQ _).mono ?_
      rintro e w1 ⟨rfl, rfl⟩
      go_wp2_with fail
      go_ret
      exact ⟨rfl, HB0.out⟩
    | true =>
      obtain rfl : Y = D := by have h := HD.out; simpa using h
      go_enter Tryd.func36, Tryd.ntmps36
      go_wp2_with fail
      refine (CQ _).mono ?_
      rintro e w1 ⟨rfl, rfl⟩
      go_wp2_with fail
      obtain ⟨w0, hw0⟩ : ∃ w0, w.alloc (.cells #[.int .i64 3, .int .i64 F, .int .i64 C, .int .i64 S, .string H, .int .i64 k0, .int .i64 k1, .int .i64 k2, .int .i64 k3, .int .i64 k4, .int .i64 k5, .int .i64 k6, .string s7, .string s8, .int .i64 0, .slice a n c] 35) = w0 := ⟨_, rfl⟩
      rw [hw0] at HB0
      try rw [hw0]
      clear hw0
      refine (CW.out w0 HB0.out).mono ?_
      rintro e w1 ⟨rfl, hb1⟩
      have hB1 := below_step HB0.out (Nat.le_refl _) hb1
      clear hb1
      go_wp2_with fail
      go_ret
      exact ⟨rfl, hB1⟩
  · have CQ := isWho_any q
    rw [decide_eq_false h1] at HD CQ
    obtain rfl : false = D := by have h := HD.out; simpa using h
    have HB : Hid (Below w.heap.size w (w.alloc (.cells #[.int .i64 3, .int .i64 F, .int .i64 C, .int .i64 S, .string H, .int .i64 k0, .int .i64 k1, .int .i64 k2, .int .i64 k3, .int .i64 k4, .int .i64 k5, .int .i64 k6, .string s7, .string s8, .int .i64 q, .slice a n c] 35))) := below_new _ _
    go_enter Tryd.func36, Tryd.ntmps36
    go_wp2_with fail
    refine (CQ _).mono ?_
    rintro e w1 ⟨rfl, rfl⟩
    go_wp2_with fail
    go_ret
    exact ⟨rfl, HB.out⟩

set_option maxHeartbeats 4000000 in
theorem recOwn4 (F C S : Int) (H : ByteArray) (k0 k1 k2 k3 k4 k5 k6 : Int) (s7 s8 : ByteArray) (q : Int) (a : Option Addr) (n c : Nat) (w : World) (X Y D : Bool) (hX : decide ((k0, (k1, k2), (k3, k4), (k5, k6), s7, s8) = op0) = X) (hD : (X && decide (q = 0) && Y) = D)
    (CW' : ∀ W, Below w.heap.size w W → Calls Tryd.prog 43 #[.slice a n c] W fun e w' => e = .returned (.bool Y) ∧ Below W.heap.size W w') :
    Calls Tryd.prog 36 #[.agg #[.int .i64 4, .int .i64 F, .int .i64 C, .int .i64 S, .string H, .int .i64 k0, .int .i64 k1, .int .i64 k2, .int .i64 k3, .int .i64 k4, .int .i64 k5, .int .i64 k6, .string s7, .string s8, .int .i64 q, .slice a n c]] w fun e w' => e = .returned (.bool D) ∧ Below w.heap.size w w' := by
  have heq := opEq_is (k0, (k1, k2), (k3, k4), (k5, k6), s7, s8) op0 X hX
  simp only [opA, op0] at heq
  have CW : Hid (∀ W, Below w.heap.size w W → _) := CW'
  have HD : Hid (_ = D) := hD
  clear CW' hX hD
  have HB0 : Hid (Below w.heap.size w (w.alloc (.cells #[.int .i64 4, .int .i64 F, .int .i64 C, .int .i64 S, .string H, .int .i64 k0, .int .i64 k1, .int .i64 k2, .int .i64 k3, .int .i64 k4, .int .i64 k5, .int .i64 k6, .string s7, .string s8, .int .i64 q, .slice a n c] 35))) := below_new _ _
  cases X with
  | false =>
    obtain rfl : false = D := by have h := HD.out; simpa using h
    go_enter Tryd.func36, Tryd.ntmps36
    go_wp2_with fail
    go_ret
    exact ⟨rfl, HB0.out⟩
  | true =>
    by_cases h2 : q = 0
    · have t2 : (q == 0) = true := by simp [h2]
      obtain rfl : Y = D := by have h := HD.out; simpa [h2] using h
      clear h2
      go_enter Tryd.func36, Tryd.ntmps36
      go_wp2_with fail
      obtain ⟨w0, hw0⟩ : ∃ w0, w.alloc (.cells #[.int .i64 4, .int .i64 F, .int .i64 C, .int .i64 S, .string H, .int .i64 k0, .int .i64 k1, .int .i64 k2, .int .i64 k3, .int .i64 k4, .int .i64 k5, .int .i64 k6, .string s7, .string s8, .int .i64 q, .slice a n c] 35) = w0 := ⟨_, rfl⟩
      rw [hw0] at HB0
      try rw [hw0]
      clear hw0
      refine (CW.out w0 HB0.out).mono ?_
      rintro e w1 ⟨rfl, hb1⟩
      have hB1 := below_step HB0.out (Nat.le_refl _) hb1
      clear hb1
      go_wp2_with fail
      go_ret
      exact ⟨rfl, hB1⟩
    · have t2 : (q == 0) = false := by simp [h2]
      obtain rfl : false = D := by have h := HD.out; simpa [h2] using h
      go_enter Tryd.func36, Tryd.ntmps36
      go_wp2_with fail
      go_ret
      exact ⟨rfl, HB0.out⟩

set_option maxHeartbeats 4000000 in
theorem recOwn0 (K F C S : Int) (H : ByteArray) (k0 k1 k2 k3 k4 k5 k6 : Int) (s7 s8 : ByteArray) (q : Int) (a : Option Addr) (n c : Nat) (w : World) (h1 : ¬ K = 1) (h2 : ¬ K = 2) (h3 : ¬ K = 3) (h4 : ¬ K = 4) :
    Calls Tryd.prog 36 #[.agg #[.int .i64 K, .int .i64 F, .int .i64 C, .int .i64 S, .string H, .int .i64 k0, .int .i64 k1, .int .i64 k2, .int .i64 k3, .int .i64 k4, .int .i64 k5, .int .i64 k6, .string s7, .string s8, .int .i64 q, .slice a n c]] w fun e w' => e = .returned (.bool false) ∧ Below w.heap.size w w' := by
  have t1 : (K == 1) = false := by simp [h1]
  have t2 : (K == 2) = false := by simp [h2]
  have t3 : (K == 3) = false := by simp [h3]
  have t4 : (K == 4) = false := by simp [h4]
  have HB : Hid (Below w.heap.size w (w.alloc (.cells #[.int .i64 K, .int .i64 F, .int .i64 C, .int .i64 S, .string H, .int .i64 k0, .int .i64 k1, .int .i64 k2, .int .i64 k3, .int .i64 k4, .int .i64 k5, .int .i64 k6, .string s7, .string s8, .int .i64 q, .slice a n c] 35))) := below_new _ _
  go_enter Tryd.func36, Tryd.ntmps36
  go_wp2_with fail
  go_ret
  exact ⟨rfl, HB.out⟩

/-- recordHasItsOwn, of any record. -/
theorem recOwn_any (M : OpT → Bool) (hM : ∀ o, M o = true ↔ MayO o) (R : RecT) (a : Option Addr) (c : Nat) (w : World) (hG : Glob8 w) (h7 : R.2.2.2.2.2.1.2.2.2.2.1.size ≤ 1048576) (h8 : R.2.2.2.2.2.1.2.2.2.2.2.size ≤ 9223372036854775807) (hI : WrAt w a R.2.2.2.2.2.2.2.length R.2.2.2.2.2.2.2) (hz : ∀ i, (wrL R.2.2.2.2.2.2.2 i).2.size ≤ 9223372036854775807) (hn : R.2.2.2.2.2.2.2.length ≤ 9223372036854775807) :
    Calls Tryd.prog 36 #[.agg (recA R a c)] w fun e w' => e = .returned (.bool (ownRb M R.1 R.2.1 R.2.2.2.2.2.1 R.2.2.2.2.2.2.1 R.2.2.2.2.2.2.2)) ∧ Below w.heap.size w w' := by
  have CW : ∀ W, Below w.heap.size w W → _ := fun W hW => areWraps_any R.2.2.2.2.2.2.2 a R.2.2.2.2.2.2.2.length c W (mayWb R.2.2.2.2.2.2.2) (mayWb_iff _) (hI.below hW) hz hn
  obtain ⟨K, F, C, S, H, ⟨k0, ⟨k1, k2⟩, ⟨k3, k4⟩, ⟨k5, k6⟩, s7, s8⟩, q, l⟩ := R
  simp only [recA] at CW h7 h8 ⊢
  unfold ownRb
  by_cases h1 : K = 1
  · subst h1
    rw [if_pos rfl]
    exact recOwn1 M hM F C S H k0 k1 k2 k3 k4 k5 k6 s7 s8 q a l.length c w _ hG h7 h8 rfl
  · rw [if_neg h1]
    by_cases h2 : K = 2
    · subst h2
      rw [if_pos (.inl rfl)]
      exact recOwn2 F C S H k0 k1 k2 k3 k4 k5 k6 s7 s8 q a l.length c w _ _ _ rfl rfl CW
    · by_cases h3 : K = 3
      · subst h3
        rw [if_pos (.inr rfl)]
        exact recOwn3 F C S H k0 k1 k2 k3 k4 k5 k6 s7 s8 q a l.length c w _ _ _ rfl rfl CW
      · rw [if_neg (by omega)]
        by_cases h4 : K = 4
        · subst h4
          rw [if_pos rfl]
          exact recOwn4 F C S H k0 k1 k2 k3 k4 k5 k6 s7 s8 q a l.length c w _ _ _ rfl rfl CW
        · rw [if_neg h4]
          exact recOwn0 K F C S H k0 k1 k2 k3 k4 k5 k6 s7 s8 q a l.length c w h1 h2 h3 h4

set_option maxHeartbeats 4000000 in
/-- The code's Check, of any record. -/
theorem checkR_any (M : OpT → Bool) (hM : ∀ o, M o = true ↔ MayO o) (R : RecT) (a : Option Addr) (c : Nat) (w : World) (hG : Glob8 w) (h7 : R.2.2.2.2.2.1.2.2.2.2.1.size ≤ 1048576) (h8 : R.2.2.2.2.2.1.2.2.2.2.2.size ≤ 9223372036854775807) (hI : WrAt w a R.2.2.2.2.2.2.2.length R.2.2.2.2.2.2.2) (hz : ∀ i, (wrL R.2.2.2.2.2.2.2 i).2.size ≤ 9223372036854775807) (hn : R.2.2.2.2.2.2.2.length ≤ 9223372036854775807) (hH : R.2.2.2.2.1.size ≤ 9223372036854775807) :
    Calls Tryd.prog 16 #[.agg (recA R a c)] w fun e w' => e = .returned (.int .i64 (if mayRb M R = true then 0 else 1)) ∧ Below w.heap.size w w' := by
  have CO' : ∀ W, Below w.heap.size w W → _ := fun W hW => recOwn_any M hM R a c W (hG.below hW) h7 h8 (hI.below hW) hz hn
  unfold mayRb
  obtain ⟨K, F, C, S, H, ⟨k0, ⟨k1, k2⟩, ⟨k3, k4⟩, ⟨k5, k6⟩, s7, s8⟩, q, l⟩ := R
  simp only [recA] at CO' hH ⊢
  obtain ⟨X, hX⟩ : ∃ X : Bool, ownRb M K F (k0, (k1, k2), (k3, k4), (k5, k6), s7, s8) q l = X := ⟨_, rfl⟩
  simp only [hX] at CO' ⊢
  obtain ⟨n, hnn⟩ : ∃ n, l.length = n := ⟨_, rfl⟩
  simp only [hnn] at CO' ⊢
  have CO : Hid (∀ W, Below w.heap.size w W → _) := CO'
  clear CO' hX hnn hG h7 h8 hI hz hn hM
  have CF := isWho_any F
  have CC := isNum_any C
  have CS := isNum_any S
  obtain ⟨Y, hY⟩ : ∃ Y : Int, (if (((decide (1 ≤ F ∧ F ≤ 6) && decide (1 ≤ C) && decide (0 ≤ C ∧ C ≤ 1099511627775) && decide (0 ≤ S ∧ S ≤ 1099511627775) && decide (H.size = 32)) && X) = true) then (0 : Int) else 1) = Y := ⟨_, rfl⟩
  rw [hY]
  have HY : Hid (_ = Y) := hY
  clear hY
  have HB0 : Hid (Below w.heap.size w (w.alloc (.cells #[.int .i64 K, .int .i64 F, .int .i64 C, .int .i64 S, .string H, .int .i64 k0, .int .i64 k1, .int .i64 k2, .int .i64 k3, .int .i64 k4, .int .i64 k5, .int .i64 k6, .string s7, .string s8, .int .i64 q, .slice a n c] 35))) := below_new _ _
  by_cases h1 : 1 ≤ F ∧ F ≤ 6
  · rw [decide_eq_true h1] at HY CF
    clear h1
    by_cases h2 : 1 ≤ C
    · rw [decide_eq_true h2] at HY
      by_cases h3 : 0 ≤ C ∧ C ≤ 1099511627775
      · rw [decide_eq_true h3] at HY CC
        clear h3
        by_cases h4 : 0 ≤ S ∧ S ≤ 1099511627775
        · rw [decide_eq_true h4] at HY CS
          clear h4
          by_cases h5 : H.size = 32
          · rw [decide_eq_true h5] at HY
            have t5 : ((H.size : Int) == 32) = true := by rw [beq_iff_eq]; omega
            have t6 : (H.size : Int) = 32 := by omega
            clear h5
            go_enter Tryd.func16, Tryd.ntmps16
            go_wp2_with fail
            refine (CF _).mono ?_
            rintro e w1 ⟨rfl, rfl⟩
            go_wp2_with fail
            refine (CC _).mono ?_
            rintro e w1 ⟨rfl, rfl⟩
            go_wp2_with fail
            refine (CS _).mono ?_
            rintro e w1 ⟨rfl, rfl⟩
            go_wp2_with fail
            obtain ⟨w0, hw0⟩ : ∃ w0, w.alloc (.cells #[.int .i64 K, .int .i64 F, .int .i64 C, .int .i64 S, .string H, .int .i64 k0, .int .i64 k1, .int .i64 k2, .int .i64 k3, .int .i64 k4, .int .i64 k5, .int .i64 k6, .string s7, .string s8, .int .i64 q, .slice a n c] 35) = w0 := ⟨_, rfl⟩
            rw [hw0] at HB0
            try rw [hw0]
            clear hw0
            refine (CO.out w0 HB0.out).mono ?_
            rintro e w1 ⟨rfl, hb1⟩
            have hB1 := below_step HB0.out (Nat.le_refl _) hb1
            clear hb1
            cases X with
            | false =>
              obtain rfl : (1 : Int) = Y := by have h := HY.out; simpa using h
              go_wp2_with fail
              go_ret
              exact ⟨rfl, hB1⟩
            | true =>
              obtain rfl : (0 : Int) = Y := by have h := HY.out; simpa using h
              go_wp2_with fail
              go_ret
              exact ⟨rfl, hB1⟩
          · rw [decide_eq_false h5] at HY
            have t5 : ((H.size : Int) == 32) = false := by rw [beq_eq_false_iff_ne]; omega
            have t6 : ¬ ((H.size : Int) = 32) := by omega
            obtain rfl : (1 : Int) = Y := by have h := HY.out; simpa using h
            go_enter Tryd.func16, Tryd.ntmps16
            go_wp2_with fail
            refine (CF _).mono ?_
            rintro e w1 ⟨rfl, rfl⟩
            go_wp2_with fail
            refine (CC _).mono ?_
            rintro e w1 ⟨rfl, rfl⟩
            go_wp2_with fail
            refine (CS _).mono ?_
            rintro e w1 ⟨rfl, rfl⟩
            go_wp2_with fail
            go_ret
            exact ⟨rfl, HB0.out⟩
        · rw [decide_eq_false h4] at HY CS
          clear h4
          obtain rfl : (1 : Int) = Y := by have h := HY.out; simpa using h
          go_enter Tryd.func16, Tryd.ntmps16
          go_wp2_with fail
          refine (CF _).mono ?_
          rintro e w1 ⟨rfl, rfl⟩
          go_wp2_with fail
          refine (CC _).mono ?_
          rintro e w1 ⟨rfl, rfl⟩
          go_wp2_with fail
          refine (CS _).mono ?_
          rintro e w1 ⟨rfl, rfl⟩
          go_wp2_with fail
          go_ret
          exact ⟨rfl, HB0.out⟩
      · rw [decide_eq_false h3] at HY CC
        clear h3
        obtain rfl : (1 : Int) = Y := by have h := HY.out; simpa using h
        go_enter Tryd.func16, Tryd.ntmps16
        go_wp2_with fail
        refine (CF _).mono ?_
        rintro e w1 ⟨rfl, rfl⟩
        go_wp2_with fail
        refine (CC _).mono ?_
        rintro e w1 ⟨rfl, rfl⟩
        go_wp2_with fail
        go_ret
        exact ⟨rfl, HB0.out⟩
    · rw [decide_eq_false h2] at HY
      obtain rfl : (1 : Int) = Y := by have h := HY.out; simpa using h
      go_enter Tryd.func16, Tryd.ntmps16
      go_wp2_with fail
      refine (CF _).mono ?_
      rintro e w1 ⟨rfl, rfl⟩
      go_wp2_with fail
      go_ret
      exact ⟨rfl, HB0.out⟩
  · rw [decide_eq_false h1] at HY CF
    clear h1
    obtain rfl : (1 : Int) = Y := by have h := HY.out; simpa using h
    go_enter Tryd.func16, Tryd.ntmps16
    go_wp2_with fail
    refine (CF _).mono ?_
    rintro e w1 ⟨rfl, rfl⟩
    go_wp2_with fail
    go_ret
    exact ⟨rfl, HB0.out⟩

end Go.Proofs.YtkmdajenbidaaaaDoor
