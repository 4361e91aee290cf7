/- Layer 19, the document's: SameRecord, LightRecord. -/
import Derived.Test.YtkmdajenbidaaaaDoorWiT
import Derived.Test.YtkmdajenbidaaaaDoorRWiC
import Derived.Test.YtkmdajenbidaaaaDoorRT
import Derived.BigQuiet
namespace Go.Proofs.YtkmdajenbidaaaaDoor
open Go.RowKit
set_option maxRecDepth 100000
set_option linter.unusedSimpArgs false
set_option linter.unusedVariables false
set_option maxRecDepth 100000

def wrpA (x : Int × ByteArray) : Array Value := #[.int .i64 x.1, .string x.2]
set_option maxHeartbeats 1000000 in
theorem wrapEq (x y : Int × ByteArray) (w : World) : (Op.equalIn 10000 47 (.agg (wrpA x)) (.agg (wrpA y))).run Tryd.prog w = .ok (decide (x = y)) w := by
  obtain ⟨a, s⟩ := x
  obtain ⟨a', s'⟩ := y
  have u3 := Tryd.underlying3
  have a3 := Tryd.isAgg3
  have z3 := Tryd.sizeOf3
  have u9 := Tryd.underlying9
  have a9 := Tryd.isAgg9
  have z9 := Tryd.sizeOf9
  unfold wrpA
  rw [show (10000 : Nat) = 9999 + 1 from rfl, Op.equalIn]
  simp only [Sem.run_bind, run_underlying Tryd.underlying47, Result.andThen_ok]
  go_simp
  simp only [txt_iff, ite_ok, Bool.and_true, Bool.and_assoc]
theorem wrapEq_is (x y : Int × ByteArray) (D : Bool) (h : decide (x = y) = D) (w : World) : (Op.equalIn 10000 47 (.agg (wrpA x)) (.agg (wrpA y))).run Tryd.prog w = .ok D w := by
  rw [wrapEq, ← h]

/-- Both records as the call has them. -/
structure SmR (w W : World) (A B : Array Value) : Prop where
  a : Blk W 35 w.heap.size A
  b : Blk W 35 (w.heap.size + 1) B
  w : Below w.heap.size w W
theorem SmR.on {w W W' : World} {A B : Array Value} (h : SmR w W A B) (hb : Below W.heap.size W W') : SmR w W' A B := ⟨h.a.on hb, h.b.on hb, below_step h.w (Nat.le_refl _) hb⟩
theorem SmR.new (w : World) (A B : Array Value) : SmR w ((w.alloc (.cells A 35)).alloc (.cells B 35)) A B := ⟨(Blk.new w _ _).alloc _, Blk.new' _ _ _ _ (by simp), (below_new w _).alloc (by simp) _⟩

/-- Has a record few bytes? -/
def LightR (H : ByteArray) (o : OpT) (l : List (Int × ByteArray)) : Prop := (∀ i, i < l.length → i < 9 → (wrL l i).2.size ≤ 200) ∧ LightO o ∧ H.size ≤ 200 ∧ l.length ≤ 8

set_option maxHeartbeats 4000000 in
theorem rlightR_any (R : RecT) (a : Option Addr) (c : Nat) (w : World) (D : Bool) (hD : D = true ↔ LightR R.2.2.2.2.1 R.2.2.2.2.2.1 R.2.2.2.2.2.2.2) (hI : WrAt w a R.2.2.2.2.2.2.2.length R.2.2.2.2.2.2.2) (hl : R.2.2.2.2.2.2.2.length ≤ c) (hc : c ≤ 9223372036854775807) (hz : ∀ i, (wrL R.2.2.2.2.2.2.2 i).2.size ≤ 9223372036854775807) (hH : R.2.2.2.2.1.size ≤ 9223372036854775807) (h7 : R.2.2.2.2.2.1.2.2.2.2.1.size ≤ maxLen) (h8 : R.2.2.2.2.2.1.2.2.2.2.2.size ≤ maxLen) :
    Calls Tryd.prog 5 #[.agg (recA R a c)] w fun e w' => e = .returned (.bool D) ∧ Below w.heap.size w w' := by
  obtain ⟨X, hX⟩ : ∃ X : Bool, X = true ↔ LightO R.2.2.2.2.2.1 := by
    by_cases h : LightO R.2.2.2.2.2.1
    · exact ⟨true, ⟨fun _ => h, fun _ => rfl⟩⟩
    · exact ⟨false, ⟨fun e => (by cases e), fun e => absurd e h⟩⟩
  have CO' : ∀ W, _ := fun W => rlight_any R.2.2.2.2.2.1 X hX W h7 h8
  obtain ⟨K1, F1, C1, S1, H, ⟨k0, ⟨k1, k2⟩, ⟨k3, k4⟩, ⟨k5, k6⟩, s7, s8⟩, q1, l⟩ := R
  simp only [recA, opA] at hI hl hz hH hD hX CO' ⊢
  have HX : Hid (X = true ↔ LightO (k0, (k1, k2), (k3, k4), (k5, k6), s7, s8)) := hX
  have HD : Hid (D = true ↔ LightR H (k0, (k1, k2), (k3, k4), (k5, k6), s7, s8) l) := hD
  have CO : Hid (∀ W, _) := CO'
  clear hD hX CO' h7 h8
  obtain ⟨n, hn⟩ : ∃ n, l.length = n := ⟨_, rfl⟩
  rw [hn] at hI hl
  have HL : Hid (l.length = n) := hn
  have HZ : Hid (∀ i, (wrL l i).2.size ≤ 9223372036854775807) := hz
  obtain ⟨w0, hw0⟩ : ∃ w0, w.alloc (.cells #[.int .i64 K1, .int .i64 F1, .int .i64 C1, .int .i64 S1, .string H, .int .i64 k0, .int .i64 k1, .int .i64 k2, .int .i64 k3, .int .i64 k4, .int .i64 k5, .int .i64 k6, .string s7, .string s8, .int .i64 q1, .slice a n c] 35) = w0 := ⟨_, rfl⟩
  have HB0 : Hid (Below w.heap.size w w0) := by rw [← hw0]; exact below_new w _
  have HF0 : Hid (Blk w0 35 w.heap.size #[.int .i64 K1, .int .i64 F1, .int .i64 C1, .int .i64 S1, .string H, .int .i64 k0, .int .i64 k1, .int .i64 k2, .int .i64 k3, .int .i64 k4, .int .i64 k5, .int .i64 k6, .string s7, .string s8, .int .i64 q1, .slice a n c]) := by rw [← hw0]; exact Blk.new _ _ _
  have HI : Hid (WrAt w0 a n l) := hI.below HB0.out
  rw [hn]
  clear hI hn hz
  have HW0 : Hid (w.alloc (.cells #[.int .i64 K1, .int .i64 F1, .int .i64 C1, .int .i64 S1, .string H, .int .i64 k0, .int .i64 k1, .int .i64 k2, .int .i64 k3, .int .i64 k4, .int .i64 k5, .int .i64 k6, .string s7, .string s8, .int .i64 q1, .slice a n c] 35) = w0) := hw0
  clear hw0
  go_enter Tryd.func5, Tryd.ntmps5
  go_wp2_with fail
  rw [HW0.out]
  have c5 : w0.cell? ⟨w.heap.size, 5, none⟩ = some (.int .i64 k0) := HF0.out.cell 5
  have c6 : w0.cell? ⟨w.heap.size, 6, none⟩ = some (.int .i64 k1) := HF0.out.cell 6
  have c7 : w0.cell? ⟨w.heap.size, 7, none⟩ = some (.int .i64 k2) := HF0.out.cell 7
  have c8 : w0.cell? ⟨w.heap.size, 8, none⟩ = some (.int .i64 k3) := HF0.out.cell 8
  have c9 : w0.cell? ⟨w.heap.size, 9, none⟩ = some (.int .i64 k4) := HF0.out.cell 9
  have c10 : w0.cell? ⟨w.heap.size, 10, none⟩ = some (.int .i64 k5) := HF0.out.cell 10
  have c11 : w0.cell? ⟨w.heap.size, 11, none⟩ = some (.int .i64 k6) := HF0.out.cell 11
  have c12 : w0.cell? ⟨w.heap.size, 12, none⟩ = some (.string s7) := HF0.out.cell 12
  have c13 : w0.cell? ⟨w.heap.size, 13, none⟩ = some (.string s8) := HF0.out.cell 13
  have c15 : w0.cell? ⟨w.heap.size, 15, none⟩ = some (.slice a n c) := HF0.out.cell 15
  go_loopw [3] (fun v wr => ∃ k : Nat, k ≤ n ∧ k ≤ 9 ∧ v = .int .i64 k ∧ wr = w0 ∧ Hid (∀ i, i < k → (wrL l i).2.size ≤ 200)) (fun v _ => n - (intOf v).toNat)
  case atStart => exact ⟨0, Nat.zero_le _, Nat.zero_le _, rfl, rfl, fun i h => absurd h (Nat.not_lt_zero _)⟩
  case round =>
    obtain ⟨k, hk, hk4, rfl, rfl, HK⟩ := hrel
    by_cases hlt : k < n ∧ k < 9
    · obtain ⟨hlt, hlt4⟩ := hlt
      have d0 : (k : Int) < (n : Int) := by omega
      have d1 : (k : Int) < 9 := by omega
      obtain ⟨lb, off, rfl, hcl⟩ := HI.out.2.resolve_left (by omega)
      have k2 := (hcl k hlt).2
      have hz1 := HZ.out k
      obtain ⟨t, ht⟩ : ∃ t, (wrL l k).2 = t := ⟨_, rfl⟩
      rw [ht] at k2 hz1
      have Ht : Hid ((wrL l k).2 = t) := ht
      clear hcl ht
      by_cases h2 : 200 < t.size
      · have s0 : (200 : Int) < (t.size : Int) := by omega
        obtain rfl : D = false := Bool.eq_false_iff.2 (fun e => by
          have h3 := (HD.out.1 e).1 k (by rw [HL.out]; exact hlt) hlt4
          rw [Ht.out] at h3
          omega)
        go_wp2_with fail
        go_ret
        exact ⟨rfl, HB0.out⟩
      · have s0 : ¬ ((200 : Int) < (t.size : Int)) := by omega
        go_wp2_with fail
        refine ⟨⟨k + 1, by omega, by omega, by go_num, trivial, fun i hi => ?_⟩, ?_⟩
        · by_cases e : i = k
          · rw [e, Ht.out]; omega
          · exact HK.out i (by omega)
        · simp [intOf]; omega
    · have HE : Hid (∀ i, i < n → i < 9 → (wrL l i).2.size ≤ 200) := fun i h1 h2 => HK.out i (by omega)
      have HQ : Hid (D = true ↔ (X = true ∧ H.size ≤ 200 ∧ n ≤ 8)) := by
        show _ ↔ _
        refine HD.out.trans ⟨fun h => ⟨HX.out.2 h.2.1, h.2.2.1, by have := h.2.2.2; rw [HL.out] at this; exact this⟩, fun h => ⟨fun i h1 h2 => HE.out i (by rw [← HL.out]; exact h1) h2, HX.out.1 h.1, h.2.1, by rw [HL.out]; exact h.2.2⟩⟩
      have dd : (k < n ∧ ¬ (k < 9)) ∨ ¬ (k < n) := by omega
      clear HK HE HD HX
      cases X with
      | false =>
        obtain rfl : D = false := Bool.eq_false_iff.2 (fun e => by have := (HQ.out.1 e).1; cases this)
        rcases dd with ⟨d0', d1'⟩ | d0'
        · have d0 : (k : Int) < (n : Int) := by omega
          have d1 : ¬ ((k : Int) < 9) := by omega
          go_wp2_with fail
          refine (CO.out _).mono ?_
          rintro e w2 ⟨rfl, hb2⟩
          have HF2 : Blk w2 35 w.heap.size #[.int .i64 K1, .int .i64 F1, .int .i64 C1, .int .i64 S1, .string H, .int .i64 k0, .int .i64 k1, .int .i64 k2, .int .i64 k3, .int .i64 k4, .int .i64 k5, .int .i64 k6, .string s7, .string s8, .int .i64 q1, .slice a n c] := HF0.out.on hb2
          have e4 : w2.cell? ⟨w.heap.size, 4, none⟩ = some (.string H) := HF2.cell 4
          have e15 : w2.cell? ⟨w.heap.size, 15, none⟩ = some (.slice a n c) := HF2.cell 15
          have HB2 : Hid (Below w.heap.size w w2) := below_step HB0.out (Nat.le_refl _) hb2
          clear HF2 hb2
          go_wp2_with fail
          go_ret
          exact ⟨rfl, HB2.out⟩
        · have d0 : ¬ ((k : Int) < (n : Int)) := by omega
          go_wp2_with fail
          refine (CO.out _).mono ?_
          rintro e w2 ⟨rfl, hb2⟩
          have HF2 : Blk w2 35 w.heap.size #[.int .i64 K1, .int .i64 F1, .int .i64 C1, .int .i64 S1, .string H, .int .i64 k0, .int .i64 k1, .int .i64 k2, .int .i64 k3, .int .i64 k4, .int .i64 k5, .int .i64 k6, .string s7, .string s8, .int .i64 q1, .slice a n c] := HF0.out.on hb2
          have e4 : w2.cell? ⟨w.heap.size, 4, none⟩ = some (.string H) := HF2.cell 4
          have e15 : w2.cell? ⟨w.heap.size, 15, none⟩ = some (.slice a n c) := HF2.cell 15
          have HB2 : Hid (Below w.heap.size w w2) := below_step HB0.out (Nat.le_refl _) hb2
          clear HF2 hb2
          go_wp2_with fail
          go_ret
          exact ⟨rfl, HB2.out⟩
      | true =>
        by_cases h3 : H.size ≤ 200
        · have s3 : (H.size : Int) ≤ 200 := by omega
          by_cases h4 : n ≤ 8
          · have s4 : (n : Int) ≤ 8 := by omega
            obtain rfl : D = true := HQ.out.2 ⟨rfl, h3, h4⟩
            have d0 : ¬ ((k : Int) < (n : Int)) := by omega
            go_wp2_with fail
            refine (CO.out _).mono ?_
            rintro e w2 ⟨rfl, hb2⟩
            have HF2 : Blk w2 35 w.heap.size #[.int .i64 K1, .int .i64 F1, .int .i64 C1, .int .i64 S1, .string H, .int .i64 k0, .int .i64 k1, .int .i64 k2, .int .i64 k3, .int .i64 k4, .int .i64 k5, .int .i64 k6, .string s7, .string s8, .int .i64 q1, .slice a n c] := HF0.out.on hb2
            have e4 : w2.cell? ⟨w.heap.size, 4, none⟩ = some (.string H) := HF2.cell 4
            have e15 : w2.cell? ⟨w.heap.size, 15, none⟩ = some (.slice a n c) := HF2.cell 15
            have HB2 : Hid (Below w.heap.size w w2) := below_step HB0.out (Nat.le_refl _) hb2
            clear HF2 hb2
            go_wp2_with fail
            go_ret
            exact ⟨rfl, HB2.out⟩
          · have s4 : decide ((n : Int) ≤ 8) = false := decide_eq_false (by omega)
            obtain rfl : D = false := Bool.eq_false_iff.2 (fun e => h4 (HQ.out.1 e).2.2)
            rcases dd with ⟨d0', d1'⟩ | d0'
            · have d0 : (k : Int) < (n : Int) := by omega
              have d1 : ¬ ((k : Int) < 9) := by omega
              go_wp2_with fail
              refine (CO.out _).mono ?_
              rintro e w2 ⟨rfl, hb2⟩
              have HF2 : Blk w2 35 w.heap.size #[.int .i64 K1, .int .i64 F1, .int .i64 C1, .int .i64 S1, .string H, .int .i64 k0, .int .i64 k1, .int .i64 k2, .int .i64 k3, .int .i64 k4, .int .i64 k5, .int .i64 k6, .string s7, .string s8, .int .i64 q1, .slice a n c] := HF0.out.on hb2
              have e4 : w2.cell? ⟨w.heap.size, 4, none⟩ = some (.string H) := HF2.cell 4
              have e15 : w2.cell? ⟨w.heap.size, 15, none⟩ = some (.slice a n c) := HF2.cell 15
              have HB2 : Hid (Below w.heap.size w w2) := below_step HB0.out (Nat.le_refl _) hb2
              clear HF2 hb2
              go_wp2_with fail
              go_ret
              exact ⟨rfl, HB2.out⟩
            · have d0 : ¬ ((k : Int) < (n : Int)) := by omega
              go_wp2_with fail
              refine (CO.out _).mono ?_
              rintro e w2 ⟨rfl, hb2⟩
              have HF2 : Blk w2 35 w.heap.size #[.int .i64 K1, .int .i64 F1, .int .i64 C1, .int .i64 S1, .string H, .int .i64 k0, .int .i64 k1, .int .i64 k2, .int .i64 k3, .int .i64 k4, .int .i64 k5, .int .i64 k6, .string s7, .string s8, .int .i64 q1, .slice a n c] := HF0.out.on hb2
              have e4 : w2.cell? ⟨w.heap.size, 4, none⟩ = some (.string H) := HF2.cell 4
              have e15 : w2.cell? ⟨w.heap.size, 15, none⟩ = some (.slice a n c) := HF2.cell 15
              have HB2 : Hid (Below w.heap.size w w2) := below_step HB0.out (Nat.le_refl _) hb2
              clear HF2 hb2
              go_wp2_with fail
              go_ret
              exact ⟨rfl, HB2.out⟩
        · have s3 : ¬ ((H.size : Int) ≤ 200) := by omega
          obtain rfl : D = false := Bool.eq_false_iff.2 (fun e => h3 (HQ.out.1 e).2.1)
          rcases dd with ⟨d0', d1'⟩ | d0'
          · have d0 : (k : Int) < (n : Int) := by omega
            have d1 : ¬ ((k : Int) < 9) := by omega
            go_wp2_with fail
            refine (CO.out _).mono ?_
            rintro e w2 ⟨rfl, hb2⟩
            have HF2 : Blk w2 35 w.heap.size #[.int .i64 K1, .int .i64 F1, .int .i64 C1, .int .i64 S1, .string H, .int .i64 k0, .int .i64 k1, .int .i64 k2, .int .i64 k3, .int .i64 k4, .int .i64 k5, .int .i64 k6, .string s7, .string s8, .int .i64 q1, .slice a n c] := HF0.out.on hb2
            have e4 : w2.cell? ⟨w.heap.size, 4, none⟩ = some (.string H) := HF2.cell 4
            have e15 : w2.cell? ⟨w.heap.size, 15, none⟩ = some (.slice a n c) := HF2.cell 15
            have HB2 : Hid (Below w.heap.size w w2) := below_step HB0.out (Nat.le_refl _) hb2
            clear HF2 hb2
            go_wp2_with fail
            go_ret
            exact ⟨rfl, HB2.out⟩
          · have d0 : ¬ ((k : Int) < (n : Int)) := by omega
            go_wp2_with fail
            refine (CO.out _).mono ?_
            rintro e w2 ⟨rfl, hb2⟩
            have HF2 : Blk w2 35 w.heap.size #[.int .i64 K1, .int .i64 F1, .int .i64 C1, .int .i64 S1, .string H, .int .i64 k0, .int .i64 k1, .int .i64 k2, .int .i64 k3, .int .i64 k4, .int .i64 k5, .int .i64 k6, .string s7, .string s8, .int .i64 q1, .slice a n c] := HF0.out.on hb2
            have e4 : w2.cell? ⟨w.heap.size, 4, none⟩ = some (.string H) := HF2.cell 4
            have e15 : w2.cell? ⟨w.heap.size, 15, none⟩ = some (.slice a n c) := HF2.cell 15
            have HB2 : Hid (Below w.heap.size w w2) := below_step HB0.out (Nat.le_refl _) hb2
            clear HF2 hb2
            go_wp2_with fail
            go_ret
            exact ⟨rfl, HB2.out⟩

end Go.Proofs.YtkmdajenbidaaaaDoor
