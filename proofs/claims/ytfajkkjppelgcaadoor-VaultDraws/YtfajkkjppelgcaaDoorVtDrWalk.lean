/- VaultDraws, walked. -/
import Derived.Test.YtfajkkjppelgcaaDoorVtG
namespace Go.Proofs.YtfajkkjppelgcaaDoor
open Go.RowKit
set_option maxRecDepth 100000
set_option linter.unusedSimpArgs false
set_option linter.unusedSectionVars false
variable [Inhabited TabZ]

theorem i64_and7 (n : Int) : bits .and .i64 n 7 = n % 8 := i64_mask n 3 (by decide) 7 (by decide)

theorem parts_more (S : ByteArray) (k : Nat) : partsV S 0 k ++ drawV S k 32 = partsV S 0 (k + 1) := by rw [drawV_one, partsV_succ, Nat.zero_add]
theorem parts_all (S : ByteArray) (n m : Nat) : partsV S 0 n ++ drawV S n m = drawV S 0 (32 * n + m) := by rw [drawV_parts, Nat.zero_add]

set_option maxHeartbeats 8000000 in
theorem vaultDraws_walk (S : ByteArray) (p q : Int) (w : World) (hh : Hsh w) :
    Calls Tryd.prog 4 #[.string S, .int .i64 p, .int .i64 q] w fun e w' => e = .returned (.bool true) ∧ Below w.heap.size w w' := by
  have HH : Hid (Hsh w) := hh
  clear hh
  by_cases hS : S.size ≤ 100
  · have g0 : ¬ ((100 : Int) < (S.size : Int)) := by omega
    obtain ⟨n, hn⟩ : ∃ n : Nat, (n : Int) = p % 8 := ⟨(p % 8).toNat, by omega⟩
    obtain ⟨m, hm⟩ : ∃ m : Nat, (m : Int) = q % 32 := ⟨(q % 32).toNat, by omega⟩
    have hn7 : n ≤ 7 := by omega
    have hm31 : m ≤ 31 := by omega
    have e7 : bits .and .i64 p 7 = (n : Int) := by rw [i64_and7, hn]
    have e31 : bits .and .i64 q 31 = (m : Int) := by rw [i64_and31, hm]
    clear hn hm
    go_enter Tryd.func4, Tryd.ntmps4
    go_wp2_with fail
    refine (videal_any S _).mono ?_
    rintro e w1 ⟨g, i, t, rfl, h1, l1, hb1⟩
    have X1 : Hid (SlrAt w1 g i t S 0 [] ∧ (w.heap.size ≤ g ∧ w.heap.size ≤ i ∧ w.heap.size ≤ t) ∧ Below w.heap.size w w1) := ⟨h1, l1, hb1⟩
    clear h1 hb1 l1
    go_wp2_with fail
    refine (videal_any S _).mono ?_
    rintro e w2 ⟨g2, i2, t2, rfl, h2, l2, hb2⟩
    have X2 : Hid (Two w w2 g i t g2 i2 t2 0 0 S [] []) := Two.made X1.out.1 X1.out.2.1 X1.out.2.2 h2 l2 hb2
    clear X1 h2 hb2 l2
    have C3 : Hid (Calls Tryd.prog 12 #[.pointer (some ⟨g, 0, none⟩), .int .i64 (32 * (n : Int) + (m : Int))] w2 fun e w' => e = .returned (.string (drawV S 0 (32 * n + m))) ∧ SlrAt w' g i t S (0 + upV (32 * n + m)) [] ∧ Kept2 i (some t) w2 w') := by
      rw [show 32 * (n : Int) + (m : Int) = ((32 * n + m : Nat) : Int) by omega]
      exact vdrawn_ideal g i t 0 (32 * n + m) S [] w2 (HH.out.below X2.out.bel) X2.out.one (by omega) (by omega) (by decide)
    obtain ⟨A, HA⟩ : ∃ A, Hid (A = drawV S 0 (32 * n + m)) := ⟨_, rfl⟩
    have hAs : A.size = 32 * n + m := by rw [HA.out]; exact drawV_size _ _ _
    have hAi : (A.size : Int) = 32 * (n : Int) + (m : Int) := by omega
    rw [← HA.out] at C3
    generalize 0 + upV (32 * n + m) = U at *
    go_wp2_with fail
    refine C3.out.mono ?_
    rintro e w3 ⟨rfl, h3, k3⟩
    have X3 : Hid (Two w w3 g i t g2 i2 t2 U 0 S [] []) := X2.out.first h3 k3
    clear X2 C3 h3 k3
    go_wp2_with fail
    go_loopw [12, 13] (fun v c wr => ∃ k : Nat, k ≤ n ∧ v = .string (partsV S 0 k) ∧ c = .int .i64 k ∧ Hid (Two w wr g i t g2 i2 t2 U k S [] [])) (fun _ c _ => n - (intOf c).toNat)
    case atStart => exact ⟨0, Nat.zero_le _, rfl, rfl, X3⟩
    case round =>
      obtain ⟨k, hk, rfl, rfl, XR⟩ := hrel
      have hps : (partsV S 0 k).size = 32 * k := partsV_size _ _ _
      by_cases hlt : k < n
      · have b0 : (k : Int) < (n : Int) := by omega
        have C : Hid (Calls Tryd.prog 12 #[.pointer (some ⟨g2, 0, none⟩), .int .i64 32] wr fun e w' => e = .returned (.string (drawV S k 32)) ∧ SlrAt w' g2 i2 t2 S (k + 1) [] ∧ Kept2 i2 (some t2) wr w') := vdrawn_ideal g2 i2 t2 k 32 S [] wr (HH.out.below XR.out.bel) XR.out.two (by decide) (by omega) (by omega)
        obtain ⟨B, HB⟩ : ∃ B, Hid (B = drawV S k 32) := ⟨_, rfl⟩
        have hBs : B.size = 32 := by rw [HB.out]; exact drawV_size _ _ _
        have HN : Hid (partsV S 0 k ++ B = partsV S 0 (k + 1)) := by show _ = _; rw [HB.out]; exact parts_more S k
        rw [← HB.out] at C
        obtain ⟨N1, HN1⟩ : ∃ N1, Hid (N1 = partsV S 0 (k + 1)) := ⟨_, rfl⟩
        rw [← HN1.out] at HN
        generalize partsV S 0 k = P at *
        have hsum : ¬ (9223372036854775807 < P.size + B.size) := by omega
        go_wp2_with fail
        refine C.out.mono ?_
        rintro e w4 ⟨rfl, h4, k4⟩
        have X4 : Hid (Two w w4 g i t g2 i2 t2 U (k + 1) S [] []) := XR.out.second h4 k4
        clear C h4 k4 XR
        go_wp2_with fail
        refine ⟨⟨k + 1, by omega, by rw [HN.out, HN1.out], by go_num, X4⟩, ?_⟩
        simp [intOf]; omega
      · obtain rfl : k = n := by omega
        have b0 : ¬ ((k : Int) < (k : Int)) := by omega
        have C : Hid (Calls Tryd.prog 12 #[.pointer (some ⟨g2, 0, none⟩), .int .i64 (m : Int)] wr fun e w' => e = .returned (.string (drawV S k m)) ∧ SlrAt w' g2 i2 t2 S (k + upV m) [] ∧ Kept2 i2 (some t2) wr w') := vdrawn_ideal g2 i2 t2 k m S [] wr (HH.out.below XR.out.bel) XR.out.two (by omega) (by omega) (by omega)
        obtain ⟨B, HB⟩ : ∃ B, Hid (B = drawV S k m) := ⟨_, rfl⟩
        have hBs : B.size = m := by rw [HB.out]; exact drawV_size _ _ _
        have HN : partsV S 0 k ++ B = A := by rw [HB.out, HA.out]; exact parts_all S k m
        rw [← HB.out] at C
        generalize partsV S 0 k = P at *
        generalize k + upV m = U2 at *
        have hsum : ¬ (9223372036854775807 < P.size + B.size) := by omega
        go_wp2_with fail
        refine C.out.mono ?_
        rintro e w4 ⟨rfl, h4, k4⟩
        have X4 : Hid (Two w w4 g i t g2 i2 t2 U U2 S [] []) := XR.out.second h4 k4
        have C5 : Hid (Calls _ _ _ _ _) := vdrawn_out g i t U S (-1) [] w4 X4.out.one (.inl (by decide))
        clear C h4 k4 XR
        go_wp2_with fail
        refine C5.out.mono ?_
        rintro e w5 ⟨rfl, hb5⟩
        have X5 : Hid (Two w w5 g i t g2 i2 t2 U U2 S [] []) := X4.out.on hb5
        clear C5 X4 hb5
        go_wp2_with fail
        refine (vreal_any _).mono ?_
        rintro e w6 ⟨rfl, h6, hb6⟩
        have HB6 : Hid (Below w.heap.size w w6) := below_step X5.out.bel (Nat.le_refl _) hb6
        have C7 : Hid (Calls _ _ _ _ _) := vdrawn_real w5.heap.size 32 w6 h6
        clear h6 hb6 X5
        go_wp2_with fail
        refine C7.out.mono ?_
        rintro e w7 ⟨rfl, hb7⟩
        have HB7 : Hid (Below w.heap.size w w7) := below_step HB6.out (Nat.le_refl _) hb7
        clear C7 hb7 HB6
        go_wp2_with fail
        refine (awake16_on w _ HH.out HB7.out).mono ?_
        rintro e w8 ⟨rfl, hb8⟩
        go_wp2_with fail
        go_ret
        exact ⟨rfl, hb8⟩
  · have g0 : (100 : Int) < (S.size : Int) := by omega
    go_enter Tryd.func4, Tryd.ntmps4
    go_wp2_with fail
    refine (awake16 _ HH.out).mono ?_
    rintro e w1 ⟨rfl, hb1⟩
    go_wp2_with fail
    go_ret
    exact ⟨rfl, hb1⟩

end Go.Proofs.YtfajkkjppelgcaaDoor
