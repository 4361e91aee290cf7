/- RelayGone's walk. -/
import Derived.Test.YtmlpbbancoedgabReGoP
namespace Go.Proofs.Ytmlpbbancoedgab
open Go.RowKit
set_option maxRecDepth 100000
set_option linter.unusedSimpArgs false
set_option linter.unusedVariables false

theorem tmodN (a b : Nat) : (a : Int).tmod (b : Int) = ((a % b : Nat) : Int) := by
  rw [Int.tmod_eq_emod_of_nonneg (by omega)]; omega

set_option maxHeartbeats 8000000 in
theorem relayGone_walk (many upto second : Int) (w : World) : Calls Try.prog 3 #[.int .i64 many, .int .i64 upto, .int .i64 second] w fun e w' => e = .returned (.bool true) ∧ Below w.heap.size w w' := by
  obtain ⟨q0, hq0, hq0'⟩ := mask256r many
  obtain ⟨q1, hq1, hq1'⟩ := mask256r upto
  obtain ⟨q2, hq2, hq2'⟩ := mask256r second
  obtain ⟨r0, hr0⟩ : ∃ r0, q0 % 20 = r0 := ⟨_, rfl⟩
  have hr0l : r0 < 20 := by omega
  have ht0 : (q0 : Int).tmod 20 = (r0 : Int) := by have := tmodN q0 20; rw [hr0] at this; exact this
  obtain ⟨n, hn⟩ : ∃ n, 1 + r0 = n := ⟨_, rfl⟩
  have hw0 : IntKind.i64.wrap (1 + (r0 : Int)) = (n : Int) := by rw [IntKind.wrap_i64]; omega
  obtain ⟨r1, hr1⟩ : ∃ r1, q1 % n = r1 := ⟨_, rfl⟩
  have hr1l : r1 < n := by rw [← hr1]; exact Nat.mod_lt _ (by omega)
  have ht1 : (q1 : Int).tmod (n : Int) = (r1 : Int) := by have := tmodN q1 n; rw [hr1] at this; exact this
  obtain ⟨k, hk⟩ : ∃ k, 1 + r1 = k := ⟨_, rfl⟩
  have hw1 : IntKind.i64.wrap (1 + (r1 : Int)) = (k : Int) := by rw [IntKind.wrap_i64]; omega
  obtain ⟨m, hm⟩ : ∃ m, q2 % (n + 2) = m := ⟨_, rfl⟩
  have hml : m < n + 2 := by rw [← hm]; exact Nat.mod_lt _ (by omega)
  have hw2 : IntKind.i64.wrap ((n : Int) + 2) = ((n + 2 : Nat) : Int) := by rw [IntKind.wrap_i64]; omega
  have ht2 : (q2 : Int).tmod ((n + 2 : Nat) : Int) = (m : Int) := by have := tmodN q2 (n + 2); rw [hm] at this; exact this
  have ht2b : (q2 : Int) % ((n : Int) + 2) = (m : Int) := by rw [show (n : Int) + 2 = ((n + 2 : Nat) : Int) by omega, ← Int.tmod_eq_emod_of_nonneg (by omega)]; exact ht2
  have HB : Hid (1 ≤ k ∧ k ≤ n ∧ n ≤ 20 ∧ 1 ≤ n ∧ m < n + 2) := ⟨by omega, by omega, by omega, by omega, hml⟩
  have hnz : ¬ ((n : Int) = 0) := by omega
  have hnz2 : ¬ (((n + 2 : Nat) : Int) = 0) := by omega
  have hnz3 : ¬ (n = 0) := by omega
  have CN : Hid (Calls _ _ _ _ _) := new_any 0 1048576 w (by decide) (by decide) (by decide) (by decide)
  clear hq0' hq1' hq2' hr0 hr0l hn hr1 hr1l hk hm hml
  go_enter Try.func3, Try.ntmps3
  go_wp2_with fail
  refine CN.out.mono ?_
  rintro e w1 ⟨rfl, hr1, hb1⟩
  have HS1 : Hid (RlV w w.heap.size (goX 0) w1) := ⟨hb1, Nat.le_refl _, _, hr1, fun k hk => by cases hk⟩
  clear hr1 hb1 CN
  go_wp2_with fail
  go_loopw [10] (fun v wr => ∃ i : Nat, i ≤ n ∧ v = .int .i64 i ∧ Hid (RlV w w.heap.size (goX i) wr)) (fun v _ => n - (intOf v).toNat)
  case atStart => exact ⟨0, Nat.zero_le _, rfl, HS1⟩
  case round =>
    clear HS1
    obtain ⟨i, hi, rfl, HS⟩ := hrel
    by_cases hlt : i < n
    · have b0 : (i : Int) < (n : Int) := by omega
      have hi20 : i < 20 := by have := HB.out.2.2.1; omega
      have hw3 : IntKind.u8.wrap (i : Int) = (i : Int) := by rw [IntKind.wrap_u8]; omega
      have hw4 : IntKind.i64.wrap ((i : Int) + 1) = (i : Int) + 1 := by rw [IntKind.wrap_i64]; omega
      have hcv := conv_oneR (row_oneR wr i) (by omega)
      have hb1 : Below wr.heap.size wr (wr.alloc (.cells #[.int .u8 (i : Int)] 5)) := below_new _ _
      have hok := goX_ok i (by omega)
      go_wp2_with fail
      have CA' := ask_gen w w.heap.size (goX i) i hok.1 hok.2 (by have := HB.out; omega) _ (appF_fit inN_zero ⟨by decide, by decide⟩ (by rw [oneB_size]; decide)) rfl (goX (i + 1)) (takF ((i : Int) + 1)) (go_add i hi20) _ (show Hid _ from HS.out.on hb1).out
      simp only [frmA, appF, takF, withG, List.length_nil, show ((goX i)).1 = 0 from rfl] at CA'
      have CA : Hid (Calls _ _ _ _ _) := CA'
      clear CA'
      refine CA.out.mono ?_
      rintro e w2 ⟨a2, c2, rfl, _, _, hs2, ho2⟩
      have HS2a : Hid (RlV w w.heap.size (goX (i + 1)) w2) := hs2
      have hb2 : Below w2.heap.size w2 (w2.alloc (.cells #[.int .i64 2, .int .i64 0, .int .i64 ((i : Int) + 1), .int .i64 0, .int .i64 0, .string ⟨#[]⟩, .slice a2 0 c2, .int .i64 0] 28)) := below_new _ _
      have HS3 : Hid (RlV w w.heap.size (goX (i + 1)) (w2.alloc (.cells #[.int .i64 2, .int .i64 0, .int .i64 ((i : Int) + 1), .int .i64 0, .int .i64 0, .string ⟨#[]⟩, .slice a2 0 c2, .int .i64 0] 28))) := HS2a.out.on hb2
      have g2 : (w2.alloc (.cells #[.int .i64 2, .int .i64 0, .int .i64 ((i : Int) + 1), .int .i64 0, .int .i64 0, .string ⟨#[]⟩, .slice a2 0 c2, .int .i64 0] 28)).cell? ⟨w2.heap.size, 2, none⟩ = some (.int .i64 ((i : Int) + 1)) := (Blk.new w2 28 #[.int .i64 2, .int .i64 0, .int .i64 ((i : Int) + 1), .int .i64 0, .int .i64 0, .string ⟨#[]⟩, .slice a2 0 c2, .int .i64 0]).cell 2
      clear CA hs2 ho2 hok hcv hb1 HS HS2a hb2
      go_wp2_with fail
      refine ⟨?_, ?_⟩
      · first
        | exact ⟨i + 1, by omega, by go_num, HS3⟩
        | ((repeat apply Exists.intro); refine ⟨?_, rfl⟩; exact ⟨i + 1, by omega, by go_num, HS3⟩)
      · simp [intOf] <;> omega
    · obtain rfl : n = i := by omega
      have b0 : ¬ ((n : Int) < (n : Int)) := by omega
      clear hlt hi
      have hokX := goX_ok n HB.out.2.2.1
      have hokY := goY_ok n k HB.out.1 HB.out.2.1 HB.out.2.2.1
      go_wp2_with fail
      have CA' := ask_gen w w.heap.size (goX n) n hokX.1 hokX.2 (by have := HB.out; omega) _ (askF_fit inN_zero) rfl (goX n) (errF 3) (go_ask n) _ HS.out
      simp only [frmA, askF, errF, withG, List.length_nil, show ((goX n)).1 = 0 from rfl] at CA'
      have CA : Hid (Calls _ _ _ _ _) := CA'
      clear CA'
      refine CA.out.mono ?_
      rintro e w3 ⟨a3, c3, rfl, _, _, hs3, ho3⟩
      have HS3a : Hid (RlV w w.heap.size (goX n) w3) := hs3
      have hb3 : Below w3.heap.size w3 (w3.alloc (.cells #[.int .i64 9, .int .i64 0, .int .i64 0, .int .i64 0, .int .i64 0, .string ⟨#[]⟩, .slice a3 0 c3, .int .i64 3] 28)) := below_new _ _
      have HS3 : Hid (RlV w w.heap.size (goX n) (w3.alloc (.cells #[.int .i64 9, .int .i64 0, .int .i64 0, .int .i64 0, .int .i64 0, .string ⟨#[]⟩, .slice a3 0 c3, .int .i64 3] 28))) := HS3a.out.on hb3
      have HB3 : Hid (Blk (w3.alloc (.cells #[.int .i64 9, .int .i64 0, .int .i64 0, .int .i64 0, .int .i64 0, .string ⟨#[]⟩, .slice a3 0 c3, .int .i64 3] 28)) 28 w3.heap.size #[.int .i64 9, .int .i64 0, .int .i64 0, .int .i64 0, .int .i64 0, .string ⟨#[]⟩, .slice a3 0 c3, .int .i64 3]) := Blk.new _ _ _
      have g3_7 : (w3.alloc (.cells #[.int .i64 9, .int .i64 0, .int .i64 0, .int .i64 0, .int .i64 0, .string ⟨#[]⟩, .slice a3 0 c3, .int .i64 3] 28)).cell? ⟨w3.heap.size, 7, none⟩ = some (.int .i64 3) := HB3.out.cell 7
      clear CA hs3 hb3 HS3a HS ho3
      go_wp2_with fail
      have CA' := ask_gen w w.heap.size (goX n) n hokX.1 hokX.2 (by have := HB.out; omega) _ (kepF_fit inN_zero ⟨by have := HB.out; omega, by have := HB.out; omega⟩ ⟨by decide, by decide⟩ (by decide)) rfl (goY n k) (kptF (k : Int)) (go_kep1 n k HB.out.1 HB.out.2.1 HB.out.2.2.1) _ HS3.out
      simp only [frmA, kepF, kptF, withG, List.length_nil, show ((goX n)).1 = 0 from rfl] at CA'
      have CA : Hid (Calls _ _ _ _ _) := CA'
      clear CA'
      refine CA.out.mono ?_
      rintro e w4 ⟨a4, c4, rfl, _, _, hs4, ho4⟩
      have HS4a : Hid (RlV w w.heap.size (goY n k) w4) := hs4
      have hb4 : Below w4.heap.size w4 (w4.alloc (.cells #[.int .i64 6, .int .i64 0, .int .i64 (k : Int), .int .i64 0, .int .i64 0, .string ⟨#[]⟩, .slice a4 0 c4, .int .i64 0] 28)) := below_new _ _
      have HS4 : Hid (RlV w w.heap.size (goY n k) (w4.alloc (.cells #[.int .i64 6, .int .i64 0, .int .i64 (k : Int), .int .i64 0, .int .i64 0, .string ⟨#[]⟩, .slice a4 0 c4, .int .i64 0] 28))) := HS4a.out.on hb4
      have HB4 : Hid (Blk (w4.alloc (.cells #[.int .i64 6, .int .i64 0, .int .i64 (k : Int), .int .i64 0, .int .i64 0, .string ⟨#[]⟩, .slice a4 0 c4, .int .i64 0] 28)) 28 w4.heap.size #[.int .i64 6, .int .i64 0, .int .i64 (k : Int), .int .i64 0, .int .i64 0, .string ⟨#[]⟩, .slice a4 0 c4, .int .i64 0]) := Blk.new _ _ _
      have g4_0 : (w4.alloc (.cells #[.int .i64 6, .int .i64 0, .int .i64 (k : Int), .int .i64 0, .int .i64 0, .string ⟨#[]⟩, .slice a4 0 c4, .int .i64 0] 28)).cell? ⟨w4.heap.size, 0, none⟩ = some (.int .i64 6) := HB4.out.cell 0
      have g4_2 : (w4.alloc (.cells #[.int .i64 6, .int .i64 0, .int .i64 (k : Int), .int .i64 0, .int .i64 0, .string ⟨#[]⟩, .slice a4 0 c4, .int .i64 0] 28)).cell? ⟨w4.heap.size, 2, none⟩ = some (.int .i64 (k : Int)) := HB4.out.cell 2
      clear CA hs4 hb4 HS4a HS3 HB3 g3_7 ho4
      go_wp2_with fail
      have CA' := ask_gen w w.heap.size (goY n k) (n + 1) hokY.1 hokY.2 (by have := HB.out; omega) _ (fetF_fit inN_zero ⟨by have := HB.out; omega, by have := HB.out; omega⟩ ⟨by decide, by decide⟩) rfl (goY n k) (errF 210) (go_fet n k) _ HS4.out
      simp only [frmA, fetF, errF, withG, List.length_nil, show ((goY n k)).1 = 0 from rfl] at CA'
      have CA : Hid (Calls _ _ _ _ _) := CA'
      clear CA'
      refine CA.out.mono ?_
      rintro e w5 ⟨a5, c5, rfl, _, _, hs5, ho5⟩
      have HS5a : Hid (RlV w w.heap.size (goY n k) w5) := hs5
      have hb5 : Below w5.heap.size w5 (w5.alloc (.cells #[.int .i64 9, .int .i64 0, .int .i64 0, .int .i64 0, .int .i64 0, .string ⟨#[]⟩, .slice a5 0 c5, .int .i64 210] 28)) := below_new _ _
      have HS5 : Hid (RlV w w.heap.size (goY n k) (w5.alloc (.cells #[.int .i64 9, .int .i64 0, .int .i64 0, .int .i64 0, .int .i64 0, .string ⟨#[]⟩, .slice a5 0 c5, .int .i64 210] 28))) := HS5a.out.on hb5
      have HB5 : Hid (Blk (w5.alloc (.cells #[.int .i64 9, .int .i64 0, .int .i64 0, .int .i64 0, .int .i64 0, .string ⟨#[]⟩, .slice a5 0 c5, .int .i64 210] 28)) 28 w5.heap.size #[.int .i64 9, .int .i64 0, .int .i64 0, .int .i64 0, .int .i64 0, .string ⟨#[]⟩, .slice a5 0 c5, .int .i64 210]) := Blk.new _ _ _
      clear CA hs5 hb5 HS5a HS4 HB4 g4_0 g4_2 ho5
      go_wp2_with fail
      have CA' := ask_gen w w.heap.size (goY n k) (n + 1) hokY.1 hokY.2 (by have := HB.out; omega) _ (askF_fit inN_zero) rfl (goY n k) (8, 0, (k : Int), 2, 0, ⟨#[111, 110, 101]⟩, [], 0) (go_snap n k HB.out.1) _ HS5.out
      simp only [frmA, askF, withG, List.length_nil, show ((goY n k)).1 = 0 from rfl] at CA'
      have CA : Hid (Calls _ _ _ _ _) := CA'
      clear CA'
      refine CA.out.mono ?_
      rintro e w6 ⟨a6, c6, rfl, _, _, hs6, ho6⟩
      have HS6a : Hid (RlV w w.heap.size (goY n k) w6) := hs6
      have HB5b : Hid (Blk w6 28 w5.heap.size _) := ho6 _ _ _ (by decide) (by decide) HB5.out
      have qt : ((⟨#[111, 110, 101]⟩ : ByteArray).toList == (⟨#[111, 110, 101]⟩ : ByteArray).toList) = true := beq_self_eq_true _
      have hb6 : Below w6.heap.size w6 (w6.alloc (.cells #[.int .i64 8, .int .i64 0, .int .i64 (k : Int), .int .i64 2, .int .i64 0, .string ⟨#[111, 110, 101]⟩, .slice a6 0 c6, .int .i64 0] 28)) := below_new _ _
      have HS6 : Hid (RlV w w.heap.size (goY n k) (w6.alloc (.cells #[.int .i64 8, .int .i64 0, .int .i64 (k : Int), .int .i64 2, .int .i64 0, .string ⟨#[111, 110, 101]⟩, .slice a6 0 c6, .int .i64 0] 28))) := HS6a.out.on hb6
      have HB6 : Hid (Blk (w6.alloc (.cells #[.int .i64 8, .int .i64 0, .int .i64 (k : Int), .int .i64 2, .int .i64 0, .string ⟨#[111, 110, 101]⟩, .slice a6 0 c6, .int .i64 0] 28)) 28 w6.heap.size #[.int .i64 8, .int .i64 0, .int .i64 (k : Int), .int .i64 2, .int .i64 0, .string ⟨#[111, 110, 101]⟩, .slice a6 0 c6, .int .i64 0]) := Blk.new _ _ _
      have g6_2 : (w6.alloc (.cells #[.int .i64 8, .int .i64 0, .int .i64 (k : Int), .int .i64 2, .int .i64 0, .string ⟨#[111, 110, 101]⟩, .slice a6 0 c6, .int .i64 0] 28)).cell? ⟨w6.heap.size, 2, none⟩ = some (.int .i64 (k : Int)) := HB6.out.cell 2
      have g6_3 : (w6.alloc (.cells #[.int .i64 8, .int .i64 0, .int .i64 (k : Int), .int .i64 2, .int .i64 0, .string ⟨#[111, 110, 101]⟩, .slice a6 0 c6, .int .i64 0] 28)).cell? ⟨w6.heap.size, 3, none⟩ = some (.int .i64 2) := HB6.out.cell 3
      have g6_5 : (w6.alloc (.cells #[.int .i64 8, .int .i64 0, .int .i64 (k : Int), .int .i64 2, .int .i64 0, .string ⟨#[111, 110, 101]⟩, .slice a6 0 c6, .int .i64 0] 28)).cell? ⟨w6.heap.size, 5, none⟩ = some (.string ⟨#[111, 110, 101]⟩) := HB6.out.cell 5
      have g5_7 : (w6.alloc (.cells #[.int .i64 8, .int .i64 0, .int .i64 (k : Int), .int .i64 2, .int .i64 0, .string ⟨#[111, 110, 101]⟩, .slice a6 0 c6, .int .i64 0] 28)).cell? ⟨w5.heap.size, 7, none⟩ = some (.int .i64 210) := (HB5b.out.on hb6).cell 7
      clear CA hs6 hb6 HS6a HS5 HB5 ho6
      go_wp2_with fail
      obtain ⟨v6, hr6, hv6⟩ := HS6.out.rel
      refine (rbase_any w.heap.size v6 (goY n k) _ hr6).mono ?_
      rintro e w7 ⟨rfl, hb7⟩
      have HS7 : Hid (RlV w w.heap.size (goY n k) w7) := HS6.out.on hb7
      rw [show (goY n k).2.2.1.1 = (k : Int) from rfl]
      clear hr6 hv6 hb7 HS6 HB6 HB5b g6_2 g6_3 g6_5 g5_7
      go_wp2_with fail
      obtain ⟨v7, hr7, hv7⟩ := HS7.out.rel
      refine (rlast_any w.heap.size v7 (goY n k) (n + 1) (by have := HB.out; omega) hokY.1 w7 hr7).mono ?_
      rintro e w8 ⟨rfl, hb8⟩
      have HS8 : Hid (RlV w w.heap.size (goY n k) w8) := HS7.out.on hb8
      rw [goY_last n k HB.out.2.1]
      clear hr7 hv7 hb8 HS7
      go_wp2_with fail
      by_cases hmk : k < m ∧ m ≤ n
      · have t1 : (k : Int) < (m : Int) := by omega
        have t2 : (m : Int) ≤ (n : Int) := by omega
        have t3 : k < m := hmk.1
        have t4 : m ≤ n := hmk.2
        have hw5 : IntKind.i64.wrap (m : Int) = (m : Int) := by have := HB.out; rw [IntKind.wrap_i64]; omega
        have hmx : max (k : Int) (m : Int) = (m : Int) := by omega
        clear hmk
        have CA' := ask_gen w w.heap.size (goY n k) (n + 1) hokY.1 hokY.2 (by have := HB.out; omega) _ (kepF_fit inN_zero ⟨by omega, by have := HB.out; omega⟩ ⟨by decide, by decide⟩ (by decide)) rfl (goZ n k m) (kptF (m : Int)) (go_kep2y n k m (by omega) (by omega) HB.out.2.2.1) _ HS8.out
        simp only [frmA, kepF, kptF, errF, withG, List.length_nil, show ((goY n k)).1 = 0 from rfl] at CA'
        have CA : Hid (Calls _ _ _ _ _) := CA'
        clear CA'
        refine CA.out.mono ?_
        rintro e w9 ⟨a9, c9, rfl, _, _, hs9, ho9⟩
        have HS9a : Hid (RlV w w.heap.size (goZ n k m) w9) := hs9
        have hb9 : Below w9.heap.size w9 (w9.alloc (.cells #[.int .i64 6, .int .i64 0, .int .i64 (m : Int), .int .i64 0, .int .i64 0, .string ⟨#[]⟩, .slice a9 0 c9, .int .i64 0] 28)) := below_new _ _
        have HS9 : Hid (RlV w w.heap.size (goZ n k m) (w9.alloc (.cells #[.int .i64 6, .int .i64 0, .int .i64 (m : Int), .int .i64 0, .int .i64 0, .string ⟨#[]⟩, .slice a9 0 c9, .int .i64 0] 28))) := HS9a.out.on hb9
        have HB9 : Hid (Blk (w9.alloc (.cells #[.int .i64 6, .int .i64 0, .int .i64 (m : Int), .int .i64 0, .int .i64 0, .string ⟨#[]⟩, .slice a9 0 c9, .int .i64 0] 28)) 28 w9.heap.size #[.int .i64 6, .int .i64 0, .int .i64 (m : Int), .int .i64 0, .int .i64 0, .string ⟨#[]⟩, .slice a9 0 c9, .int .i64 0]) := Blk.new _ _ _
        have g9_0 : (w9.alloc (.cells #[.int .i64 6, .int .i64 0, .int .i64 (m : Int), .int .i64 0, .int .i64 0, .string ⟨#[]⟩, .slice a9 0 c9, .int .i64 0] 28)).cell? ⟨w9.heap.size, 0, none⟩ = some (.int .i64 6) := HB9.out.cell 0
        clear CA hs9 hb9 HS9a HS8 ho9
        go_wp2_with fail
        obtain ⟨v9, hr9, hv9⟩ := HS9.out.rel
        refine (rbase_any w.heap.size v9 (goZ n k m) _ hr9).mono ?_
        rintro e w10 ⟨rfl, hb10⟩
        have HS10 : Hid (RlV w w.heap.size (goZ n k m) w10) := HS9.out.on hb10
        rw [show ((goZ n k m)).2.2.1.1 = (m : Int) from rfl]
        clear hr9 hv9 hb10 HS9 HB9 g9_0
        go_wp2_with fail
        have C1 : Calls Try.prog 8 #[.bool true] w10 fun e w' => e = .returned (.int .i64 1) ∧ Below w10.heap.size w10 w' := one_any true w10
        refine C1.mono ?_
        rintro e w11 ⟨rfl, hb11⟩
        have HS11 : Hid (RlV w w.heap.size (goZ n k m) w11) := HS10.out.on hb11
        clear hb11 HS10 C1
        go_wp2_with fail
        refine (awake21_any w11).mono ?_
        rintro e w12 ⟨rfl, hb12⟩
        have HF : Hid (Below w.heap.size w w12) := below_step HS11.out.bel (Nat.le_refl _) hb12
        clear hb12 HS11
        go_wp2_with fail
        go_ret
        exact ⟨rfl, HF.out⟩
      · have hw5 : IntKind.i64.wrap (0 * (m : Int)) = 0 := by rw [Int.zero_mul]; rfl
        have hmx : max (k : Int) 0 = (k : Int) := by omega
        have hd := go_kep2n n k m HB.out.2.1 (by omega)
        by_cases hmk1 : k < m
        · have t1 : (k : Int) < (m : Int) := by omega
          have t2 : ¬ ((m : Int) ≤ (n : Int)) := by omega
          have t3 : n < m := by omega
          have t4 : ¬ (m ≤ n) := by omega
          clear hmk
          have CA' := ask_gen w w.heap.size (goY n k) (n + 1) hokY.1 hokY.2 (by have := HB.out; omega) _ (kepF_fit inN_zero ⟨by omega, by have := HB.out; omega⟩ ⟨by decide, by decide⟩ (by decide)) rfl (goY n k) (errF 1) hd _ HS8.out
          simp only [frmA, kepF, kptF, errF, withG, List.length_nil, show ((goY n k)).1 = 0 from rfl] at CA'
          have CA : Hid (Calls _ _ _ _ _) := CA'
          clear CA'
          refine CA.out.mono ?_
          rintro e w9 ⟨a9, c9, rfl, _, _, hs9, ho9⟩
          have HS9a : Hid (RlV w w.heap.size (goY n k) w9) := hs9
          have hb9 : Below w9.heap.size w9 (w9.alloc (.cells #[.int .i64 9, .int .i64 0, .int .i64 0, .int .i64 0, .int .i64 0, .string ⟨#[]⟩, .slice a9 0 c9, .int .i64 1] 28)) := below_new _ _
          have HS9 : Hid (RlV w w.heap.size (goY n k) (w9.alloc (.cells #[.int .i64 9, .int .i64 0, .int .i64 0, .int .i64 0, .int .i64 0, .string ⟨#[]⟩, .slice a9 0 c9, .int .i64 1] 28))) := HS9a.out.on hb9
          have HB9 : Hid (Blk (w9.alloc (.cells #[.int .i64 9, .int .i64 0, .int .i64 0, .int .i64 0, .int .i64 0, .string ⟨#[]⟩, .slice a9 0 c9, .int .i64 1] 28)) 28 w9.heap.size #[.int .i64 9, .int .i64 0, .int .i64 0, .int .i64 0, .int .i64 0, .string ⟨#[]⟩, .slice a9 0 c9, .int .i64 1]) := Blk.new _ _ _
          have g9_0 : (w9.alloc (.cells #[.int .i64 9, .int .i64 0, .int .i64 0, .int .i64 0, .int .i64 0, .string ⟨#[]⟩, .slice a9 0 c9, .int .i64 1] 28)).cell? ⟨w9.heap.size, 0, none⟩ = some (.int .i64 9) := HB9.out.cell 0
          clear CA hs9 hb9 HS9a HS8 ho9
          go_wp2_with fail
          obtain ⟨v9, hr9, hv9⟩ := HS9.out.rel
          refine (rbase_any w.heap.size v9 (goY n k) _ hr9).mono ?_
          rintro e w10 ⟨rfl, hb10⟩
          have HS10 : Hid (RlV w w.heap.size (goY n k) w10) := HS9.out.on hb10
          rw [show ((goY n k)).2.2.1.1 = (k : Int) from rfl]
          clear hr9 hv9 hb10 HS9 HB9 g9_0
          go_wp2_with fail
          have C1 : Calls Try.prog 8 #[.bool false] w10 fun e w' => e = .returned (.int .i64 0) ∧ Below w10.heap.size w10 w' := one_any false w10
          refine C1.mono ?_
          rintro e w11 ⟨rfl, hb11⟩
          have HS11 : Hid (RlV w w.heap.size (goY n k) w11) := HS10.out.on hb11
          clear hb11 HS10 C1
          go_wp2_with fail
          refine (awake21_any w11).mono ?_
          rintro e w12 ⟨rfl, hb12⟩
          have HF : Hid (Below w.heap.size w w12) := below_step HS11.out.bel (Nat.le_refl _) hb12
          clear hb12 HS11
          go_wp2_with fail
          go_ret
          exact ⟨rfl, HF.out⟩
        · have t1 : ¬ ((k : Int) < (m : Int)) := by omega
          have t3 : m ≤ k := by omega
          clear hmk
          have CA' := ask_gen w w.heap.size (goY n k) (n + 1) hokY.1 hokY.2 (by have := HB.out; omega) _ (kepF_fit inN_zero ⟨by omega, by have := HB.out; omega⟩ ⟨by decide, by decide⟩ (by decide)) rfl (goY n k) (errF 1) hd _ HS8.out
          simp only [frmA, kepF, kptF, errF, withG, List.length_nil, show ((goY n k)).1 = 0 from rfl] at CA'
          have CA : Hid (Calls _ _ _ _ _) := CA'
          clear CA'
          refine CA.out.mono ?_
          rintro e w9 ⟨a9, c9, rfl, _, _, hs9, ho9⟩
          have HS9a : Hid (RlV w w.heap.size (goY n k) w9) := hs9
          have hb9 : Below w9.heap.size w9 (w9.alloc (.cells #[.int .i64 9, .int .i64 0, .int .i64 0, .int .i64 0, .int .i64 0, .string ⟨#[]⟩, .slice a9 0 c9, .int .i64 1] 28)) := below_new _ _
          have HS9 : Hid (RlV w w.heap.size (goY n k) (w9.alloc (.cells #[.int .i64 9, .int .i64 0, .int .i64 0, .int .i64 0, .int .i64 0, .string ⟨#[]⟩, .slice a9 0 c9, .int .i64 1] 28))) := HS9a.out.on hb9
          have HB9 : Hid (Blk (w9.alloc (.cells #[.int .i64 9, .int .i64 0, .int .i64 0, .int .i64 0, .int .i64 0, .string ⟨#[]⟩, .slice a9 0 c9, .int .i64 1] 28)) 28 w9.heap.size #[.int .i64 9, .int .i64 0, .int .i64 0, .int .i64 0, .int .i64 0, .string ⟨#[]⟩, .slice a9 0 c9, .int .i64 1]) := Blk.new _ _ _
          have g9_0 : (w9.alloc (.cells #[.int .i64 9, .int .i64 0, .int .i64 0, .int .i64 0, .int .i64 0, .string ⟨#[]⟩, .slice a9 0 c9, .int .i64 1] 28)).cell? ⟨w9.heap.size, 0, none⟩ = some (.int .i64 9) := HB9.out.cell 0
          clear CA hs9 hb9 HS9a HS8 ho9
          go_wp2_with fail
          obtain ⟨v9, hr9, hv9⟩ := HS9.out.rel
          refine (rbase_any w.heap.size v9 (goY n k) _ hr9).mono ?_
          rintro e w10 ⟨rfl, hb10⟩
          have HS10 : Hid (RlV w w.heap.size (goY n k) w10) := HS9.out.on hb10
          rw [show ((goY n k)).2.2.1.1 = (k : Int) from rfl]
          clear hr9 hv9 hb10 HS9 HB9 g9_0
          go_wp2_with fail
          have C1 : Calls Try.prog 8 #[.bool false] w10 fun e w' => e = .returned (.int .i64 0) ∧ Below w10.heap.size w10 w' := one_any false w10
          refine C1.mono ?_
          rintro e w11 ⟨rfl, hb11⟩
          have HS11 : Hid (RlV w w.heap.size (goY n k) w11) := HS10.out.on hb11
          clear hb11 HS10 C1
          go_wp2_with fail
          refine (awake21_any w11).mono ?_
          rintro e w12 ⟨rfl, hb12⟩
          have HF : Hid (Below w.heap.size w w12) := below_step HS11.out.bel (Nat.le_refl _) hb12
          clear hb12 HS11
          go_wp2_with fail
          go_ret
          exact ⟨rfl, HF.out⟩
end Go.Proofs.Ytmlpbbancoedgab
