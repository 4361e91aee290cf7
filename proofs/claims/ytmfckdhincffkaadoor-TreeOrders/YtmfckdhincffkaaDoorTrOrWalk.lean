/- The walk of TreeOrders (layer 11). -/
import Derived.Test.YtmfckdhincffkaaDoorTmFw
namespace Go.Proofs.YtmfckdhincffkaaDoor
open Go.RowKit
set_option linter.unusedSimpArgs false



set_option maxRecDepth 100000 in
set_option maxHeartbeats 8000000 in
theorem treeOrders_walk (a : Option Addr) (l : List OpT) (n c : Nat) (turn : Int) (w : World) (hm : n ≤ maxLen) (hI : OpsAt w a n l) (hz : ∀ q ∈ l, OpOk q) (hG : Glob8 w) :
    Calls Tryd.prog 3 #[.slice a n c, .int .i64 turn] w fun e w' => e = .returned (.bool true) ∧ Below w.heap.size w w' := by
  obtain ⟨M, hM⟩ := mayM_ex
  have HM : Hid (∀ o, M o = true ↔ MayO o) := hM
  have HG : Hid (Glob8 w) := hG
  have HI : Hid (OpsAt w a n l) := hI
  have HN : Hid (l.length = n) := hI.1
  have hm' : n ≤ 9223372036854775807 := hm
  have CN : Hid (∀ W, Below w.heap.size w W → _) := fun W hW => new_tr w W hW
  have CW : Hid (∀ W, Below w.heap.size w W → Calls Tryd.prog 9 #[] W fun e w' => e = .returned (.bool true) ∧ Below W.heap.size W w') := fun W hW => awake11 W (HG.out.below hW)
  have CF1 : Hid (FewO l 30 → ∀ W, Below w.heap.size w W → Calls Tryd.prog 8 #[.slice a n c, .int .i64 30] W fun e w' => e = .returned (.bool true) ∧ Below W.heap.size W w') := fun hF W hW => few_yes l a n c 30 W hm (by decide) (hI.below hW) hz hF
  have CF0 : Hid (¬ FewO l 30 → ∀ W, Below w.heap.size w W → Calls Tryd.prog 8 #[.slice a n c, .int .i64 30] W fun e w' => e = .returned (.bool false) ∧ Below W.heap.size W w') := fun hF W hW => few_no l a n c 30 W hm (by decide) (hI.below hW) hz hF
  obtain ⟨t, ht, hbits⟩ : ∃ t : Nat, t ≤ 255 ∧ bits .and .i64 turn 255 = (t : Int) := by
    have h1 := i64_mask turn 8 (by decide) 255 (by decide)
    refine ⟨(turn % 256).toNat, by omega, ?_⟩
    rw [h1]
    show turn % 256 = _
    omega
  clear hM hG hI hz hm
  go_enter Tryd.func3, Tryd.ntmps3
  go_wp2_with fail
  refine (CN.out w (Below.refl _ _)).mono ?_
  rintro e w1 ⟨g1, f1, m1, rfl, hT1, _, _⟩
  have HX1 : Hid (Tr w w1 g1 f1 m1 none T0) := hT1
  clear hT1
  go_wp2_with fail
  refine (CN.out w1 HX1.out.bel).mono ?_
  rintro e w2 ⟨g2, f2, m2, rfl, hT2, hn2, hb2⟩
  have HX2 : Hid (Tr w w2 g1 f1 m1 none T0 ∧ Tr w w2 g2 f2 m2 none T0 ∧ Apart (g2, f2, m2, none, T0) (g1, f1, m1, none, T0)) := ⟨HX1.out.on hb2, hT2, apart_new HX1.out hn2⟩
  clear hT2 hn2 hb2 HX1
  go_wp2_with fail
  refine (CN.out w2 HX2.out.1.bel).mono ?_
  rintro e w3 ⟨g3, f3, m3, rfl, hT3, hn3, hb3⟩
  have HT0 : Hid (Trio w w3 (g1, f1, m1, none, T0) (g2, f2, m2, none, T0) (g3, f3, m3, none, T0)) :=
    ⟨HX2.out.1.on hb3, HX2.out.2.1.on hb3, hT3, HX2.out.2.2.symm, Apart.symm (apart_new HX2.out.2.1 hn3), apart_new HX2.out.1 hn3⟩
  clear hT3 hn3 hb3 HX2 CN
  by_cases hF : FewO l 30
  · have HF : Hid (FewO l 30) := hF
    have CF : Hid (Calls _ _ _ _ _) := CF1.out hF w3 HT0.out.a.bel
    have hn : n ≤ 30 := by rw [← HN.out]; exact hF.1
    clear CF1 CF0 hF
    by_cases h0 : n = 0
    · subst h0
      go_wp2_with fail
      refine CF.out.mono ?_
      rintro e w4 ⟨rfl, hb4⟩
      have HB : Hid (Below w.heap.size w w4) := below_step HT0.out.a.bel (Nat.le_refl _) hb4
      have CWx : Hid (Calls _ _ _ _ _) := CW.out w4 HB.out
      clear CF hb4 CW HT0
      go_wp2_with fail
      refine CWx.out.mono ?_
      rintro e w5 ⟨rfl, hb5⟩
      have hB5 := below_step HB.out (Nat.le_refl _) hb5
      clear CWx hb5 HB
      go_wp2_with fail
      go_ret
      exact ⟨rfl, hB5⟩
    · have b00 : ((n : Int) == 0) = false := by simp; omega
      have b01 : ¬ ((n : Int) = 0) := by omega
      go_wp2_with fail
      refine CF.out.mono ?_
      rintro e w4 ⟨rfl, hb4⟩
      have HT4 : Hid (Trio w w4 (g1, f1, m1, none, T0) (g2, f2, m2, none, T0) (g3, f3, m3, none, T0)) := HT0.out.on hb4
      clear CF hb4 HT0
      go_wp2_with fail
      go_loopw [9] (fun i wr => ∃ k : Nat, k ≤ n ∧ i = .int .i64 k ∧ Hid (∀ i, i < k → ∀ j, j < i → (oL l j).2.1 = (oL l i).2.1 → oL l j = oL l i) ∧ Hid (Trio w wr (g1, f1, m1, none, T0) (g2, f2, m2, none, T0) (g3, f3, m3, none, T0))) (fun i _ => n - (intOf i).toNat)
      case atStart => exact ⟨0, by omega, rfl, fun i hi => absurd hi (Nat.not_lt_zero _), HT4⟩
      case round =>
        clear HT4
        obtain ⟨k, hk, rfl, HO, HT⟩ := hrel
        by_cases hlt : k < n
        · have b0 : (k : Int) < (n : Int) := by omega
          go_wp2_with fail
          go_loopw [10] (fun i wr => ∃ j : Nat, j ≤ k ∧ i = .int .i64 j ∧ Hid (∀ j', j' < j → (oL l j').2.1 = (oL l k).2.1 → oL l j' = oL l k) ∧ Hid (Trio w wr (g1, f1, m1, none, T0) (g2, f2, m2, none, T0) (g3, f3, m3, none, T0))) (fun i _ => k - (intOf i).toNat)
          case atStart => exact ⟨0, by omega, rfl, fun i hi => absurd hi (Nat.not_lt_zero _), HT⟩
          case round =>
            clear HT
            obtain ⟨j, hj, rfl, HJ, HT⟩ := hrel
            by_cases hjk : j < k
            · have b1 : (j : Int) < (k : Int) := by omega
              have b2 : (j : Int) < (n : Int) := by omega
              obtain ⟨b, off, rfl, _⟩ := HI.out.2.some (by omega)
              have hIr := HI.out.below HT.out.a.bel
              obtain ⟨x0, x1, x2, x3, x4, x5, x6, x7, x8⟩ := hIr.cells j (by omega)
              obtain ⟨y0, y1, y2, y3, y4, y5, y6, y7, y8⟩ := hIr.cells k hlt
              clear hIr
              by_cases hat : (oL l j).2.1 = (oL l k).2.1
              · have hE := fun W => stampEq_is (oL l j).2.1 (oL l k).2.1 true (decide_eq_true hat) W
                by_cases heq : oL l j = oL l k
                · have hE2 := fun W => opEq_is (oL l j) (oL l k) true (decide_eq_true heq) W
                  have HJ' : Hid (∀ j', j' < j + 1 → (oL l j').2.1 = (oL l k).2.1 → oL l j' = oL l k) := fun j' hj' he => by
                    by_cases e : j' = j
                    · subst e; exact heq
                    · exact HJ.out j' (by omega) he
                  obtain ⟨⟨k0, ⟨k1, k2⟩, ⟨k3, k4⟩, ⟨k5, k6⟩, s7, s8⟩, hkj⟩ : ∃ s, s = oL l j := ⟨_, rfl⟩
                  obtain ⟨⟨q0, ⟨q1, q2⟩, ⟨q3, q4⟩, ⟨q5, q6⟩, r7, r8⟩, hkk⟩ : ∃ s, s = oL l k := ⟨_, rfl⟩
                  rw [← hkj] at x0 x1 x2 x3 x4 x5 x6 x7 x8 hE
                  try rw [← hkj] at hE2
                  rw [← hkk] at y0 y1 y2 y3 y4 y5 y6 y7 y8 hE
                  try rw [← hkk] at hE2
                  try simp only [opA] at hE2
                  try simp only [stampV] at hE
                  clear hkj hkk
                  have hS0 : wr.cell? ⟨b, off + j * 9, none⟩ = some (.int .i64 k0) ∧ wr.cell? ⟨b, off + j * 9 + 1, none⟩ = some (.int .i64 k1) ∧ wr.cell? ⟨b, off + j * 9 + 2, none⟩ = some (.int .i64 k2) ∧ wr.cell? ⟨b, off + j * 9 + 3, none⟩ = some (.int .i64 k3) ∧ wr.cell? ⟨b, off + j * 9 + 4, none⟩ = some (.int .i64 k4) ∧ wr.cell? ⟨b, off + j * 9 + 5, none⟩ = some (.int .i64 k5) ∧ wr.cell? ⟨b, off + j * 9 + 6, none⟩ = some (.int .i64 k6) ∧ wr.cell? ⟨b, off + j * 9 + 7, none⟩ = some (.string s7) ∧ wr.cell? ⟨b, off + j * 9 + 8, none⟩ = some (.string s8) ∧ wr.cell? ⟨b, off + k * 9, none⟩ = some (.int .i64 q0) ∧ wr.cell? ⟨b, off + k * 9 + 1, none⟩ = some (.int .i64 q1) ∧ wr.cell? ⟨b, off + k * 9 + 2, none⟩ = some (.int .i64 q2) ∧ wr.cell? ⟨b, off + k * 9 + 3, none⟩ = some (.int .i64 q3) ∧ wr.cell? ⟨b, off + k * 9 + 4, none⟩ = some (.int .i64 q4) ∧ wr.cell? ⟨b, off + k * 9 + 5, none⟩ = some (.int .i64 q5) ∧ wr.cell? ⟨b, off + k * 9 + 6, none⟩ = some (.int .i64 q6) ∧ wr.cell? ⟨b, off + k * 9 + 7, none⟩ = some (.string r7) ∧ wr.cell? ⟨b, off + k * 9 + 8, none⟩ = some (.string r8) := ⟨x0, x1, x2, x3, x4, x5, x6, x7, x8, y0, y1, y2, y3, y4, y5, y6, y7, y8⟩
                  go_wp2_with fail
                  refine wp_region_noPanic ?_
                  refine wp_region_held_drew (S := fun W => W.cell? ⟨b, off + j * 9, none⟩ = some (.int .i64 k0) ∧ W.cell? ⟨b, off + j * 9 + 1, none⟩ = some (.int .i64 k1) ∧ W.cell? ⟨b, off + j * 9 + 2, none⟩ = some (.int .i64 k2) ∧ W.cell? ⟨b, off + j * 9 + 3, none⟩ = some (.int .i64 k3) ∧ W.cell? ⟨b, off + j * 9 + 4, none⟩ = some (.int .i64 k4) ∧ W.cell? ⟨b, off + j * 9 + 5, none⟩ = some (.int .i64 k5) ∧ W.cell? ⟨b, off + j * 9 + 6, none⟩ = some (.int .i64 k6) ∧ W.cell? ⟨b, off + j * 9 + 7, none⟩ = some (.string s7) ∧ W.cell? ⟨b, off + j * 9 + 8, none⟩ = some (.string s8) ∧ W.cell? ⟨b, off + k * 9, none⟩ = some (.int .i64 q0) ∧ W.cell? ⟨b, off + k * 9 + 1, none⟩ = some (.int .i64 q1) ∧ W.cell? ⟨b, off + k * 9 + 2, none⟩ = some (.int .i64 q2) ∧ W.cell? ⟨b, off + k * 9 + 3, none⟩ = some (.int .i64 q3) ∧ W.cell? ⟨b, off + k * 9 + 4, none⟩ = some (.int .i64 q4) ∧ W.cell? ⟨b, off + k * 9 + 5, none⟩ = some (.int .i64 q5) ∧ W.cell? ⟨b, off + k * 9 + 6, none⟩ = some (.int .i64 q6) ∧ W.cell? ⟨b, off + k * 9 + 7, none⟩ = some (.string r7) ∧ W.cell? ⟨b, off + k * 9 + 8, none⟩ = some (.string r8)) (by kernel_rfl) (by first | exact trivial | assumption | exact ⟨by assumption, by assumption⟩) (fun hHeld => ?_)
                  refine take_at (i := 0) (v := ?_) rfl rfl (by kernel_rfl) (by kernel_rfl) (by kernel_rfl) (fun _ _ _ h => h) (Or.inl ⟨by rfl, ?_⟩) (by assumption) ?_
                  rotate_left
                  · intro w hSw; (try dsimp only at hSw); go_simp; try with_reducible rfl
                  try simp only [Act.put, List.setIfInBounds_toArray, List.set_cons_zero, List.set_cons_succ]
                  refine take_at (i := 1) (v := ?_) rfl rfl (by kernel_rfl) (by kernel_rfl) (by kernel_rfl) (fun _ _ _ h => h) (Or.inl ⟨by rfl, ?_⟩) (by assumption) ?_
                  rotate_left
                  · intro w hSw; (try dsimp only at hSw); go_simp; try with_reducible rfl
                  try simp only [Act.put, List.setIfInBounds_toArray, List.set_cons_zero, List.set_cons_succ]
                  refine take_at (i := 2) (v := ?_) rfl rfl (by kernel_rfl) (by kernel_rfl) (by kernel_rfl) (fun _ _ _ h => h) (Or.inl ⟨by rfl, ?_⟩) (by assumption) ?_
                  rotate_left
                  · intro w hSw; (try dsimp only at hSw); go_simp; try with_reducible rfl
                  try simp only [Act.put, List.setIfInBounds_toArray, List.set_cons_zero, List.set_cons_succ]
                  refine take_at (i := 3) (v := ?_) rfl rfl (by kernel_rfl) (by kernel_rfl) (by kernel_rfl) (fun _ _ _ h => h) (Or.inl ⟨by rfl, ?_⟩) (by assumption) ?_
                  rotate_left
                  · intro w hSw; (try dsimp only at hSw); go_simp; try with_reducible rfl
                  try simp only [Act.put, List.setIfInBounds_toArray, List.set_cons_zero, List.set_cons_succ]
                  refine take_at (i := 4) (v := ?_) rfl rfl (by kernel_rfl) (by kernel_rfl) (by kernel_rfl) (fun _ _ _ h => h) (Or.inl ⟨by rfl, ?_⟩) (by assumption) ?_
                  rotate_left
                  · intro w hSw; (try dsimp only at hSw); go_simp; try with_reducible rfl
                  try simp only [Act.put, List.setIfInBounds_toArray, List.set_cons_zero, List.set_cons_succ]
                  refine take_at (i := 5) (v := ?_) rfl rfl (by kernel_rfl) (by kernel_rfl) (by kernel_rfl) (fun _ _ _ h => h) (Or.inl ⟨by rfl, ?_⟩) (by assumption) ?_
                  rotate_left
                  · intro w hSw; (try dsimp only at hSw); go_simp; try with_reducible rfl
                  try simp only [Act.put, List.setIfInBounds_toArray, List.set_cons_zero, List.set_cons_succ]
                  refine take_at (i := 6) (v := ?_) rfl rfl (by kernel_rfl) (by kernel_rfl) (by kernel_rfl) (fun _ _ _ h => h) (Or.inl ⟨by rfl, ?_⟩) (by assumption) ?_
                  rotate_left
                  · intro w hSw; (try dsimp only at hSw); go_simp; try with_reducible rfl
                  try simp only [Act.put, List.setIfInBounds_toArray, List.set_cons_zero, List.set_cons_succ]
                  refine take_at (i := 7) (v := ?_) rfl rfl (by kernel_rfl) (by kernel_rfl) (by kernel_rfl) (fun _ _ _ h => h) (Or.inl ⟨by rfl, ?_⟩) (by assumption) ?_
                  rotate_left
                  · intro w hSw; (try dsimp only at hSw); go_simp; try with_reducible rfl
                  try simp only [Act.put, List.setIfInBounds_toArray, List.set_cons_zero, List.set_cons_succ]
                  refine take_at (i := 8) (v := ?_) rfl rfl (by kernel_rfl) (by kernel_rfl) (by kernel_rfl) (fun _ _ _ h => h) (Or.inl ⟨by rfl, ?_⟩) (by assumption) ?_
                  rotate_left
                  · intro w hSw; (try dsimp only at hSw); go_simp; try with_reducible rfl
                  try simp only [Act.put, List.setIfInBounds_toArray, List.set_cons_zero, List.set_cons_succ]
                  refine take_at (i := 9) (v := ?_) rfl rfl (by kernel_rfl) (by kernel_rfl) (by kernel_rfl) (fun _ _ _ h => h) (Or.inl ⟨by rfl, ?_⟩) (by assumption) ?_
                  rotate_left
                  · intro w hSw; (try dsimp only at hSw); go_simp; try with_reducible rfl
                  try simp only [Act.put, List.setIfInBounds_toArray, List.set_cons_zero, List.set_cons_succ]
                  refine take_at (i := 10) (v := ?_) rfl rfl (by kernel_rfl) (by kernel_rfl) (by kernel_rfl) (fun _ _ _ h => h) (Or.inl ⟨by rfl, ?_⟩) (by assumption) ?_
                  rotate_left
                  · intro w hSw; (try dsimp only at hSw); go_simp; try with_reducible rfl
                  try simp only [Act.put, List.setIfInBounds_toArray, List.set_cons_zero, List.set_cons_succ]
                  refine take_at (i := 11) (v := ?_) rfl rfl (by kernel_rfl) (by kernel_rfl) (by kernel_rfl) (fun _ _ _ h => h) (Or.inl ⟨by rfl, ?_⟩) (by assumption) ?_
                  rotate_left
                  · intro w hSw; (try dsimp only at hSw); go_simp; try with_reducible rfl
                  try simp only [Act.put, List.setIfInBounds_toArray, List.set_cons_zero, List.set_cons_succ]
                  refine take_at (i := 12) (v := ?_) rfl rfl (by kernel_rfl) (by kernel_rfl) (by kernel_rfl) (fun _ _ _ h => h) (Or.inl ⟨by rfl, ?_⟩) (by assumption) ?_
                  rotate_left
                  · intro w hSw; (try dsimp only at hSw); go_simp; try with_reducible rfl
                  try simp only [Act.put, List.setIfInBounds_toArray, List.set_cons_zero, List.set_cons_succ]
                  refine take_at (i := 13) (v := ?_) rfl rfl (by kernel_rfl) (by kernel_rfl) (by kernel_rfl) (fun _ _ _ h => h) (Or.inl ⟨by rfl, ?_⟩) (by assumption) ?_
                  rotate_left
                  · intro w hSw; (try dsimp only at hSw); go_simp; try with_reducible rfl
                  try simp only [Act.put, List.setIfInBounds_toArray, List.set_cons_zero, List.set_cons_succ]
                  refine take_at (i := 14) (v := ?_) rfl rfl (by kernel_rfl) (by kernel_rfl) (by kernel_rfl) (fun _ _ _ h => h) (Or.inl ⟨by rfl, ?_⟩) (by assumption) ?_
                  rotate_left
                  · intro w hSw; (try dsimp only at hSw); go_simp; try with_reducible rfl
                  try simp only [Act.put, List.setIfInBounds_toArray, List.set_cons_zero, List.set_cons_succ]
                  refine take_at (i := 15) (v := ?_) rfl rfl (by kernel_rfl) (by kernel_rfl) (by kernel_rfl) (fun _ _ _ h => h) (Or.inl ⟨by rfl, ?_⟩) (by assumption) ?_
                  rotate_left
                  · intro w hSw; (try dsimp only at hSw); go_simp; try with_reducible rfl
                  try simp only [Act.put, List.setIfInBounds_toArray, List.set_cons_zero, List.set_cons_succ]
                  refine take_at (i := 16) (v := ?_) rfl rfl (by kernel_rfl) (by kernel_rfl) (by kernel_rfl) (fun _ _ _ h => h) (Or.inl ⟨by rfl, ?_⟩) (by assumption) ?_
                  rotate_left
                  · intro w hSw; (try dsimp only at hSw); go_simp; try with_reducible rfl
                  try simp only [Act.put, List.setIfInBounds_toArray, List.set_cons_zero, List.set_cons_succ]
                  refine take_at (i := 17) (v := ?_) rfl rfl (by kernel_rfl) (by kernel_rfl) (by kernel_rfl) (fun _ _ _ h => h) (Or.inl ⟨by rfl, ?_⟩) (by assumption) ?_
                  rotate_left
                  · intro w hSw; (try dsimp only at hSw); go_simp; try with_reducible rfl
                  try simp only [Act.put, List.setIfInBounds_toArray, List.set_cons_zero, List.set_cons_succ]
                  refine take_at (i := 18) (v := ?_) rfl rfl (by kernel_rfl) (by kernel_rfl) (by kernel_rfl) (fun _ _ _ h => h) (Or.inl ⟨by rfl, ?_⟩) (by assumption) ?_
                  rotate_left
                  · intro w hSw; (try dsimp only at hSw); go_simp; try with_reducible rfl
                  try simp only [Act.put, List.setIfInBounds_toArray, List.set_cons_zero, List.set_cons_succ]
                  refine take_at (i := 19) (v := ?_) rfl rfl (by kernel_rfl) (by kernel_rfl) (by kernel_rfl) (fun _ _ _ h => h) (Or.inl ⟨by rfl, ?_⟩) (by assumption) ?_
                  rotate_left
                  · intro w hSw; (try dsimp only at hSw); go_simp; try with_reducible rfl
                  try simp only [Act.put, List.setIfInBounds_toArray, List.set_cons_zero, List.set_cons_succ]
                  refine take_at (i := 20) (v := ?_) rfl rfl (by kernel_rfl) (by kernel_rfl) (by kernel_rfl) (fun _ _ _ h => h) (Or.inl ⟨by rfl, ?_⟩) (by assumption) ?_
                  rotate_left
                  · intro w hSw; (try dsimp only at hSw); go_simp; try with_reducible rfl
                  try simp only [Act.put, List.setIfInBounds_toArray, List.set_cons_zero, List.set_cons_succ]
                  refine take_at (i := 21) (v := ?_) rfl rfl (by kernel_rfl) (by kernel_rfl) (by kernel_rfl) (fun _ _ _ h => h) (Or.inl ⟨by rfl, ?_⟩) (by assumption) ?_
                  rotate_left
                  · intro w hSw; (try dsimp only at hSw); go_simp; try with_reducible rfl
                  try simp only [Act.put, List.setIfInBounds_toArray, List.set_cons_zero, List.set_cons_succ]
                  refine wpAnyH_done (by kernel_rfl) (NoPanic.normal ?_) _
                  have HT' : Hid (Trio w wr.drew (g1, f1, m1, none, T0) (g2, f2, m2, none, T0) (g3, f3, m3, none, T0)) := HT.out.on (Below.refl _ _).drew
                  clear HT
                  go_wp2_with fail
                  refine ⟨?_, ?_⟩
                  · first
                    | exact ⟨j + 1, by omega, by go_num, HJ', HT'⟩
                    | ((repeat apply Exists.intro); refine ⟨?_, rfl⟩; exact ⟨j + 1, by omega, by go_num, HJ', HT'⟩)
                  · simp [intOf]; omega
                · have hE2 := fun W => opEq_is (oL l j) (oL l k) false (decide_eq_false heq) W
                  obtain ⟨⟨k0, ⟨k1, k2⟩, ⟨k3, k4⟩, ⟨k5, k6⟩, s7, s8⟩, hkj⟩ : ∃ s, s = oL l j := ⟨_, rfl⟩
                  obtain ⟨⟨q0, ⟨q1, q2⟩, ⟨q3, q4⟩, ⟨q5, q6⟩, r7, r8⟩, hkk⟩ : ∃ s, s = oL l k := ⟨_, rfl⟩
                  rw [← hkj] at x0 x1 x2 x3 x4 x5 x6 x7 x8 hE
                  try rw [← hkj] at hE2
                  rw [← hkk] at y0 y1 y2 y3 y4 y5 y6 y7 y8 hE
                  try rw [← hkk] at hE2
                  try simp only [opA] at hE2
                  try simp only [stampV] at hE
                  clear hkj hkk
                  have hS0 : wr.cell? ⟨b, off + j * 9, none⟩ = some (.int .i64 k0) ∧ wr.cell? ⟨b, off + j * 9 + 1, none⟩ = some (.int .i64 k1) ∧ wr.cell? ⟨b, off + j * 9 + 2, none⟩ = some (.int .i64 k2) ∧ wr.cell? ⟨b, off + j * 9 + 3, none⟩ = some (.int .i64 k3) ∧ wr.cell? ⟨b, off + j * 9 + 4, none⟩ = some (.int .i64 k4) ∧ wr.cell? ⟨b, off + j * 9 + 5, none⟩ = some (.int .i64 k5) ∧ wr.cell? ⟨b, off + j * 9 + 6, none⟩ = some (.int .i64 k6) ∧ wr.cell? ⟨b, off + j * 9 + 7, none⟩ = some (.string s7) ∧ wr.cell? ⟨b, off + j * 9 + 8, none⟩ = some (.string s8) ∧ wr.cell? ⟨b, off + k * 9, none⟩ = some (.int .i64 q0) ∧ wr.cell? ⟨b, off + k * 9 + 1, none⟩ = some (.int .i64 q1) ∧ wr.cell? ⟨b, off + k * 9 + 2, none⟩ = some (.int .i64 q2) ∧ wr.cell? ⟨b, off + k * 9 + 3, none⟩ = some (.int .i64 q3) ∧ wr.cell? ⟨b, off + k * 9 + 4, none⟩ = some (.int .i64 q4) ∧ wr.cell? ⟨b, off + k * 9 + 5, none⟩ = some (.int .i64 q5) ∧ wr.cell? ⟨b, off + k * 9 + 6, none⟩ = some (.int .i64 q6) ∧ wr.cell? ⟨b, off + k * 9 + 7, none⟩ = some (.string r7) ∧ wr.cell? ⟨b, off + k * 9 + 8, none⟩ = some (.string r8) := ⟨x0, x1, x2, x3, x4, x5, x6, x7, x8, y0, y1, y2, y3, y4, y5, y6, y7, y8⟩
                  go_wp2_with fail
                  refine wp_region_noPanic ?_
                  refine wp_region_held_drew (S := fun W => W.cell? ⟨b, off + j * 9, none⟩ = some (.int .i64 k0) ∧ W.cell? ⟨b, off + j * 9 + 1, none⟩ = some (.int .i64 k1) ∧ W.cell? ⟨b, off + j * 9 + 2, none⟩ = some (.int .i64 k2) ∧ W.cell? ⟨b, off + j * 9 + 3, none⟩ = some (.int .i64 k3) ∧ W.cell? ⟨b, off + j * 9 + 4, none⟩ = some (.int .i64 k4) ∧ W.cell? ⟨b, off + j * 9 + 5, none⟩ = some (.int .i64 k5) ∧ W.cell? ⟨b, off + j * 9 + 6, none⟩ = some (.int .i64 k6) ∧ W.cell? ⟨b, off + j * 9 + 7, none⟩ = some (.string s7) ∧ W.cell? ⟨b, off + j * 9 + 8, none⟩ = some (.string s8) ∧ W.cell? ⟨b, off + k * 9, none⟩ = some (.int .i64 q0) ∧ W.cell? ⟨b, off + k * 9 + 1, none⟩ = some (.int .i64 q1) ∧ W.cell? ⟨b, off + k * 9 + 2, none⟩ = some (.int .i64 q2) ∧ W.cell? ⟨b, off + k * 9 + 3, none⟩ = some (.int .i64 q3) ∧ W.cell? ⟨b, off + k * 9 + 4, none⟩ = some (.int .i64 q4) ∧ W.cell? ⟨b, off + k * 9 + 5, none⟩ = some (.int .i64 q5) ∧ W.cell? ⟨b, off + k * 9 + 6, none⟩ = some (.int .i64 q6) ∧ W.cell? ⟨b, off + k * 9 + 7, none⟩ = some (.string r7) ∧ W.cell? ⟨b, off + k * 9 + 8, none⟩ = some (.string r8)) (by kernel_rfl) (by first | exact trivial | assumption | exact ⟨by assumption, by assumption⟩) (fun hHeld => ?_)
                  refine take_at (i := 0) (v := ?_) rfl rfl (by kernel_rfl) (by kernel_rfl) (by kernel_rfl) (fun _ _ _ h => h) (Or.inl ⟨by rfl, ?_⟩) (by assumption) ?_
                  rotate_left
                  · intro w hSw; (try dsimp only at hSw); go_simp; try with_reducible rfl
                  try simp only [Act.put, List.setIfInBounds_toArray, List.set_cons_zero, List.set_cons_succ]
                  refine take_at (i := 1) (v := ?_) rfl rfl (by kernel_rfl) (by kernel_rfl) (by kernel_rfl) (fun _ _ _ h => h) (Or.inl ⟨by rfl, ?_⟩) (by assumption) ?_
                  rotate_left
                  · intro w hSw; (try dsimp only at hSw); go_simp; try with_reducible rfl
                  try simp only [Act.put, List.setIfInBounds_toArray, List.set_cons_zero, List.set_cons_succ]
                  refine take_at (i := 2) (v := ?_) rfl rfl (by kernel_rfl) (by kernel_rfl) (by kernel_rfl) (fun _ _ _ h => h) (Or.inl ⟨by rfl, ?_⟩) (by assumption) ?_
                  rotate_left
                  · intro w hSw; (try dsimp only at hSw); go_simp; try with_reducible rfl
                  try simp only [Act.put, List.setIfInBounds_toArray, List.set_cons_zero, List.set_cons_succ]
                  refine take_at (i := 3) (v := ?_) rfl rfl (by kernel_rfl) (by kernel_rfl) (by kernel_rfl) (fun _ _ _ h => h) (Or.inl ⟨by rfl, ?_⟩) (by assumption) ?_
                  rotate_left
                  · intro w hSw; (try dsimp only at hSw); go_simp; try with_reducible rfl
                  try simp only [Act.put, List.setIfInBounds_toArray, List.set_cons_zero, List.set_cons_succ]
                  refine take_at (i := 4) (v := ?_) rfl rfl (by kernel_rfl) (by kernel_rfl) (by kernel_rfl) (fun _ _ _ h => h) (Or.inl ⟨by rfl, ?_⟩) (by assumption) ?_
                  rotate_left
                  · intro w hSw; (try dsimp only at hSw); go_simp; try with_reducible rfl
                  try simp only [Act.put, List.setIfInBounds_toArray, List.set_cons_zero, List.set_cons_succ]
                  refine take_at (i := 5) (v := ?_) rfl rfl (by kernel_rfl) (by kernel_rfl) (by kernel_rfl) (fun _ _ _ h => h) (Or.inl ⟨by rfl, ?_⟩) (by assumption) ?_
                  rotate_left
                  · intro w hSw; (try dsimp only at hSw); go_simp; try with_reducible rfl
                  try simp only [Act.put, List.setIfInBounds_toArray, List.set_cons_zero, List.set_cons_succ]
                  refine take_at (i := 6) (v := ?_) rfl rfl (by kernel_rfl) (by kernel_rfl) (by kernel_rfl) (fun _ _ _ h => h) (Or.inl ⟨by rfl, ?_⟩) (by assumption) ?_
                  rotate_left
                  · intro w hSw; (try dsimp only at hSw); go_simp; try with_reducible rfl
                  try simp only [Act.put, List.setIfInBounds_toArray, List.set_cons_zero, List.set_cons_succ]
                  refine take_at (i := 7) (v := ?_) rfl rfl (by kernel_rfl) (by kernel_rfl) (by kernel_rfl) (fun _ _ _ h => h) (Or.inl ⟨by rfl, ?_⟩) (by assumption) ?_
                  rotate_left
                  · intro w hSw; (try dsimp only at hSw); go_simp; try with_reducible rfl
                  try simp only [Act.put, List.setIfInBounds_toArray, List.set_cons_zero, List.set_cons_succ]
                  refine take_at (i := 8) (v := ?_) rfl rfl (by kernel_rfl) (by kernel_rfl) (by kernel_rfl) (fun _ _ _ h => h) (Or.inl ⟨by rfl, ?_⟩) (by assumption) ?_
                  rotate_left
                  · intro w hSw; (try dsimp only at hSw); go_simp; try with_reducible rfl
                  try simp only [Act.put, List.setIfInBounds_toArray, List.set_cons_zero, List.set_cons_succ]
                  refine take_at (i := 9) (v := ?_) rfl rfl (by kernel_rfl) (by kernel_rfl) (by kernel_rfl) (fun _ _ _ h => h) (Or.inl ⟨by rfl, ?_⟩) (by assumption) ?_
                  rotate_left
                  · intro w hSw; (try dsimp only at hSw); go_simp; try with_reducible rfl
                  try simp only [Act.put, List.setIfInBounds_toArray, List.set_cons_zero, List.set_cons_succ]
                  refine take_at (i := 10) (v := ?_) rfl rfl (by kernel_rfl) (by kernel_rfl) (by kernel_rfl) (fun _ _ _ h => h) (Or.inl ⟨by rfl, ?_⟩) (by assumption) ?_
                  rotate_left
                  · intro w hSw; (try dsimp only at hSw); go_simp; try with_reducible rfl
                  try simp only [Act.put, List.setIfInBounds_toArray, List.set_cons_zero, List.set_cons_succ]
                  refine take_at (i := 11) (v := ?_) rfl rfl (by kernel_rfl) (by kernel_rfl) (by kernel_rfl) (fun _ _ _ h => h) (Or.inl ⟨by rfl, ?_⟩) (by assumption) ?_
                  rotate_left
                  · intro w hSw; (try dsimp only at hSw); go_simp; try with_reducible rfl
                  try simp only [Act.put, List.setIfInBounds_toArray, List.set_cons_zero, List.set_cons_succ]
                  refine take_at (i := 12) (v := ?_) rfl rfl (by kernel_rfl) (by kernel_rfl) (by kernel_rfl) (fun _ _ _ h => h) (Or.inl ⟨by rfl, ?_⟩) (by assumption) ?_
                  rotate_left
                  · intro w hSw; (try dsimp only at hSw); go_simp; try with_reducible rfl
                  try simp only [Act.put, List.setIfInBounds_toArray, List.set_cons_zero, List.set_cons_succ]
                  refine take_at (i := 13) (v := ?_) rfl rfl (by kernel_rfl) (by kernel_rfl) (by kernel_rfl) (fun _ _ _ h => h) (Or.inl ⟨by rfl, ?_⟩) (by assumption) ?_
                  rotate_left
                  · intro w hSw; (try dsimp only at hSw); go_simp; try with_reducible rfl
                  try simp only [Act.put, List.setIfInBounds_toArray, List.set_cons_zero, List.set_cons_succ]
                  refine take_at (i := 14) (v := ?_) rfl rfl (by kernel_rfl) (by kernel_rfl) (by kernel_rfl) (fun _ _ _ h => h) (Or.inl ⟨by rfl, ?_⟩) (by assumption) ?_
                  rotate_left
                  · intro w hSw; (try dsimp only at hSw); go_simp; try with_reducible rfl
                  try simp only [Act.put, List.setIfInBounds_toArray, List.set_cons_zero, List.set_cons_succ]
                  refine take_at (i := 15) (v := ?_) rfl rfl (by kernel_rfl) (by kernel_rfl) (by kernel_rfl) (fun _ _ _ h => h) (Or.inl ⟨by rfl, ?_⟩) (by assumption) ?_
                  rotate_left
                  · intro w hSw; (try dsimp only at hSw); go_simp; try with_reducible rfl
                  try simp only [Act.put, List.setIfInBounds_toArray, List.set_cons_zero, List.set_cons_succ]
                  refine take_at (i := 16) (v := ?_) rfl rfl (by kernel_rfl) (by kernel_rfl) (by kernel_rfl) (fun _ _ _ h => h) (Or.inl ⟨by rfl, ?_⟩) (by assumption) ?_
                  rotate_left
                  · intro w hSw; (try dsimp only at hSw); go_simp; try with_reducible rfl
                  try simp only [Act.put, List.setIfInBounds_toArray, List.set_cons_zero, List.set_cons_succ]
                  refine take_at (i := 17) (v := ?_) rfl rfl (by kernel_rfl) (by kernel_rfl) (by kernel_rfl) (fun _ _ _ h => h) (Or.inl ⟨by rfl, ?_⟩) (by assumption) ?_
                  rotate_left
                  · intro w hSw; (try dsimp only at hSw); go_simp; try with_reducible rfl
                  try simp only [Act.put, List.setIfInBounds_toArray, List.set_cons_zero, List.set_cons_succ]
                  refine take_at (i := 18) (v := ?_) rfl rfl (by kernel_rfl) (by kernel_rfl) (by kernel_rfl) (fun _ _ _ h => h) (Or.inl ⟨by rfl, ?_⟩) (by assumption) ?_
                  rotate_left
                  · intro w hSw; (try dsimp only at hSw); go_simp; try with_reducible rfl
                  try simp only [Act.put, List.setIfInBounds_toArray, List.set_cons_zero, List.set_cons_succ]
                  refine take_at (i := 19) (v := ?_) rfl rfl (by kernel_rfl) (by kernel_rfl) (by kernel_rfl) (fun _ _ _ h => h) (Or.inl ⟨by rfl, ?_⟩) (by assumption) ?_
                  rotate_left
                  · intro w hSw; (try dsimp only at hSw); go_simp; try with_reducible rfl
                  try simp only [Act.put, List.setIfInBounds_toArray, List.set_cons_zero, List.set_cons_succ]
                  refine take_at (i := 20) (v := ?_) rfl rfl (by kernel_rfl) (by kernel_rfl) (by kernel_rfl) (fun _ _ _ h => h) (Or.inl ⟨by rfl, ?_⟩) (by assumption) ?_
                  rotate_left
                  · intro w hSw; (try dsimp only at hSw); go_simp; try with_reducible rfl
                  try simp only [Act.put, List.setIfInBounds_toArray, List.set_cons_zero, List.set_cons_succ]
                  refine take_at (i := 21) (v := ?_) rfl rfl (by kernel_rfl) (by kernel_rfl) (by kernel_rfl) (fun _ _ _ h => h) (Or.inl ⟨by rfl, ?_⟩) (by assumption) ?_
                  rotate_left
                  · intro w hSw; (try dsimp only at hSw); go_simp; try with_reducible rfl
                  try simp only [Act.put, List.setIfInBounds_toArray, List.set_cons_zero, List.set_cons_succ]
                  refine wpAnyH_done (by kernel_rfl) (NoPanic.normal ?_) _
                  have HB : Hid (Below w.heap.size w wr.drew) := HT.out.a.bel.drew
                  have CWx : Hid (Calls _ _ _ _ _) := CW.out wr.drew HB.out
                  clear HT CW
                  go_wp2_with fail
                  refine CWx.out.mono ?_
                  rintro e w5 ⟨rfl, hb5⟩
                  have hB5 := below_step HB.out (Nat.le_refl _) hb5
                  clear CWx hb5 HB
                  go_wp2_with fail
                  go_ret
                  exact ⟨rfl, hB5⟩
              · have hE := fun W => stampEq_is (oL l j).2.1 (oL l k).2.1 false (decide_eq_false hat) W
                have HJ' : Hid (∀ j', j' < j + 1 → (oL l j').2.1 = (oL l k).2.1 → oL l j' = oL l k) := fun j' hj' he => by
                  by_cases e : j' = j
                  · subst e; exact absurd he hat
                  · exact HJ.out j' (by omega) he
                have hE2 : True := trivial
                obtain ⟨⟨k0, ⟨k1, k2⟩, ⟨k3, k4⟩, ⟨k5, k6⟩, s7, s8⟩, hkj⟩ : ∃ s, s = oL l j := ⟨_, rfl⟩
                obtain ⟨⟨q0, ⟨q1, q2⟩, ⟨q3, q4⟩, ⟨q5, q6⟩, r7, r8⟩, hkk⟩ : ∃ s, s = oL l k := ⟨_, rfl⟩
                rw [← hkj] at x0 x1 x2 x3 x4 x5 x6 x7 x8 hE
                try rw [← hkj] at hE2
                rw [← hkk] at y0 y1 y2 y3 y4 y5 y6 y7 y8 hE
                try rw [← hkk] at hE2
                try simp only [opA] at hE2
                try simp only [stampV] at hE
                clear hkj hkk
                have hS0 : wr.cell? ⟨b, off + j * 9, none⟩ = some (.int .i64 k0) ∧ wr.cell? ⟨b, off + j * 9 + 1, none⟩ = some (.int .i64 k1) ∧ wr.cell? ⟨b, off + j * 9 + 2, none⟩ = some (.int .i64 k2) ∧ wr.cell? ⟨b, off + j * 9 + 3, none⟩ = some (.int .i64 k3) ∧ wr.cell? ⟨b, off + j * 9 + 4, none⟩ = some (.int .i64 k4) ∧ wr.cell? ⟨b, off + j * 9 + 5, none⟩ = some (.int .i64 k5) ∧ wr.cell? ⟨b, off + j * 9 + 6, none⟩ = some (.int .i64 k6) ∧ wr.cell? ⟨b, off + j * 9 + 7, none⟩ = some (.string s7) ∧ wr.cell? ⟨b, off + j * 9 + 8, none⟩ = some (.string s8) ∧ wr.cell? ⟨b, off + k * 9, none⟩ = some (.int .i64 q0) ∧ wr.cell? ⟨b, off + k * 9 + 1, none⟩ = some (.int .i64 q1) ∧ wr.cell? ⟨b, off + k * 9 + 2, none⟩ = some (.int .i64 q2) ∧ wr.cell? ⟨b, off + k * 9 + 3, none⟩ = some (.int .i64 q3) ∧ wr.cell? ⟨b, off + k * 9 + 4, none⟩ = some (.int .i64 q4) ∧ wr.cell? ⟨b, off + k * 9 + 5, none⟩ = some (.int .i64 q5) ∧ wr.cell? ⟨b, off + k * 9 + 6, none⟩ = some (.int .i64 q6) ∧ wr.cell? ⟨b, off + k * 9 + 7, none⟩ = some (.string r7) ∧ wr.cell? ⟨b, off + k * 9 + 8, none⟩ = some (.string r8) := ⟨x0, x1, x2, x3, x4, x5, x6, x7, x8, y0, y1, y2, y3, y4, y5, y6, y7, y8⟩
                go_wp2_with fail
                refine wp_region_noPanic ?_
                refine wp_region_held_drew (S := fun W => W.cell? ⟨b, off + j * 9, none⟩ = some (.int .i64 k0) ∧ W.cell? ⟨b, off + j * 9 + 1, none⟩ = some (.int .i64 k1) ∧ W.cell? ⟨b, off + j * 9 + 2, none⟩ = some (.int .i64 k2) ∧ W.cell? ⟨b, off + j * 9 + 3, none⟩ = some (.int .i64 k3) ∧ W.cell? ⟨b, off + j * 9 + 4, none⟩ = some (.int .i64 k4) ∧ W.cell? ⟨b, off + j * 9 + 5, none⟩ = some (.int .i64 k5) ∧ W.cell? ⟨b, off + j * 9 + 6, none⟩ = some (.int .i64 k6) ∧ W.cell? ⟨b, off + j * 9 + 7, none⟩ = some (.string s7) ∧ W.cell? ⟨b, off + j * 9 + 8, none⟩ = some (.string s8) ∧ W.cell? ⟨b, off + k * 9, none⟩ = some (.int .i64 q0) ∧ W.cell? ⟨b, off + k * 9 + 1, none⟩ = some (.int .i64 q1) ∧ W.cell? ⟨b, off + k * 9 + 2, none⟩ = some (.int .i64 q2) ∧ W.cell? ⟨b, off + k * 9 + 3, none⟩ = some (.int .i64 q3) ∧ W.cell? ⟨b, off + k * 9 + 4, none⟩ = some (.int .i64 q4) ∧ W.cell? ⟨b, off + k * 9 + 5, none⟩ = some (.int .i64 q5) ∧ W.cell? ⟨b, off + k * 9 + 6, none⟩ = some (.int .i64 q6) ∧ W.cell? ⟨b, off + k * 9 + 7, none⟩ = some (.string r7) ∧ W.cell? ⟨b, off + k * 9 + 8, none⟩ = some (.string r8)) (by kernel_rfl) (by first | exact trivial | assumption | exact ⟨by assumption, by assumption⟩) (fun hHeld => ?_)
                refine take_at (i := 0) (v := ?_) rfl rfl (by kernel_rfl) (by kernel_rfl) (by kernel_rfl) (fun _ _ _ h => h) (Or.inl ⟨by rfl, ?_⟩) (by assumption) ?_
                rotate_left
                · intro w hSw; (try dsimp only at hSw); go_simp; try with_reducible rfl
                try simp only [Act.put, List.setIfInBounds_toArray, List.set_cons_zero, List.set_cons_succ]
                refine take_at (i := 1) (v := ?_) rfl rfl (by kernel_rfl) (by kernel_rfl) (by kernel_rfl) (fun _ _ _ h => h) (Or.inl ⟨by rfl, ?_⟩) (by assumption) ?_
                rotate_left
                · intro w hSw; (try dsimp only at hSw); go_simp; try with_reducible rfl
                try simp only [Act.put, List.setIfInBounds_toArray, List.set_cons_zero, List.set_cons_succ]
                refine take_at (i := 2) (v := ?_) rfl rfl (by kernel_rfl) (by kernel_rfl) (by kernel_rfl) (fun _ _ _ h => h) (Or.inl ⟨by rfl, ?_⟩) (by assumption) ?_
                rotate_left
                · intro w hSw; (try dsimp only at hSw); go_simp; try with_reducible rfl
                try simp only [Act.put, List.setIfInBounds_toArray, List.set_cons_zero, List.set_cons_succ]
                refine take_at (i := 3) (v := ?_) rfl rfl (by kernel_rfl) (by kernel_rfl) (by kernel_rfl) (fun _ _ _ h => h) (Or.inl ⟨by rfl, ?_⟩) (by assumption) ?_
                rotate_left
                · intro w hSw; (try dsimp only at hSw); go_simp; try with_reducible rfl
                try simp only [Act.put, List.setIfInBounds_toArray, List.set_cons_zero, List.set_cons_succ]
                refine take_at (i := 4) (v := ?_) rfl rfl (by kernel_rfl) (by kernel_rfl) (by kernel_rfl) (fun _ _ _ h => h) (Or.inl ⟨by rfl, ?_⟩) (by assumption) ?_
                rotate_left
                · intro w hSw; (try dsimp only at hSw); go_simp; try with_reducible rfl
                try simp only [Act.put, List.setIfInBounds_toArray, List.set_cons_zero, List.set_cons_succ]
                refine take_at (i := 5) (v := ?_) rfl rfl (by kernel_rfl) (by kernel_rfl) (by kernel_rfl) (fun _ _ _ h => h) (Or.inl ⟨by rfl, ?_⟩) (by assumption) ?_
                rotate_left
                · intro w hSw; (try dsimp only at hSw); go_simp; try with_reducible rfl
                try simp only [Act.put, List.setIfInBounds_toArray, List.set_cons_zero, List.set_cons_succ]
                refine take_at (i := 6) (v := ?_) rfl rfl (by kernel_rfl) (by kernel_rfl) (by kernel_rfl) (fun _ _ _ h => h) (Or.inl ⟨by rfl, ?_⟩) (by assumption) ?_
                rotate_left
                · intro w hSw; (try dsimp only at hSw); go_simp; try with_reducible rfl
                try simp only [Act.put, List.setIfInBounds_toArray, List.set_cons_zero, List.set_cons_succ]
                refine take_at (i := 7) (v := ?_) rfl rfl (by kernel_rfl) (by kernel_rfl) (by kernel_rfl) (fun _ _ _ h => h) (Or.inl ⟨by rfl, ?_⟩) (by assumption) ?_
                rotate_left
                · intro w hSw; (try dsimp only at hSw); go_simp; try with_reducible rfl
                try simp only [Act.put, List.setIfInBounds_toArray, List.set_cons_zero, List.set_cons_succ]
                refine take_at (i := 8) (v := ?_) rfl rfl (by kernel_rfl) (by kernel_rfl) (by kernel_rfl) (fun _ _ _ h => h) (Or.inl ⟨by rfl, ?_⟩) (by assumption) ?_
                rotate_left
                · intro w hSw; (try dsimp only at hSw); go_simp; try with_reducible rfl
                try simp only [Act.put, List.setIfInBounds_toArray, List.set_cons_zero, List.set_cons_succ]
                refine take_at (i := 9) (v := ?_) rfl rfl (by kernel_rfl) (by kernel_rfl) (by kernel_rfl) (fun _ _ _ h => h) (Or.inl ⟨by rfl, ?_⟩) (by assumption) ?_
                rotate_left
                · intro w hSw; (try dsimp only at hSw); go_simp; try with_reducible rfl
                try simp only [Act.put, List.setIfInBounds_toArray, List.set_cons_zero, List.set_cons_succ]
                refine take_at (i := 10) (v := ?_) rfl rfl (by kernel_rfl) (by kernel_rfl) (by kernel_rfl) (fun _ _ _ h => h) (Or.inl ⟨by rfl, ?_⟩) (by assumption) ?_
                rotate_left
                · intro w hSw; (try dsimp only at hSw); go_simp; try with_reducible rfl
                try simp only [Act.put, List.setIfInBounds_toArray, List.set_cons_zero, List.set_cons_succ]
                refine take_at (i := 11) (v := ?_) rfl rfl (by kernel_rfl) (by kernel_rfl) (by kernel_rfl) (fun _ _ _ h => h) (Or.inl ⟨by rfl, ?_⟩) (by assumption) ?_
                rotate_left
                · intro w hSw; (try dsimp only at hSw); go_simp; try with_reducible rfl
                try simp only [Act.put, List.setIfInBounds_toArray, List.set_cons_zero, List.set_cons_succ]
                refine take_at (i := 12) (v := undef) rfl rfl (by kernel_rfl) (by kernel_rfl) (by kernel_rfl) (fun _ _ _ h => h) (Or.inr ⟨by rfl, rfl⟩) (by assumption) ?_
                try simp only [Act.put, List.setIfInBounds_toArray, List.set_cons_zero, List.set_cons_succ]
                refine take_at (i := 13) (v := undef) rfl rfl (by kernel_rfl) (by kernel_rfl) (by kernel_rfl) (fun _ _ _ h => h) (Or.inr ⟨by rfl, rfl⟩) (by assumption) ?_
                try simp only [Act.put, List.setIfInBounds_toArray, List.set_cons_zero, List.set_cons_succ]
                refine take_at (i := 14) (v := undef) rfl rfl (by kernel_rfl) (by kernel_rfl) (by kernel_rfl) (fun _ _ _ h => h) (Or.inr ⟨by rfl, rfl⟩) (by assumption) ?_
                try simp only [Act.put, List.setIfInBounds_toArray, List.set_cons_zero, List.set_cons_succ]
                refine take_at (i := 15) (v := undef) rfl rfl (by kernel_rfl) (by kernel_rfl) (by kernel_rfl) (fun _ _ _ h => h) (Or.inr ⟨by rfl, rfl⟩) (by assumption) ?_
                try simp only [Act.put, List.setIfInBounds_toArray, List.set_cons_zero, List.set_cons_succ]
                refine take_at (i := 16) (v := undef) rfl rfl (by kernel_rfl) (by kernel_rfl) (by kernel_rfl) (fun _ _ _ h => h) (Or.inr ⟨by rfl, rfl⟩) (by assumption) ?_
                try simp only [Act.put, List.setIfInBounds_toArray, List.set_cons_zero, List.set_cons_succ]
                refine take_at (i := 17) (v := undef) rfl rfl (by kernel_rfl) (by kernel_rfl) (by kernel_rfl) (fun _ _ _ h => h) (Or.inr ⟨by rfl, rfl⟩) (by assumption) ?_
                try simp only [Act.put, List.setIfInBounds_toArray, List.set_cons_zero, List.set_cons_succ]
                refine take_at (i := 18) (v := undef) rfl rfl (by kernel_rfl) (by kernel_rfl) (by kernel_rfl) (fun _ _ _ h => h) (Or.inr ⟨by rfl, rfl⟩) (by assumption) ?_
                try simp only [Act.put, List.setIfInBounds_toArray, List.set_cons_zero, List.set_cons_succ]
                refine take_at (i := 19) (v := undef) rfl rfl (by kernel_rfl) (by kernel_rfl) (by kernel_rfl) (fun _ _ _ h => h) (Or.inr ⟨by rfl, rfl⟩) (by assumption) ?_
                try simp only [Act.put, List.setIfInBounds_toArray, List.set_cons_zero, List.set_cons_succ]
                refine take_at (i := 20) (v := undef) rfl rfl (by kernel_rfl) (by kernel_rfl) (by kernel_rfl) (fun _ _ _ h => h) (Or.inr ⟨by rfl, rfl⟩) (by assumption) ?_
                try simp only [Act.put, List.setIfInBounds_toArray, List.set_cons_zero, List.set_cons_succ]
                refine take_at (i := 21) (v := ?_) rfl rfl (by kernel_rfl) (by kernel_rfl) (by kernel_rfl) (fun _ _ _ h => h) (Or.inl ⟨by rfl, ?_⟩) (by assumption) ?_
                rotate_left
                · intro w hSw; (try dsimp only at hSw); go_simp; try with_reducible rfl
                try simp only [Act.put, List.setIfInBounds_toArray, List.set_cons_zero, List.set_cons_succ]
                refine wpAnyH_done (by kernel_rfl) (NoPanic.normal ?_) _
                have HT' : Hid (Trio w wr.drew (g1, f1, m1, none, T0) (g2, f2, m2, none, T0) (g3, f3, m3, none, T0)) := HT.out.on (Below.refl _ _).drew
                clear HT
                go_wp2_with fail
                refine ⟨?_, ?_⟩
                · first
                  | exact ⟨j + 1, by omega, by go_num, HJ', HT'⟩
                  | ((repeat apply Exists.intro); refine ⟨?_, rfl⟩; exact ⟨j + 1, by omega, by go_num, HJ', HT'⟩)
                · simp [intOf]; omega
            · obtain rfl : j = k := by omega
              have b1 : ¬ ((j : Int) < (j : Int)) := by omega
              have HO' : Hid (∀ i, i < j + 1 → ∀ j', j' < i → (oL l j').2.1 = (oL l i).2.1 → oL l j' = oL l i) := fun i hi j' hj' he => by
                by_cases e : i = j
                · subst e; exact HJ.out j' hj' he
                · exact HO.out i (by omega) j' hj' he
              clear HJ HO
              go_wp2_with fail
              refine ⟨?_, ?_⟩
              · first
                | exact ⟨j + 1, by omega, by go_num, HO', HT⟩
                | ((repeat apply Exists.intro); refine ⟨?_, rfl⟩; exact ⟨j + 1, by omega, by go_num, HO', HT⟩)
              · simp [intOf]; omega
        · obtain rfl : k = n := by omega
          have b0 : ¬ ((k : Int) < (k : Int)) := by omega
          have HOne : Hid (∀ x ∈ l, ∀ y ∈ l, x.2.1 = y.2.1 → x = y) := fun x hx y hy he => by
            obtain ⟨i, hi, rfl⟩ := mem_oL l x hx
            obtain ⟨j, hj, rfl⟩ := mem_oL l y hy
            rw [HN.out] at hi hj
            rcases Nat.lt_trichotomy i j with h | h | h
            · exact HO.out j hj i h he
            · rw [h]
            · exact (HO.out i hi j h he.symm).symm
          obtain ⟨n, hnk⟩ : ∃ n, n = k := ⟨_, rfl⟩
          rw [← hnk] at hm' hn b00 b01 HI HN ⊢
          have HTz : Hid (Trio w wr (g1, f1, m1, none, playP M T0 (l.take 0)) (g2, f2, m2, none, playP M T0 (rotL l t n 0)) (g3, f3, m3, none, playP M T0 (revL l n 0))) := HT.out
          clear hnk b0 hlt hk HO HT
          go_wp2_with fail
          go_loopw [11] (fun i wr => ∃ (k : Nat) (r1 r2 r3 : Option Nat), k ≤ n ∧ i = .int .i64 k ∧ Hid (Trio w wr (g1, f1, m1, r1, playP M T0 (l.take k)) (g2, f2, m2, r2, playP M T0 (rotL l t n k)) (g3, f3, m3, r3, playP M T0 (revL l n k)))) (fun i _ => n - (intOf i).toNat)
          case atStart => exact ⟨0, none, none, none, by omega, rfl, HTz⟩
          case round =>
            clear HTz
            obtain ⟨k, r1, r2, r3, hk, rfl, HT⟩ := hrel
            by_cases hlt : k < n
            · have b0 : (k : Int) < (n : Int) := by omega
              obtain ⟨b, off, rfl, _⟩ := HI.out.2.some (by omega)
              obtain ⟨x0, x1, x2, x3, x4, x5, x6, x7, x8⟩ := (HI.out.below HT.out.a.bel).cells k hlt
              have hil : k < l.length := by rw [HN.out]; exact hlt
              have CA1 : Hid (Calls _ _ _ _ _) := apply_tr M HM.out g1 f1 m1 r1 (playP M T0 (l.take k)) (oL l k) w _ HT.out.a HG.out (by have := play_len M (l.take k) (by rw [List.length_take]; omega); omega) (light_few l 30 HF.out _ hil).1 (light_few l 30 HF.out _ hil).2
              have HSn : Hid (playP M T0 (l.take (k + 1)) = (applyP M (playP M T0 (l.take k)) (oL l k)).1) := by show _ = _; rw [take_oL l k hil, playP_snoc]
              obtain ⟨⟨k0, ⟨k1, k2⟩, ⟨k3, k4⟩, ⟨k5, k6⟩, s7, s8⟩, hkk⟩ : ∃ s, s = oL l k := ⟨_, rfl⟩
              rw [← hkk] at x0 x1 x2 x3 x4 x5 x6 x7 x8 CA1 HSn
              simp only [opA] at CA1
              obtain ⟨AT, hAT⟩ : ∃ AT, applyP M (playP M T0 (l.take k)) (k0, (k1, k2), (k3, k4), (k5, k6), s7, s8) = AT := ⟨_, rfl⟩
              rw [hAT] at CA1 HSn
              clear hkk hil hAT
              go_wp2_with fail
              refine CA1.out.mono ?_
              rintro e wn ⟨rfl, rn, hTn, hKn, hNn⟩
              have HT1 : Hid (Trio w wn (g2, f2, m2, r2, playP M T0 (rotL l t n k)) (g3, f3, m3, r3, playP M T0 (revL l n k)) (g1, f1, m1, rn, playP M T0 (l.take (k + 1)))) := by
                have h := HT.out.next hTn hKn hNn
                rw [← HSn.out] at h
                exact h.turn
              clear HT hTn hKn hNn CA1 HSn x0 x1 x2 x3 x4 x5 x6 x7 x8
              obtain ⟨r1', hr_⟩ : ∃ r1', rn = r1' := ⟨_, rfl⟩
              rw [hr_] at HT1
              clear hr_
              obtain ⟨w1', hw_⟩ : ∃ w1', wn = w1' := ⟨_, rfl⟩
              rw [hw_] at HT1 ⊢
              clear hw_
              obtain ⟨jx, hjx⟩ : ∃ jx, (k + t) % n = jx := ⟨_, rfl⟩
              have hjn : jx < n := by rw [← hjx]; exact Nat.mod_lt _ (by omega)
              have hrem : Int.tmod ((k : Int) + (t : Int)) (n : Int) = (jx : Int) := by rw [← hjx, show (k : Int) + (t : Int) = ((k + t : Nat) : Int) by omega, ← Int.ofNat_tmod]
              have HRo : Hid (rotL l t n (k + 1) = rotL l t n k ++ [oL l jx]) := by show _ = _; rw [← hjx]; rfl
              clear hjx
              obtain ⟨x0, x1, x2, x3, x4, x5, x6, x7, x8⟩ := (HI.out.below HT1.out.a.bel).cells jx hjn
              have hil : jx < l.length := by rw [HN.out]; exact hjn
              have CA1 : Hid (Calls _ _ _ _ _) := apply_tr M HM.out g2 f2 m2 r2 (playP M T0 (rotL l t n k)) (oL l jx) w _ HT1.out.a HG.out (by have := play_len M (rotL l t n k) (by rw [rotL_len]; omega); omega) (light_few l 30 HF.out _ hil).1 (light_few l 30 HF.out _ hil).2
              have HSn : Hid (playP M T0 (rotL l t n (k + 1)) = (applyP M (playP M T0 (rotL l t n k)) (oL l jx)).1) := by show _ = _; rw [HRo.out, playP_snoc]
              obtain ⟨⟨k0, ⟨k1, k2⟩, ⟨k3, k4⟩, ⟨k5, k6⟩, s7, s8⟩, hkk⟩ : ∃ s, s = oL l jx := ⟨_, rfl⟩
              rw [← hkk] at x0 x1 x2 x3 x4 x5 x6 x7 x8 CA1 HSn
              simp only [opA] at CA1
              obtain ⟨AT, hAT⟩ : ∃ AT, applyP M (playP M T0 (rotL l t n k)) (k0, (k1, k2), (k3, k4), (k5, k6), s7, s8) = AT := ⟨_, rfl⟩
              rw [hAT] at CA1 HSn
              clear hkk hil hAT
              go_wp2_with fail
              refine CA1.out.mono ?_
              rintro e wn ⟨rfl, rn, hTn, hKn, hNn⟩
              have HT2 : Hid (Trio w wn (g3, f3, m3, r3, playP M T0 (revL l n k)) (g1, f1, m1, r1', playP M T0 (l.take (k + 1))) (g2, f2, m2, rn, playP M T0 (rotL l t n (k + 1)))) := by
                have h := HT1.out.next hTn hKn hNn
                rw [← HSn.out] at h
                exact h.turn
              clear HT1 hTn hKn hNn CA1 HSn x0 x1 x2 x3 x4 x5 x6 x7 x8
              obtain ⟨r2', hr_⟩ : ∃ r2', rn = r2' := ⟨_, rfl⟩
              rw [hr_] at HT2
              clear hr_
              obtain ⟨w2', hw_⟩ : ∃ w2', wn = w2' := ⟨_, rfl⟩
              rw [hw_] at HT2 ⊢
              clear hw_
              clear HRo hrem hjn
              obtain ⟨ix, hix⟩ : ∃ ix, n - 1 - k = ix := ⟨_, rfl⟩
              have hin : ix < n := by omega
              have hrev : (n : Int) - 1 - (k : Int) = (ix : Int) := by omega
              obtain ⟨LR, hLR⟩ : ∃ LR, revL l n k ++ [oL l ix] = LR := ⟨_, rfl⟩
              have HLR : Hid (revL l n k ++ [oL l ix] = LR) := hLR
              have HLS : Hid (revL l n (k + 1) = LR ++ [oL l ix]) := by show _ = _; rw [← hLR, ← hix]; rfl
              have hLl : LR.length = 2 * k + 1 := by rw [← hLR, List.length_append, revL_len]; rfl
              have HLl : Hid (LR.length = 2 * k + 1) := hLl
              clear hix hLR hLl
              obtain ⟨x0, x1, x2, x3, x4, x5, x6, x7, x8⟩ := (HI.out.below HT2.out.a.bel).cells ix hin
              have hil : ix < l.length := by rw [HN.out]; exact hin
              have CA1 : Hid (Calls _ _ _ _ _) := apply_tr M HM.out g3 f3 m3 r3 (playP M T0 (revL l n k)) (oL l ix) w _ HT2.out.a HG.out (by have := play_len M (revL l n k) (by rw [revL_len]; omega); omega) (light_few l 30 HF.out _ hil).1 (light_few l 30 HF.out _ hil).2
              have HSn : Hid (playP M T0 LR = (applyP M (playP M T0 (revL l n k)) (oL l ix)).1) := by show _ = _; rw [← HLR.out, playP_snoc]
              obtain ⟨⟨k0, ⟨k1, k2⟩, ⟨k3, k4⟩, ⟨k5, k6⟩, s7, s8⟩, hkk⟩ : ∃ s, s = oL l ix := ⟨_, rfl⟩
              rw [← hkk] at x0 x1 x2 x3 x4 x5 x6 x7 x8 CA1 HSn
              simp only [opA] at CA1
              obtain ⟨AT, hAT⟩ : ∃ AT, applyP M (playP M T0 (revL l n k)) (k0, (k1, k2), (k3, k4), (k5, k6), s7, s8) = AT := ⟨_, rfl⟩
              rw [hAT] at CA1 HSn
              clear hkk hil hAT
              go_wp2_with fail
              refine CA1.out.mono ?_
              rintro e wn ⟨rfl, rn, hTn, hKn, hNn⟩
              have HT3 : Hid (Trio w wn (g3, f3, m3, rn, playP M T0 LR) (g1, f1, m1, r1', playP M T0 (l.take (k + 1))) (g2, f2, m2, r2', playP M T0 (rotL l t n (k + 1)))) := by
                have h := HT2.out.next hTn hKn hNn
                rw [← HSn.out] at h
                exact h
              clear HT2 hTn hKn hNn CA1 HSn x0 x1 x2 x3 x4 x5 x6 x7 x8
              obtain ⟨r3', hr_⟩ : ∃ r3', rn = r3' := ⟨_, rfl⟩
              rw [hr_] at HT3
              clear hr_
              obtain ⟨w3', hw_⟩ : ∃ w3', wn = w3' := ⟨_, rfl⟩
              rw [hw_] at HT3 ⊢
              clear hw_
              obtain ⟨x0, x1, x2, x3, x4, x5, x6, x7, x8⟩ := (HI.out.below HT3.out.a.bel).cells ix hin
              have hil : ix < l.length := by rw [HN.out]; exact hin
              have CA1 : Hid (Calls _ _ _ _ _) := apply_tr M HM.out g3 f3 m3 r3' (playP M T0 LR) (oL l ix) w _ HT3.out.a HG.out (by have := play_len M LR (by rw [HLl.out]; omega); omega) (light_few l 30 HF.out _ hil).1 (light_few l 30 HF.out _ hil).2
              have HSn : Hid (playP M T0 (revL l n (k + 1)) = (applyP M (playP M T0 LR) (oL l ix)).1) := by show _ = _; rw [HLS.out, playP_snoc]
              obtain ⟨⟨k0, ⟨k1, k2⟩, ⟨k3, k4⟩, ⟨k5, k6⟩, s7, s8⟩, hkk⟩ : ∃ s, s = oL l ix := ⟨_, rfl⟩
              rw [← hkk] at x0 x1 x2 x3 x4 x5 x6 x7 x8 CA1 HSn
              simp only [opA] at CA1
              obtain ⟨AT, hAT⟩ : ∃ AT, applyP M (playP M T0 LR) (k0, (k1, k2), (k3, k4), (k5, k6), s7, s8) = AT := ⟨_, rfl⟩
              rw [hAT] at CA1 HSn
              clear hkk hil hAT
              go_wp2_with fail
              refine CA1.out.mono ?_
              rintro e wn ⟨rfl, rn, hTn, hKn, hNn⟩
              have HT4 : Hid (Trio w wn (g1, f1, m1, r1', playP M T0 (l.take (k + 1))) (g2, f2, m2, r2', playP M T0 (rotL l t n (k + 1))) (g3, f3, m3, rn, playP M T0 (revL l n (k + 1)))) := by
                have h := HT3.out.next hTn hKn hNn
                rw [← HSn.out] at h
                exact h.turn
              clear HT3 hTn hKn hNn CA1 HSn x0 x1 x2 x3 x4 x5 x6 x7 x8
              obtain ⟨r4', hr_⟩ : ∃ r4', rn = r4' := ⟨_, rfl⟩
              rw [hr_] at HT4
              clear hr_
              obtain ⟨w4', hw_⟩ : ∃ w4', wn = w4' := ⟨_, rfl⟩
              rw [hw_] at HT4 ⊢
              clear hw_
              clear HLR HLS HLl hrev hin
              go_wp2_with fail
              refine ⟨?_, ?_⟩
              · first
                | exact ⟨k + 1, r1', r2', r4', by omega, by go_num, HT4⟩
                | ((repeat apply Exists.intro); refine ⟨?_, rfl⟩; exact ⟨k + 1, r1', r2', r4', by omega, by go_num, HT4⟩)
              · simp [intOf]; omega
            · obtain rfl : k = n := by omega
              have b0 : ¬ ((k : Int) < (k : Int)) := by omega
              have hl5 : l.length ≤ 256 := by rw [HN.out]; omega
              have e1 := orders_rot M l t (by omega) HOne.out
              have e2 := orders_rev M l hl5 HOne.out
              have hlen := play_len M l (by omega)
              have HT5 := HT.out
              rw [List.take_of_length_le (show l.length ≤ k by rw [HN.out]; omega)] at HT5
              rw [HN.out] at e1 e2
              rw [← e1, ← e2] at HT5
              obtain ⟨T, hTT⟩ : ∃ T, playP M T0 l = T := ⟨_, rfl⟩
              rw [hTT] at HT5 hlen
              have hNL := nodesP_len T.1 T.2.1
              have HT6 : Hid (Trio w wr (g1, f1, m1, r1, T) (g2, f2, m2, r2, T) (g3, f3, m3, r3, T)) := HT5
              have CNo : Hid (∀ g f m r W, TreeIn W g f m r T → _) := fun g f m r W h => nodes_any g f m r T W h (by omega)
              have COp : Hid (∀ g f m r W, TreeIn W g f m r T → _) := fun g f m r W h => ops_any g f m r T W h (by omega)
              have CSN : Hid (∀ (a1 a2 : Option Addr) (c1 c2 : Nat) (W : World), NodesAt W a1 (nodesP T.1 T.2.1).length (nodesP T.1 T.2.1) → NodesAt W a2 (nodesP T.1 T.2.1).length (nodesP T.1 T.2.1) → _) := fun a1 a2 c1 c2 W h1 h2 => rsameNodes_any (nodesP T.1 T.2.1) (nodesP T.1 T.2.1) true ⟨fun _ => rfl, fun _ => rfl⟩ a1 a2 _ _ c1 c2 W (by omega) (by omega) h1 h2
              have CSO : Hid (∀ (a1 a2 : Option Addr) (c1 c2 : Nat) (W : World), OpsAt W a1 T.2.1.length T.2.1 → OpsAt W a2 T.2.1.length T.2.1 → _) := fun a1 a2 c1 c2 W h1 h2 => rsameOps_any T.2.1 T.2.1 true ⟨fun _ => rfl, fun _ => rfl⟩ a1 a2 _ _ c1 c2 W (by omega) (by omega) h1 h2
              obtain ⟨N, hNN⟩ : ∃ N, nodesP T.1 T.2.1 = N := ⟨_, rfl⟩
              obtain ⟨O, hOO⟩ : ∃ O, T.2.1 = O := ⟨_, rfl⟩
              obtain ⟨q, hq⟩ : ∃ q, N.length = q := ⟨_, rfl⟩
              obtain ⟨p, hp⟩ : ∃ p, O.length = p := ⟨_, rfl⟩
              rw [hNN, hq] at CSN
              rw [hOO, hp] at CSO
              rw [hNN] at CNo
              rw [hOO] at COp
              have HQ : Hid (N.length = q) := hq
              have HP : Hid (O.length = p) := hp
              clear e1 e2 HT HT5 hlen hNL hTT hNN hOO hq hp HOne HI HN hl5 b0 hlt hk
              have Ca1 : Hid (Calls _ _ _ _ _) := CNo.out g1 f1 m1 r1 wr HT6.out.a.tree
              go_wp2_with fail
              refine Ca1.out.mono ?_
              rintro e wa1 ⟨va1, rfl, hTa1, hOa1, hKa1⟩
              have HTa1 : Hid (Trio w wa1 (g1, f1, m1, r1, T) (g2, f2, m2, r2, T) (g3, f3, m3, r3, T)) := HT6.out.next hTa1 hKa1 (Nx.refl _ _)
              have HO1 : Hid (OwnN wa1 wr.heap.size va1 N) := hOa1
              have HBs1 : Hid (wr.heap.size ≤ wa1.heap.size ∧ ∀ j, tfoot g2 f2 m2 r2 j → j < wr.heap.size) := ⟨hKa1.size, fun j hj => HT6.out.b.tree.lt hj⟩
              clear Ca1 hTa1 hOa1 hKa1 HT6
              obtain ⟨aa1, ca1, rfl, _⟩ := OwnN.nodes HO1.out
              rw [HQ.out] at HO1 ⊢
              have Cb1 : Hid (Calls _ _ _ _ _) := CNo.out g2 f2 m2 r2 wa1 HTa1.out.b.tree
              go_wp2_with fail
              refine Cb1.out.mono ?_
              rintro e wb1 ⟨vb1, rfl, hTb1, hOb1, hKb1⟩
              have HTb1 : Hid (Trio w wb1 (g1, f1, m1, r1, T) (g2, f2, m2, r2, T) (g3, f3, m3, r3, T)) := (HTa1.out.turn.next hTb1 hKb1 (Nx.refl _ _)).turn.turn
              have HO12 : OwnN wb1 wr.heap.size (.slice aa1 q ca1) N := ownN_kept HO1.out hKb1 HBs1.out.2
              obtain ⟨ab1, cb1, rfl, hat1⟩ := OwnN.nodes hOb1
              obtain ⟨aa12, ca12, he1, hau1⟩ := OwnN.nodes HO12
              rw [HQ.out] at hat1 hau1 he1 ⊢
              cases he1
              have CS1 : Hid (Calls _ _ _ _ _) := CSN.out aa1 ab1 ca1 cb1 _ hau1 hat1
              clear Cb1 hTb1 hOb1 hKb1 HO1 HO12 hat1 hau1 HTa1 HBs1
              go_wp2_with fail
              refine CS1.out.mono ?_
              rintro e wc1 ⟨rfl, hbc1⟩
              have HTc1 : Hid (Trio w wc1 (g1, f1, m1, r1, T) (g2, f2, m2, r2, T) (g3, f3, m3, r3, T)) := HTb1.out.on hbc1
              clear CS1 hbc1 HTb1
              have Ca2 : Hid (Calls _ _ _ _ _) := CNo.out g1 f1 m1 r1 wc1 HTc1.out.a.tree
              go_wp2_with fail
              refine Ca2.out.mono ?_
              rintro e wa2 ⟨va2, rfl, hTa2, hOa2, hKa2⟩
              have HTa2 : Hid (Trio w wa2 (g1, f1, m1, r1, T) (g2, f2, m2, r2, T) (g3, f3, m3, r3, T)) := HTc1.out.next hTa2 hKa2 (Nx.refl _ _)
              have HO2 : Hid (OwnN wa2 wc1.heap.size va2 N) := hOa2
              have HBs2 : Hid (wc1.heap.size ≤ wa2.heap.size ∧ ∀ j, tfoot g3 f3 m3 r3 j → j < wc1.heap.size) := ⟨hKa2.size, fun j hj => HTc1.out.c.tree.lt hj⟩
              clear Ca2 hTa2 hOa2 hKa2 HTc1
              obtain ⟨aa2, ca2, rfl, _⟩ := OwnN.nodes HO2.out
              rw [HQ.out] at HO2 ⊢
              have Cb2 : Hid (Calls _ _ _ _ _) := CNo.out g3 f3 m3 r3 wa2 HTa2.out.c.tree
              go_wp2_with fail
              refine Cb2.out.mono ?_
              rintro e wb2 ⟨vb2, rfl, hTb2, hOb2, hKb2⟩
              have HTb2 : Hid (Trio w wb2 (g1, f1, m1, r1, T) (g2, f2, m2, r2, T) (g3, f3, m3, r3, T)) := (HTa2.out.turn.turn.next hTb2 hKb2 (Nx.refl _ _)).turn
              have HO22 : OwnN wb2 wc1.heap.size (.slice aa2 q ca2) N := ownN_kept HO2.out hKb2 HBs2.out.2
              obtain ⟨ab2, cb2, rfl, hat2⟩ := OwnN.nodes hOb2
              obtain ⟨aa22, ca22, he2, hau2⟩ := OwnN.nodes HO22
              rw [HQ.out] at hat2 hau2 he2 ⊢
              cases he2
              have CS2 : Hid (Calls _ _ _ _ _) := CSN.out aa2 ab2 ca2 cb2 _ hau2 hat2
              clear Cb2 hTb2 hOb2 hKb2 HO2 HO22 hat2 hau2 HTa2 HBs2
              go_wp2_with fail
              refine CS2.out.mono ?_
              rintro e wc2 ⟨rfl, hbc2⟩
              have HTc2 : Hid (Trio w wc2 (g1, f1, m1, r1, T) (g2, f2, m2, r2, T) (g3, f3, m3, r3, T)) := HTb2.out.on hbc2
              clear CS2 hbc2 HTb2
              have Ca3 : Hid (Calls _ _ _ _ _) := COp.out g1 f1 m1 r1 wc2 HTc2.out.a.tree
              go_wp2_with fail
              refine Ca3.out.mono ?_
              rintro e wa3 ⟨va3, rfl, hOa3, hKa3⟩
              have HTa3 : Hid (Trio w wa3 (g1, f1, m1, r1, T) (g2, f2, m2, r2, T) (g3, f3, m3, r3, T)) := HTc2.out.on hKa3
              have HO3 : Hid (OwnO wa3 wc2.heap.size va3 O) := hOa3
              have HBs3 : Hid (wc2.heap.size ≤ wa3.heap.size ∧ ∀ j, tfoot g2 f2 m2 r2 j → j < wc2.heap.size) := ⟨hKa3.size, fun j hj => HTc2.out.b.tree.lt hj⟩
              clear Ca3 hOa3 hKa3 HTc2
              obtain ⟨aa3, ca3, rfl, _⟩ := OwnO.ops HO3.out
              rw [HP.out] at HO3 ⊢
              have Cb3 : Hid (Calls _ _ _ _ _) := COp.out g2 f2 m2 r2 wa3 HTa3.out.b.tree
              go_wp2_with fail
              refine Cb3.out.mono ?_
              rintro e wb3 ⟨vb3, rfl, hOb3, hKb3⟩
              have HTb3 : Hid (Trio w wb3 (g1, f1, m1, r1, T) (g2, f2, m2, r2, T) (g3, f3, m3, r3, T)) := HTa3.out.on hKb3
              have HO32 : OwnO wb3 wc2.heap.size (.slice aa3 p ca3) O := owns_on HO3.out hKb3
              obtain ⟨ab3, cb3, rfl, hat3, _⟩ := OwnO.ops hOb3
              obtain ⟨aa32, ca32, he3, hau3, _⟩ := OwnO.ops HO32
              rw [HP.out] at hat3 hau3 he3 ⊢
              cases he3
              have CS3 : Hid (Calls _ _ _ _ _) := CSO.out aa3 ab3 ca3 cb3 _ hau3 hat3
              clear Cb3 hOb3 hKb3 HO3 HO32 hat3 hau3 HTa3 HBs3
              go_wp2_with fail
              refine CS3.out.mono ?_
              rintro e wc3 ⟨rfl, hbc3⟩
              have HTc3 : Hid (Trio w wc3 (g1, f1, m1, r1, T) (g2, f2, m2, r2, T) (g3, f3, m3, r3, T)) := HTb3.out.on hbc3
              clear CS3 hbc3 HTb3
              have Ca4 : Hid (Calls _ _ _ _ _) := COp.out g1 f1 m1 r1 wc3 HTc3.out.a.tree
              go_wp2_with fail
              refine Ca4.out.mono ?_
              rintro e wa4 ⟨va4, rfl, hOa4, hKa4⟩
              have HTa4 : Hid (Trio w wa4 (g1, f1, m1, r1, T) (g2, f2, m2, r2, T) (g3, f3, m3, r3, T)) := HTc3.out.on hKa4
              have HO4 : Hid (OwnO wa4 wc3.heap.size va4 O) := hOa4
              have HBs4 : Hid (wc3.heap.size ≤ wa4.heap.size ∧ ∀ j, tfoot g3 f3 m3 r3 j → j < wc3.heap.size) := ⟨hKa4.size, fun j hj => HTc3.out.c.tree.lt hj⟩
              clear Ca4 hOa4 hKa4 HTc3
              obtain ⟨aa4, ca4, rfl, _⟩ := OwnO.ops HO4.out
              rw [HP.out] at HO4 ⊢
              have Cb4 : Hid (Calls _ _ _ _ _) := COp.out g3 f3 m3 r3 wa4 HTa4.out.c.tree
              go_wp2_with fail
              refine Cb4.out.mono ?_
              rintro e wb4 ⟨vb4, rfl, hOb4, hKb4⟩
              have HTb4 : Hid (Trio w wb4 (g1, f1, m1, r1, T) (g2, f2, m2, r2, T) (g3, f3, m3, r3, T)) := HTa4.out.on hKb4
              have HO42 : OwnO wb4 wc3.heap.size (.slice aa4 p ca4) O := owns_on HO4.out hKb4
              obtain ⟨ab4, cb4, rfl, hat4, _⟩ := OwnO.ops hOb4
              obtain ⟨aa42, ca42, he4, hau4, _⟩ := OwnO.ops HO42
              rw [HP.out] at hat4 hau4 he4 ⊢
              cases he4
              have CS4 : Hid (Calls _ _ _ _ _) := CSO.out aa4 ab4 ca4 cb4 _ hau4 hat4
              clear Cb4 hOb4 hKb4 HO4 HO42 hat4 hau4 HTa4 HBs4
              go_wp2_with fail
              refine CS4.out.mono ?_
              rintro e wc4 ⟨rfl, hbc4⟩
              have HTc4 : Hid (Trio w wc4 (g1, f1, m1, r1, T) (g2, f2, m2, r2, T) (g3, f3, m3, r3, T)) := HTb4.out.on hbc4
              clear CS4 hbc4 HTb4
              have HB : Hid (Below w.heap.size w wc4) := HTc4.out.a.bel
              have CWx : Hid (Calls _ _ _ _ _) := CW.out wc4 HB.out
              clear HTc4 CW
              go_wp2_with fail
              refine CWx.out.mono ?_
              rintro e w5 ⟨rfl, hb5⟩
              have hB5 := below_step HB.out (Nat.le_refl _) hb5
              clear CWx hb5 HB
              go_wp2_with fail
              go_ret
              exact ⟨rfl, hB5⟩
  · have CF : Hid (Calls _ _ _ _ _) := CF0.out hF w3 HT0.out.a.bel
    clear CF1 CF0 hF
    go_wp2_with fail
    refine CF.out.mono ?_
    rintro e w4 ⟨rfl, hb4⟩
    have HB : Hid (Below w.heap.size w w4) := below_step HT0.out.a.bel (Nat.le_refl _) hb4
    have CWx : Hid (Calls _ _ _ _ _) := CW.out w4 HB.out
    clear CF hb4 CW HT0
    go_wp2_with fail
    refine CWx.out.mono ?_
    rintro e w5 ⟨rfl, hb5⟩
    have hB5 := below_step HB.out (Nat.le_refl _) hb5
    clear CWx hb5 HB
    go_wp2_with fail
    go_ret
    exact ⟨rfl, hB5⟩
end Go.Proofs.YtmfckdhincffkaaDoor
