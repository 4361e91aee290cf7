/- The walk of ClockSpent. -/
import Derived.Test.YtegbjglkglmgiaaCkD
namespace Go.Proofs.Ytegbjglkglmgiaa
open Go.RowKit
set_option linter.unusedSimpArgs false

theorem i64_and3c (n : Int) : bits .and .i64 n 3 = n % 4 := i64_mask n 2 (by decide) 3 (by decide)
theorem sp1 (p : Int) : seeP (p, 0) (1099511627774, 1) = (p, 1099511627774) := by
  unfold seeP; rw [if_pos (show MayS (1099511627774, 1) by decide +kernel)]; rfl
theorem sp2 (p : Int) : nextP10 (p, 1099511627774) = ((p, 1099511627775), (1099511627775, p), 0) := by
  unfold nextP10; rw [if_neg (show ¬ ((1099511627775 : Int) ≤ 1099511627774) by decide)]; rfl
theorem sp3 (p : Int) : nextP10 (p, 1099511627775) = ((p, 1099511627775), (0, 0), 150) := by
  unfold nextP10; rw [if_pos (show ((1099511627775 : Int) ≤ 1099511627775) by decide)]

set_option maxHeartbeats 4000000 in
set_option maxRecDepth 100000 in
theorem clockSpent_walk (t u n : Int) (W : World) :
    Calls Try.prog 7 #[.agg #[.int .i64 t, .int .i64 u], .int .i64 n] W fun e w' => e = .returned (.bool true) ∧ Below W.heap.size W w' := by
  obtain ⟨g, hg⟩ : ∃ g, g = W.heap.size := ⟨_, rfl⟩
  obtain ⟨W3, hW3⟩ : ∃ W3, W3 = ((W.alloc (.cells #[.int .i64 t, .int .i64 u] 23)).alloc (.cells #[.pointer none, .int .i64 0, .int .i64 0] 48)).alloc (.cells #[.pointer none, .pointer (some ⟨g + 1, 0, none⟩)] 30) := ⟨_, rfl⟩
  have HW : Hid (Below W.heap.size W W3) := by rw [hW3]; exact ((below_new W _).alloc (by simp) _).alloc (by simp; omega) _
  have HA : Hid (Blk W3 23 g #[.int .i64 t, .int .i64 u]) := by show Blk _ _ _ _; rw [hW3]; exact ((Blk.new' _ _ _ _ hg.symm).alloc _).alloc _
  have HO : Hid (ClockBad W3 (g + 1)) := by show Blk _ _ _ _; rw [hW3]; exact (Blk.new' _ _ _ _ (by simp [hg])).alloc _
  have HP : Hid (Blk W3 30 (g + 2) #[.pointer none, .pointer (some ⟨g + 1, 0, none⟩)]) := by show Blk _ _ _ _; rw [hW3]; exact Blk.new' _ _ _ _ (by simp [hg])
  have hEq := fun w => stampEq 0 0 0 0 w
  rw [show decide (((0, 0) : Int × Int) = (0, 0)) = true by decide] at hEq
  go_enter Try.func7, Try.ntmps7
  go_wp2_with fail
  rw [← hg, ← hW3]
  clear hW3 hg
  go_loopw [6] (fun i wr => ∃ k : Nat, k ≤ 2 ∧ i = .int .i64 k ∧ Hid (Below W3.heap.size W3 wr)) (fun i _ => 2 - (intOf i).toNat)
  case atStart => exact ⟨0, by omega, rfl, Below.refl _ _⟩
  case round =>
    obtain ⟨k, hk, rfl, HB⟩ := hrel
    by_cases hlt : k < 2
    · obtain ⟨p, hp⟩ : ∃ p, Hid (∀ w', Below W3.heap.size W3 w' → NoClock w' p ∧ w'.cell? ⟨g + 2, k, none⟩ = some p) := by
        by_cases k0 : k = 0
        · subst k0
          exact ⟨.pointer none, fun w' hb => ⟨Or.inl rfl, (HP.out.on hb).cell 0⟩⟩
        · have : k = 1 := by omega
          subst this
          exact ⟨.pointer (some ⟨g + 1, 0, none⟩), fun w' hb => ⟨Or.inr ⟨_, rfl, HO.out.on hb⟩, (HP.out.on hb).cell 1⟩⟩
      obtain ⟨n0, c0⟩ := hp.out wr HB.out
      have N0 : Hid (NoClock wr p) := n0
      clear n0
      have b0 : (k : Int) < 2 := by omega
      go_wp2_with fail
      refine (cnext_no p _ N0.out).mono ?_
      rintro e w1 ⟨rfl, hb1⟩
      have HB1 : Hid (Below W3.heap.size W3 w1) := below_step HB.out (Nat.le_refl _) hb1
      clear hb1 HB N0 c0
      rw [show stampV (0, 0) = .agg #[.int .i64 0, .int .i64 0] from rfl]
      obtain ⟨h, hh⟩ : ∃ h, h = w1.heap.size := ⟨_, rfl⟩
      obtain ⟨W4, hW4⟩ : ∃ W4, W4 = w1.alloc (.cells #[.int .i64 0, .int .i64 0] 23) := ⟨_, rfl⟩
      have HB4 : Hid (Below W3.heap.size W3 W4) := by rw [hW4]; exact below_step HB1.out (Nat.le_refl _) (below_new _ _)
      have HT4 : Hid (Blk W4 23 h #[.int .i64 0, .int .i64 0]) := by show Blk _ _ _ _; rw [hW4]; exact Blk.new' _ _ _ _ hh.symm
      go_wp2_with fail
      rw [← hh, ← hW4]
      clear hh hW4 HB1
      have HS : Hid (∀ w', Below W4.heap.size W4 w' → (w'.cell? ⟨g, 0, none⟩ = some (.int .i64 t) ∧ w'.cell? ⟨g, 1, none⟩ = some (.int .i64 u)) ∧ w'.cell? ⟨g + 2, k, none⟩ = some p ∧ w'.cell? ⟨h, 0, none⟩ = some (.int .i64 0) ∧ w'.cell? ⟨h, 1, none⟩ = some (.int .i64 0)) := by
        intro w' hb
        have hb3 := below_step HB4.out (Nat.le_refl _) hb
        exact ⟨⟨(HA.out.on hb3).cell 0, (HA.out.on hb3).cell 1⟩, (hp.out _ hb3).2, (HT4.out.on hb).cell 0, (HT4.out.on hb).cell 1⟩
      have HB : Hid (Below W4.heap.size W4 W4.drew) := (Below.refl _ _).drew
      have hS0 := HS.out _ HB.out
      refine wp_region_noPanic ?_
      refine wp_region_held_drew (S := fun w' => (w'.cell? ⟨g, 0, none⟩ = some (.int .i64 t) ∧ w'.cell? ⟨g, 1, none⟩ = some (.int .i64 u)) ∧ w'.cell? ⟨g + 2, k, none⟩ = some p ∧ w'.cell? ⟨h, 0, none⟩ = some (.int .i64 0) ∧ w'.cell? ⟨h, 1, none⟩ = some (.int .i64 0)) (by kernel_rfl) (by first | exact trivial | assumption | exact ⟨by assumption, by assumption⟩) (fun hHeld => ?_)
      refine take_at (i := 0) (v := ?_) rfl rfl (by kernel_rfl) (by kernel_rfl) (by kernel_rfl) (fun _ _ _ h => h) (Or.inl ⟨by rfl, ?_⟩) (by assumption) ?_
      rotate_left
      · intro w hSw; (try dsimp only at hSw); go_simp; try with_reducible rfl
      try simp only [Act.put, List.setIfInBounds_toArray, List.set_cons_zero, List.set_cons_succ]
      refine take_at (i := 1) (v := ?_) rfl rfl (by kernel_rfl) (by kernel_rfl) (by kernel_rfl) (fun _ _ _ h => h) (Or.inl ⟨by rfl, ?_⟩) (by assumption) ?_
      rotate_left
      · intro w hSw; (try dsimp only at hSw); go_simp; try with_reducible rfl
      try simp only [Act.put, List.setIfInBounds_toArray, List.set_cons_zero, List.set_cons_succ]
      refine take_at (i := 2) (v := ?_) rfl rfl (by kernel_rfl) (by kernel_rfl) (by kernel_rfl) (fun _ _ _ h => h) (Or.inl ⟨by rfl, ?_⟩) (by assumption) ?_
      rotate_left
      · intro w hSw; (try dsimp only at hSw); go_simp; try with_reducible rfl
      try simp only [Act.put, List.setIfInBounds_toArray, List.set_cons_zero, List.set_cons_succ]
      refine take_at (i := 3) (v := ?_) rfl rfl (by kernel_rfl) (by kernel_rfl) (by kernel_rfl) (fun _ _ _ h => h) (Or.inl ⟨by rfl, ?_⟩) (by assumption) ?_
      rotate_left
      · intro w hSw; (try dsimp only at hSw); go_simp; try with_reducible rfl
      try simp only [Act.put, List.setIfInBounds_toArray, List.set_cons_zero, List.set_cons_succ]
      refine take_at (i := 4) (v := ?_) rfl rfl (by kernel_rfl) (by kernel_rfl) (by kernel_rfl) (fun _ _ _ h => h) (Or.inl ⟨by rfl, ?_⟩) (by assumption) ?_
      rotate_left
      · intro w hSw; (try dsimp only at hSw); go_simp; try with_reducible rfl
      try simp only [Act.put, List.setIfInBounds_toArray, List.set_cons_zero, List.set_cons_succ]
      refine wpAnyH_ready (rs := [5]) (by kernel_rfl) (by simp) ?_
      refine AllReadyH.cons rfl (fun K hK => ?_) AllReadyH.nil
      go_simp
      refine (csee_no p (t, u) _ (hp.out _ (below_step HB4.out (Nat.le_refl _) HB.out)).1).mono ?_
      rintro e w2 ⟨rfl, hb2⟩
      have HB2 : Hid (Below W4.heap.size W4 w2) := below_step HB.out (Nat.le_refl _) hb2
      clear hb2 HB
      refine hK.out _ _ (HS.out _ HB2.out) (fun hHeld => ?_)
      clear hK K
      refine take_at (i := 6) (v := ?_) rfl rfl (by kernel_rfl) (by kernel_rfl) (by kernel_rfl) (fun _ _ _ h => h) (Or.inl ⟨by rfl, ?_⟩) (by assumption) ?_
      rotate_left
      · intro w hSw; (try dsimp only at hSw); go_simp; try with_reducible rfl
      try simp only [Act.put, List.setIfInBounds_toArray, List.set_cons_zero, List.set_cons_succ]
      refine take_at (i := 7) (v := ?_) rfl rfl (by kernel_rfl) (by kernel_rfl) (by kernel_rfl) (fun _ _ _ h => h) (Or.inl ⟨by rfl, ?_⟩) (by assumption) ?_
      rotate_left
      · intro w hSw; (try dsimp only at hSw); go_simp; try with_reducible rfl
      try simp only [Act.put, List.setIfInBounds_toArray, List.set_cons_zero, List.set_cons_succ]
      refine take_at (i := 8) (v := ?_) rfl rfl (by kernel_rfl) (by kernel_rfl) (by kernel_rfl) (fun _ _ _ h => h) (Or.inl ⟨by rfl, ?_⟩) (by assumption) ?_
      rotate_left
      · intro w hSw; (try dsimp only at hSw); go_simp; try with_reducible rfl
      try simp only [Act.put, List.setIfInBounds_toArray, List.set_cons_zero, List.set_cons_succ]
      refine take_at (i := 9) (v := ?_) rfl rfl (by kernel_rfl) (by kernel_rfl) (by kernel_rfl) (fun _ _ _ h => h) (Or.inl ⟨by rfl, ?_⟩) (by assumption) ?_
      rotate_left
      · intro w hSw; (try dsimp only at hSw); go_simp; try with_reducible rfl
      try simp only [Act.put, List.setIfInBounds_toArray, List.set_cons_zero, List.set_cons_succ]
      refine take_at (i := 10) (v := ?_) rfl rfl (by kernel_rfl) (by kernel_rfl) (by kernel_rfl) (fun _ _ _ h => h) (Or.inl ⟨by rfl, ?_⟩) (by assumption) ?_
      rotate_left
      · intro w hSw; (try dsimp only at hSw); go_simp; try with_reducible rfl
      try simp only [Act.put, List.setIfInBounds_toArray, List.set_cons_zero, List.set_cons_succ]
      refine take_at (i := 11) (v := ?_) rfl rfl (by kernel_rfl) (by kernel_rfl) (by kernel_rfl) (fun _ _ _ h => h) (Or.inl ⟨by rfl, ?_⟩) (by assumption) ?_
      rotate_left
      · intro w hSw; (try dsimp only at hSw); go_simp; try with_reducible rfl
      try simp only [Act.put, List.setIfInBounds_toArray, List.set_cons_zero, List.set_cons_succ]
      refine take_at (i := 12) (v := ?_) rfl rfl (by kernel_rfl) (by kernel_rfl) (by kernel_rfl) (fun _ _ _ h => h) (Or.inl ⟨by rfl, ?_⟩) (by assumption) ?_
      rotate_left
      · intro w hSw; (try dsimp only at hSw); go_simp; try with_reducible rfl
      try simp only [Act.put, List.setIfInBounds_toArray, List.set_cons_zero, List.set_cons_succ]
      refine take_at (i := 13) (v := ?_) rfl rfl (by kernel_rfl) (by kernel_rfl) (by kernel_rfl) (fun _ _ _ h => h) (Or.inl ⟨by rfl, ?_⟩) (by assumption) ?_
      rotate_left
      · intro w hSw; (try dsimp only at hSw); go_simp; try with_reducible rfl
      try simp only [Act.put, List.setIfInBounds_toArray, List.set_cons_zero, List.set_cons_succ]
      refine take_at (i := 14) (v := ?_) rfl rfl (by kernel_rfl) (by kernel_rfl) (by kernel_rfl) (fun _ _ _ h => h) (Or.inl ⟨by rfl, ?_⟩) (by assumption) ?_
      rotate_left
      · intro w hSw; (try dsimp only at hSw); go_simp; try with_reducible rfl
      try simp only [Act.put, List.setIfInBounds_toArray, List.set_cons_zero, List.set_cons_succ]
      refine take_at (i := 15) (v := ?_) rfl rfl (by kernel_rfl) (by kernel_rfl) (by kernel_rfl) (fun _ _ _ h => h) (Or.inl ⟨by rfl, ?_⟩) (by assumption) ?_
      rotate_left
      · intro w hSw; (try dsimp only at hSw); go_simp; try with_reducible rfl
      try simp only [Act.put, List.setIfInBounds_toArray, List.set_cons_zero, List.set_cons_succ]
      refine take_at (i := 16) (v := ?_) rfl rfl (by kernel_rfl) (by kernel_rfl) (by kernel_rfl) (fun _ _ _ h => h) (Or.inl ⟨by rfl, ?_⟩) (by assumption) ?_
      rotate_left
      · intro w hSw; (try dsimp only at hSw); go_simp; try with_reducible rfl
      try simp only [Act.put, List.setIfInBounds_toArray, List.set_cons_zero, List.set_cons_succ]
      refine take_at (i := 17) (v := ?_) rfl rfl (by kernel_rfl) (by kernel_rfl) (by kernel_rfl) (fun _ _ _ h => h) (Or.inl ⟨by rfl, ?_⟩) (by assumption) ?_
      rotate_left
      · intro w hSw; (try dsimp only at hSw); go_simp; try with_reducible rfl
      try simp only [Act.put, List.setIfInBounds_toArray, List.set_cons_zero, List.set_cons_succ]
      refine take_at (i := 18) (v := ?_) rfl rfl (by kernel_rfl) (by kernel_rfl) (by kernel_rfl) (fun _ _ _ h => h) (Or.inl ⟨by rfl, ?_⟩) (by assumption) ?_
      rotate_left
      · intro w hSw; (try dsimp only at hSw); go_simp; try with_reducible rfl
      try simp only [Act.put, List.setIfInBounds_toArray, List.set_cons_zero, List.set_cons_succ]
      refine take_at (i := 19) (v := ?_) rfl rfl (by kernel_rfl) (by kernel_rfl) (by kernel_rfl) (fun _ _ _ h => h) (Or.inl ⟨by rfl, ?_⟩) (by assumption) ?_
      rotate_left
      · intro w hSw; (try dsimp only at hSw); go_simp; try with_reducible rfl
      try simp only [Act.put, List.setIfInBounds_toArray, List.set_cons_zero, List.set_cons_succ]
      refine take_at (i := 20) (v := ?_) rfl rfl (by kernel_rfl) (by kernel_rfl) (by kernel_rfl) (fun _ _ _ h => h) (Or.inl ⟨by rfl, ?_⟩) (by assumption) ?_
      rotate_left
      · intro w hSw; (try dsimp only at hSw); go_simp; try with_reducible rfl
      try simp only [Act.put, List.setIfInBounds_toArray, List.set_cons_zero, List.set_cons_succ]
      refine wpAnyH_ready (rs := [21]) (by kernel_rfl) (by simp) ?_
      refine AllReadyH.cons rfl (fun K hK => ?_) AllReadyH.nil
      go_simp
      refine (cnow_no p _ (hp.out _ (below_step HB4.out (Nat.le_refl _) HB2.out)).1).mono ?_
      rintro e w3 ⟨rfl, hw3⟩
      subst hw3
      refine hK.out _ _ (HS.out _ HB2.out) (fun hHeld => ?_)
      clear hK K
      refine take_at (i := 22) (v := ?_) rfl rfl (by kernel_rfl) (by kernel_rfl) (by kernel_rfl) (fun _ _ _ h => h) (Or.inl ⟨by rfl, ?_⟩) (by assumption) ?_
      rotate_left
      · intro w hSw; (try dsimp only at hSw); go_simp; try with_reducible rfl
      try simp only [Act.put, List.setIfInBounds_toArray, List.set_cons_zero, List.set_cons_succ]
      refine take_at (i := 23) (v := ?_) rfl rfl (by kernel_rfl) (by kernel_rfl) (by kernel_rfl) (fun _ _ _ h => h) (Or.inl ⟨by rfl, ?_⟩) (by assumption) ?_
      rotate_left
      · intro w hSw; (try dsimp only at hSw); go_simp; try with_reducible rfl
      try simp only [Act.put, List.setIfInBounds_toArray, List.set_cons_zero, List.set_cons_succ]
      refine wpAnyH_done (by kernel_rfl) (NoPanic.normal ?_) _
      have HB5 : Hid (Below W3.heap.size W3 w3) := below_step HB4.out (Nat.le_refl _) HB2.out
      clear HS HT4 HB4 HB2
      go_wp2
      refine ⟨⟨k + 1, by omega, by go_num, HB5⟩, ?_⟩
      simp [intOf]; omega
    · have hk' : k = 2 := by omega
      subst hk'
      have HB3 : Hid (Below W.heap.size W wr) := below_step HW.out (Nat.le_refl _) HB.out
      clear HB HW HA HO HP
      obtain ⟨m, hm⟩ : ∃ m, bits .and .i64 n 3 = m := ⟨_, rfl⟩
      have hm0 : 0 ≤ m := by rw [← hm, i64_and3c]; omega
      have hm3 : m ≤ 3 := by rw [← hm, i64_and3c]; omega
      go_wp2_with fail
      refine (cnew_yes _ _ ⟨by omega, by omega⟩).mono ?_
      rintro e w1 ⟨rfl, h1, b1⟩
      obtain ⟨c, hc⟩ : ∃ c, c = 1 + m := ⟨_, rfl⟩
      rw [← hc] at h1
      have H1 : Hid (ClockAt w1 wr.heap.size (c, 0)) := h1
      have B1 : Hid (Below W.heap.size W w1) := below_step HB3.out (Nat.le_refl _) b1
      have L0 : Hid (W.heap.size ≤ wr.heap.size) := HB3.out.size
      clear h1 b1 HB3 hc hm hm0 hm3
      generalize wr.heap.size = g2 at *
      go_wp2_with fail
      have C1 := csee_any g2 (c, 0) (1099511627774, 1) w1 H1.out
      rw [if_pos (by decide +kernel), sp1] at C1
      refine C1.mono ?_
      clear C1
      rintro e w2 ⟨rfl, h2⟩
      have H2 : Hid (ClockAt w2 g2 (c, 1099511627774)) := h2.1
      have B2 : Hid (Below W.heap.size W w2) := B1.out.trans (h2.below W.heap.size B1.out.size L0.out)
      clear h2
      go_wp2_with fail
      have C1 := cnext_any g2 (c, 1099511627774) w2 H2.out
      rw [sp2] at C1
      refine C1.mono ?_
      clear C1
      rintro e w3 ⟨rfl, h3⟩
      have H3 : Hid (ClockAt w3 g2 (c, 1099511627775)) := h3.1
      have B3 : Hid (Below W.heap.size W w3) := B2.out.trans (h3.below W.heap.size B2.out.size L0.out)
      clear h3
      rw [show stampV ((c, (1099511627775 : Int)), ((1099511627775 : Int), c), (0 : Int)).2.1 = .agg #[.int .i64 1099511627775, .int .i64 c] from rfl]
      obtain ⟨h, hh⟩ : ∃ h, h = w3.heap.size := ⟨_, rfl⟩
      obtain ⟨w4, hw4⟩ : ∃ w4, w4 = w3.alloc (.cells #[.int .i64 1099511627775, .int .i64 c] 23) := ⟨_, rfl⟩
      have H4 : Hid (ClockAt w4 g2 (c, 1099511627775)) := by rw [hw4]; exact H3.out.on (below_new _ _)
      have B4 : Hid (Below W.heap.size W w4) := by rw [hw4]; exact below_step B3.out (Nat.le_refl _) (below_new _ _)
      have T4 : Hid (Blk w4 23 h #[.int .i64 1099511627775, .int .i64 c]) := by show Blk _ _ _ _; rw [hw4]; exact Blk.new' _ _ _ _ hh.symm
      go_wp2_with fail
      rw [← hw4, ← hh]
      clear hw4 hh
      have C1 := cnext_any g2 (c, 1099511627775) w4 H4.out
      rw [sp3] at C1
      refine C1.mono ?_
      clear C1
      rintro e w5 ⟨rfl, h5⟩
      have hne : h ≠ g2 := fun e => by
        have a := T4.out
        rw [e] at a
        have b := H4.out.1
        unfold Blk at a b
        rw [a] at b
        simp at b
      have T5 : Blk w5 23 h #[.int .i64 1099511627775, .int .i64 c] := T4.out.kept h5.2 hne (by simp)
      have H5 : Hid (ClockAt w5 g2 (c, 1099511627775)) := h5.1
      have B5 : Hid (Below W.heap.size W w5) := B4.out.trans (h5.below W.heap.size B4.out.size L0.out)
      have d0 : (w5.alloc (.cells #[.int .i64 0, .int .i64 0] 23)).cell? ⟨h, 0, none⟩ = some (.int .i64 1099511627775) := (T5.alloc _).cell 0
      clear h5 T5 T4 H4 H3 H2 H1
      rw [show stampV ((c, (1099511627775 : Int)), ((0 : Int), (0 : Int)), (150 : Int)).2.1 = .agg #[.int .i64 0, .int .i64 0] from rfl]
      have H6 : Hid (∀ w', Below w5.heap.size w5 w' → ClockAt w' g2 (c, 1099511627775)) := fun w' hb => H5.out.on hb
      go_wp2_with fail
      refine (cnow_any g2 (c, 1099511627775) _ (H6.out _ (below_new _ _))).mono ?_
      rintro e w6 ⟨rfl, hw6⟩
      subst hw6
      go_wp2_with fail
      refine (awake10 _).mono ?_
      rintro e w7 ⟨rfl, hb7⟩
      have B7 : Hid (Below W.heap.size W w7) := below_step (below_step B5.out (Nat.le_refl _) (below_new _ _)) (Nat.le_refl _) hb7
      clear hb7
      go_wp2
      go_ret
      exact ⟨rfl, B7.out⟩

theorem clockSpent_law (v0 : Value) (n : Int) (W : World) (z0 : IsStamp v0) :
    Calls Try.prog 7 #[v0, .int .i64 n] W fun e w' => e = .returned (.bool true) ∧ Below W.heap.size W w' := by
  obtain ⟨t, u, rfl, _⟩ := z0
  exact clockSpent_walk t u n W
end Go.Proofs.Ytegbjglkglmgiaa
