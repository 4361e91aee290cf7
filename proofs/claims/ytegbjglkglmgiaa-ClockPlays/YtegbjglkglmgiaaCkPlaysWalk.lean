/- The walk of ClockPlays. -/
import Derived.Test.YtegbjglkglmgiaaCkD
namespace Go.Proofs.Ytegbjglkglmgiaa
open Go.RowKit
set_option linter.unusedSimpArgs false

theorem stampEq_same (t u : Int) (w : World) : (Op.equalIn 10000 23 (.agg #[.int .i64 t, .int .i64 u]) (.agg #[.int .i64 t, .int .i64 u])).run Try.prog w = .ok true w := by
  rw [stampEq]; simp

set_option maxHeartbeats 4000000 in
set_option maxRecDepth 100000 in
theorem clockPlays_bad (who : Int) (v : Value) (W : World) (hw : ¬ (1 ≤ who ∧ who ≤ 6)) :
    Calls Try.prog 4 #[.int .i64 who, v] W fun e w' => e = .returned (.bool true) ∧ Below W.heap.size W w' := by
  by_cases h1 : who < 1
  · have g1 : decide (who < 1) = true := by simp; omega
    go_enter Try.func4, Try.ntmps4
    go_wp2_with fail
    refine (cnew_no _ _ hw).mono ?_
    rintro e w1 ⟨rfl, hw1⟩
    subst hw1
    go_wp2_with fail
    refine (awake10 _).mono ?_
    rintro e w2 ⟨rfl, hb2⟩
    have HB2 : Hid (Below w1.heap.size w1 w2) := hb2
    clear hb2
    go_wp2
    go_ret
    exact ⟨rfl, HB2.out⟩
  · have g1 : decide (who < 1) = false := by simp; omega
    have g2 : decide (6 < who) = true := by simp; omega
    go_enter Try.func4, Try.ntmps4
    go_wp2_with fail
    refine (cnew_no _ _ hw).mono ?_
    rintro e w1 ⟨rfl, hw1⟩
    subst hw1
    go_wp2_with fail
    refine (awake10 _).mono ?_
    rintro e w2 ⟨rfl, hb2⟩
    have HB2 : Hid (Below w1.heap.size w1 w2) := hb2
    clear hb2
    go_wp2
    go_ret
    exact ⟨rfl, HB2.out⟩

set_option maxHeartbeats 4000000 in
set_option maxRecDepth 100000 in
theorem clockPlays_good (who : Int) (a : Option Addr) (len cap : Nat) (l : List (Int × Int)) (W : World) (hl : StampsAt W a len l) (hlen : len ≤ maxLen) (hw : 1 ≤ who ∧ who ≤ 6) :
    Calls Try.prog 4 #[.int .i64 who, .slice a len cap] W fun e w' => e = .returned (.bool true) ∧ Below W.heap.size W w' := by
  have HL : Hid (StampsAt W a len l) := hl
  have HLen : Hid (len ≤ maxLen) := hlen
  clear hl hlen
  have g1 : decide (who < 1) = false := by simp; omega
  have g2 : decide (6 < who) = false := by simp; omega
  go_enter Try.func4, Try.ntmps4
  go_wp2_with fail
  refine (cnew_yes _ _ hw).mono ?_
  rintro e w1 ⟨rfl, h1, b1⟩
  clear hw
  obtain ⟨g, hg⟩ : ∃ g, g = W.heap.size := ⟨_, rfl⟩
  rw [← hg] at h1 ⊢
  obtain ⟨b, hb⟩ : ∃ b, b = w1.heap.size := ⟨_, rfl⟩
  have L1 := b1.size
  have hgb0 : g < b := by rw [hb]; exact h1.1.lt
  obtain ⟨W2, hW2⟩ : ∃ W2, W2 = w1.alloc (.cells #[.int .i64 who, .int .i64 0] 34) := ⟨_, rfl⟩
  have H2 : Hid (ClockAt W2 g (who, 0)) := by rw [hW2]; exact h1.on (below_new _ _)
  have Q2 : Hid (Blk W2 34 b #[.int .i64 who, .int .i64 0]) := by show Blk _ _ _ _; rw [hW2]; exact Blk.new' _ _ _ _ hb.symm
  have B2 : Hid (Below W.heap.size W W2) := by rw [hW2]; exact below_step b1 (Nat.le_refl _) (below_new _ _)
  have Lb : Hid (W.heap.size ≤ b ∧ W.heap.size ≤ g) := ⟨by omega, by omega⟩
  have hgb : ¬ (g = b) := by omega
  have hbg : ¬ (b = g) := by omega
  clear h1 b1 hgb0 L1 hg
  go_wp2_with fail
  rw [← hW2, ← hb]
  clear hW2 hb
  go_loopw [8] (fun i wr => ∃ (k : Nat) (c : Int × Int), k ≤ len ∧ k ≤ 60 ∧ i = .int .i64 k ∧ Hid (ClockAt wr g c) ∧ Hid (Blk wr 34 b #[.int .i64 c.1, .int .i64 c.2]) ∧ Hid (Below W.heap.size W wr)) (fun i _ => len - (intOf i).toNat)
  case atStart => exact ⟨0, (who, 0), Nat.zero_le _, Nat.zero_le _, rfl, H2, Q2, B2⟩
  case round =>
    clear H2 Q2 B2
    obtain ⟨k, c, hk, hk6, rfl, H, Q, B⟩ := hrel
    by_cases hlt : k < len ∧ k < 60
    · obtain ⟨hlt, hlt6⟩ := hlt
      obtain ⟨lb, off, rfl, hcl⟩ := HL.out.some (by omega)
      obtain ⟨q0, q1⟩ := hcl k hlt
      have HLC : Hid (∀ w', Below W.heap.size W w' → w'.cell? ⟨lb, off + k * 2, none⟩ = some (.int .i64 (stL l k).1) ∧ w'.cell? ⟨lb, off + k * 2 + 1, none⟩ = some (.int .i64 (stL l k).2)) := fun w' hb => ⟨by rw [hb.cell (World.block_lt_of_cell? W _ q0)]; exact q0, by rw [hb.cell (World.block_lt_of_cell? W _ q1)]; exact q1⟩
      clear hcl q0 q1
      have d0 : (k : Int) < (len : Int) := by omega
      have d6 : (k : Int) < 60 := by omega
      obtain ⟨s, hs⟩ : ∃ s, s = stL l k := ⟨_, rfl⟩
      rw [← hs] at HLC
      clear hs
      obtain ⟨t, u⟩ := s
      obtain ⟨p0, p1⟩ := HLC.out _ B.out
      obtain ⟨p, q⟩ := c
      by_cases hu : u = 0
      · subst hu
        obtain ⟨N, hN⟩ : ∃ N, nextP10 (p, q) = N := ⟨_, rfl⟩
        go_wp2_with fail
        have C1 := cnext_any g (p, q) wr H.out
        rw [hN] at C1
        obtain ⟨⟨p', q'⟩, ⟨t', u'⟩, e'⟩ := N
        refine C1.mono ?_
        clear C1
        rintro e w1 ⟨rfl, h1⟩
        have H1 : Hid (ClockAt w1 g (p', q')) := h1.1
        have Q1 : Hid (Blk w1 34 b #[.int .i64 p, .int .i64 q]) := Q.out.kept h1.2 hbg (by simp)
        have B1 : Hid (Below W.heap.size W w1) := B.out.trans (h1.below _ B.out.size Lb.out.2)
        have hq0 : Hid (-9223372036854775808 ≤ q) := by have := H.out.2; have h2 : 0 ≤ q := this.1; show _ ≤ _; omega
        clear h1 H Q B p0 p1
        rw [show stampV ((p', q'), (t', u'), e').2.1 = .agg #[.int .i64 t', .int .i64 u'] from rfl]
        have r0 : (w1.alloc (.cells #[.int .i64 t', .int .i64 u'] 23)).cell? ⟨b, 0, none⟩ = some (.int .i64 p) := (Q1.out.alloc _).cell 0
        have r1 : (w1.alloc (.cells #[.int .i64 t', .int .i64 u'] 23)).cell? ⟨b, 1, none⟩ = some (.int .i64 q) := (Q1.out.alloc _).cell 1
        go_wp2_with fail
        have C1 := rnext_any (p, q) (w1.alloc (.cells #[.int .i64 t', .int .i64 u'] 23)) hq0.out
        rw [hN] at C1
        refine C1.mono ?_
        clear C1
        rintro e w2 ⟨rfl, h2⟩
        rw [show stampV ((p', q'), (t', u'), e').1 = .agg #[.int .i64 p', .int .i64 q'] from rfl, show stampV ((p', q'), (t', u'), e').2.1 = .agg #[.int .i64 t', .int .i64 u'] from rfl]
        obtain ⟨h, hh⟩ : ∃ h, h = w1.heap.size := ⟨_, rfl⟩
        have S2 : Hid (Blk w2 23 h #[.int .i64 t', .int .i64 u']) := (Blk.new' _ _ _ _ hh.symm).on h2
        have hb1 : Hid (Below w1.heap.size w1 w2) := below_step (below_new _ _) (Nat.le_refl _) h2
        have H3 : Hid (ClockAt w2 g (p', q')) := H1.out.on hb1.out
        have Q3 : Hid (Blk w2 34 b #[.int .i64 p, .int .i64 q]) := Q1.out.on hb1.out
        have B3 : Hid (Below W.heap.size W w2) := below_step B1.out (Nat.le_refl _) hb1.out
        rw [← hh]
        clear r0 r1 hh h2 hb1 H1 Q1 B1
        have hEq := fun w => stampEq_same t' u' w
        have s0 : ((w2.alloc (.cells #[.int .i64 p', .int .i64 q'] 34)).alloc (.cells #[.int .i64 t', .int .i64 u'] 23)).cell? ⟨h, 0, none⟩ = some (.int .i64 t') := ((S2.out.alloc _).alloc _).cell 0
        have s1 : ((w2.alloc (.cells #[.int .i64 p', .int .i64 q'] 34)).alloc (.cells #[.int .i64 t', .int .i64 u'] 23)).cell? ⟨h, 1, none⟩ = some (.int .i64 u') := ((S2.out.alloc _).alloc _).cell 1
        have r0 : ((w2.alloc (.cells #[.int .i64 p', .int .i64 q'] 34)).alloc (.cells #[.int .i64 t', .int .i64 u'] 23)).cell? ⟨b, 0, none⟩ = some (.int .i64 p) := ((Q3.out.alloc _).alloc _).cell 0
        have r1 : ((w2.alloc (.cells #[.int .i64 p', .int .i64 q'] 34)).alloc (.cells #[.int .i64 t', .int .i64 u'] 23)).cell? ⟨b, 1, none⟩ = some (.int .i64 q) := ((Q3.out.alloc _).alloc _).cell 1
        have f0 := ((Q3.out.alloc (.cells #[.int .i64 p', .int .i64 q'] 34)).alloc (.cells #[.int .i64 t', .int .i64 u'] 23)).free 0
        have f1 := ((Q3.out.alloc (.cells #[.int .i64 p', .int .i64 q'] 34)).alloc (.cells #[.int .i64 t', .int .i64 u'] 23)).free 1
        obtain ⟨V, hV⟩ : ∃ V, V = (((w2.alloc (.cells #[.int .i64 p', .int .i64 q'] 34)).alloc (.cells #[.int .i64 t', .int .i64 u'] 23)).setCell ⟨b, 0, none⟩ (.int .i64 p')).setCell ⟨b, 1, none⟩ (.int .i64 q') := ⟨_, rfl⟩
        have hba : Hid (Below w2.heap.size w2 ((w2.alloc (.cells #[.int .i64 p', .int .i64 q'] 34)).alloc (.cells #[.int .i64 t', .int .i64 u'] 23))) := (below_new _ _).alloc (by simp) _
        have HV : Hid (ClockAt V g (p', q')) := by
          have h := H3.out.on hba.out
          rw [hV]; exact ⟨(h.1.other ⟨b, 0, none⟩ hgb _).other ⟨b, 1, none⟩ hgb _, h.2⟩
        have QV : Hid (Blk V 34 b #[.int .i64 p', .int .i64 q']) := by
          have h := Q3.out.on hba.out
          show Blk _ _ _ _
          rw [hV]; exact (h.setAt 0 _).setAt 1 _
        have BV : Hid (Below W.heap.size W V) := by
          have h := below_step B3.out (Nat.le_refl _) hba.out
          rw [hV]; exact (h.setCell (p := ⟨b, 0, none⟩) Lb.out.1 _).setCell (p := ⟨b, 1, none⟩) Lb.out.1 _
        go_wp2_with fail
        rw [← hV]
        clear hV hba H3 Q3 B3 S2 s0 s1 r0 r1 f0 f1
        have HS : Hid (∀ w', Below V.heap.size V w' → w'.cell? ⟨b, 1, none⟩ = some (.int .i64 q')) := fun w' hb => (QV.out.on hb).cell 1
        have hS0 := HS.out _ (Below.refl V.heap.size V).drew
        refine wp_region_noPanic ?_
        refine wp_region_held_drew (S := fun w' => w'.cell? ⟨b, 1, none⟩ = some (.int .i64 q')) (by kernel_rfl) (by first | exact trivial | assumption | exact ⟨by assumption, by assumption⟩) (fun hHeld => ?_)
        refine take_at (i := 0) (v := ?_) rfl rfl (by kernel_rfl) (by kernel_rfl) (by kernel_rfl) (fun _ _ _ h => h) (Or.inl ⟨by rfl, ?_⟩) (by assumption) ?_
        rotate_left
        · intro w hSw; (try dsimp only at hSw); go_simp; try with_reducible rfl
        try simp only [Act.put, List.setIfInBounds_toArray, List.set_cons_zero, List.set_cons_succ]
        refine take_at (i := 2) (v := ?_) rfl rfl (by kernel_rfl) (by kernel_rfl) (by kernel_rfl) (fun _ _ _ h => h) (Or.inl ⟨by rfl, ?_⟩) (by assumption) ?_
        rotate_left
        · intro w hSw; (try dsimp only at hSw); go_simp; try with_reducible rfl
        try simp only [Act.put, List.setIfInBounds_toArray, List.set_cons_zero, List.set_cons_succ]
        refine take_at (i := 3) (v := ?_) rfl rfl (by kernel_rfl) (by kernel_rfl) (by kernel_rfl) (fun _ _ _ h => h) (Or.inl ⟨by rfl, ?_⟩) (by assumption) ?_
        rotate_left
        · intro w hSw; (try dsimp only at hSw); go_simp; try with_reducible rfl
        try simp only [Act.put, List.setIfInBounds_toArray, List.set_cons_zero, List.set_cons_succ]
        refine wpAnyH_ready (rs := [1]) (by kernel_rfl) (by simp) ?_
        refine AllReadyH.cons rfl (fun K hK => ?_) AllReadyH.nil
        go_simp
        refine (cnow_any g (p', q') _ (HV.out.on (Below.refl _ _).drew)).mono ?_
        rintro e w5 ⟨rfl, hw5⟩
        subst hw5
        refine hK.out _ _ hS0 (fun hHeld => ?_)
        clear hK K
        refine take_at (i := 4) (v := ?_) rfl rfl (by kernel_rfl) (by kernel_rfl) (by kernel_rfl) (fun _ _ _ h => h) (Or.inl ⟨by rfl, ?_⟩) (by assumption) ?_
        rotate_left
        · intro w hSw; (try dsimp only at hSw); go_simp; try with_reducible rfl
        try simp only [Act.put, List.setIfInBounds_toArray, List.set_cons_zero, List.set_cons_succ]
        refine wpAnyH_done (by kernel_rfl) (NoPanic.normal ?_) _
        clear hS0 HS
        have HV1 : Hid (ClockAt V.drew g (p', q')) := HV.out.on (Below.refl _ _).drew
        have QV1 : Hid (Blk V.drew 34 b #[.int .i64 p', .int .i64 q']) := QV.out.on (Below.refl _ _).drew
        have BV1 : Hid (Below W.heap.size W V.drew) := BV.out.drew
        clear HV QV BV
        go_wp2
        refine ⟨⟨k + 1, (p', q'), by omega, by omega, by go_num, HV1, QV1, BV1⟩, ?_⟩
        simp [intOf]; omega
      · have gu : (u == 0) = false := by rw [beq_eq_false_iff_ne]; exact hu
        clear hu
        obtain ⟨N, hN⟩ : ∃ N, seeP (p, q) (t, u) = N := ⟨_, rfl⟩
        obtain ⟨E, hE⟩ : ∃ E, (if MayS (t, u) then (0 : Int) else 1) = E := ⟨_, rfl⟩
        have HS : Hid (∀ w', Below wr.heap.size wr w' → (w'.cell? ⟨b, 0, none⟩ = some (.int .i64 p) ∧ w'.cell? ⟨b, 1, none⟩ = some (.int .i64 q)) ∧ w'.cell? ⟨lb, off + k * 2, none⟩ = some (.int .i64 t) ∧ w'.cell? ⟨lb, off + k * 2 + 1, none⟩ = some (.int .i64 u)) := fun w' hb => ⟨⟨(Q.out.on hb).cell 0, (Q.out.on hb).cell 1⟩, HLC.out _ (below_step B.out (Nat.le_refl _) hb)⟩
        obtain ⟨p', q'⟩ := N
        go_wp2_with fail
        have hS0 := HS.out _ (Below.refl wr.heap.size wr).drew
        refine wp_region_noPanic ?_
        refine wp_region_held_drew (S := fun w' => (w'.cell? ⟨b, 0, none⟩ = some (.int .i64 p) ∧ w'.cell? ⟨b, 1, none⟩ = some (.int .i64 q)) ∧ w'.cell? ⟨lb, off + k * 2, none⟩ = some (.int .i64 t) ∧ w'.cell? ⟨lb, off + k * 2 + 1, none⟩ = some (.int .i64 u)) (by kernel_rfl) (by first | exact trivial | assumption | exact ⟨by assumption, by assumption⟩) (fun hHeld => ?_)
        refine take_at (i := 0) (v := ?_) rfl rfl (by kernel_rfl) (by kernel_rfl) (by kernel_rfl) (fun _ _ _ h => h) (Or.inl ⟨by rfl, ?_⟩) (by assumption) ?_
        rotate_left
        · intro w hSw; (try dsimp only at hSw); go_simp; try with_reducible rfl
        try simp only [Act.put, List.setIfInBounds_toArray, List.set_cons_zero, List.set_cons_succ]
        refine take_at (i := 1) (v := ?_) rfl rfl (by kernel_rfl) (by kernel_rfl) (by kernel_rfl) (fun _ _ _ h => h) (Or.inl ⟨by rfl, ?_⟩) (by assumption) ?_
        rotate_left
        · intro w hSw; (try dsimp only at hSw); go_simp; try with_reducible rfl
        try simp only [Act.put, List.setIfInBounds_toArray, List.set_cons_zero, List.set_cons_succ]
        refine take_at (i := 2) (v := ?_) rfl rfl (by kernel_rfl) (by kernel_rfl) (by kernel_rfl) (fun _ _ _ h => h) (Or.inl ⟨by rfl, ?_⟩) (by assumption) ?_
        rotate_left
        · intro w hSw; (try dsimp only at hSw); go_simp; try with_reducible rfl
        try simp only [Act.put, List.setIfInBounds_toArray, List.set_cons_zero, List.set_cons_succ]
        refine take_at (i := 3) (v := ?_) rfl rfl (by kernel_rfl) (by kernel_rfl) (by kernel_rfl) (fun _ _ _ h => h) (Or.inl ⟨by rfl, ?_⟩) (by assumption) ?_
        rotate_left
        · intro w hSw; (try dsimp only at hSw); go_simp; try with_reducible rfl
        try simp only [Act.put, List.setIfInBounds_toArray, List.set_cons_zero, List.set_cons_succ]
        refine take_at (i := 4) (v := ?_) rfl rfl (by kernel_rfl) (by kernel_rfl) (by kernel_rfl) (fun _ _ _ h => h) (Or.inl ⟨by rfl, ?_⟩) (by assumption) ?_
        rotate_left
        · intro w hSw; (try dsimp only at hSw); go_simp; try with_reducible rfl
        try simp only [Act.put, List.setIfInBounds_toArray, List.set_cons_zero, List.set_cons_succ]
        refine wpAnyH_ready (rs := [5, 9]) (by kernel_rfl) (by simp) ?_
        refine AllReadyH.cons rfl (fun K hK => ?_) (AllReadyH.cons rfl (fun K hK => ?_) AllReadyH.nil)
        · go_simp
          have C1 := rsee_any (p, q) (t, u) wr.drew
          rw [hN, hE] at C1
          refine C1.mono ?_
          clear C1
          rintro e w1 ⟨rfl, h1⟩
          rw [show stampV (p', q') = .agg #[.int .i64 p', .int .i64 q'] from rfl]
          have hb1 : Hid (Below wr.heap.size wr w1) := below_step (Below.refl wr.heap.size wr).drew (Nat.le_refl _) h1
          clear h1
          refine hK.out _ _ (HS.out _ hb1.out) (fun hHeld => ?_)
          clear hK K
          refine take_at (i := 6) (v := ?_) rfl rfl (by kernel_rfl) (by kernel_rfl) (by kernel_rfl) (fun _ _ _ h => h) (Or.inl ⟨by rfl, ?_⟩) (by assumption) ?_
          rotate_left
          · intro w hSw; (try dsimp only at hSw); go_simp; try with_reducible rfl
          try simp only [Act.put, List.setIfInBounds_toArray, List.set_cons_zero, List.set_cons_succ]
          refine take_at (i := 7) (v := ?_) rfl rfl (by kernel_rfl) (by kernel_rfl) (by kernel_rfl) (fun _ _ _ h => h) (Or.inl ⟨by rfl, ?_⟩) (by assumption) ?_
          rotate_left
          · intro w hSw; (try dsimp only at hSw); go_simp; try with_reducible rfl
          try simp only [Act.put, List.setIfInBounds_toArray, List.set_cons_zero, List.set_cons_succ]
          refine take_at (i := 8) (v := ?_) rfl rfl (by kernel_rfl) (by kernel_rfl) (by kernel_rfl) (fun _ _ _ h => h) (Or.inl ⟨by rfl, ?_⟩) (by assumption) ?_
          rotate_left
          · intro w hSw; (try dsimp only at hSw); go_simp; try with_reducible rfl
          try simp only [Act.put, List.setIfInBounds_toArray, List.set_cons_zero, List.set_cons_succ]
          refine wpAnyH_ready (rs := [9]) (by kernel_rfl) (by simp) ?_
          refine AllReadyH.cons rfl (fun K hK => ?_) AllReadyH.nil
          go_simp
          refine hK.out _ _ (HS.out _ (below_step hb1.out (Nat.le_refl _) (below_new _ _))) (fun hHeld => ?_)
          clear hK K
          refine wpAnyH_ready (rs := [10]) (by kernel_rfl) (by simp) ?_
          refine AllReadyH.cons rfl (fun K hK => ?_) AllReadyH.nil
          go_simp
          refine hK.out _ _ (HS.out _ (below_step hb1.out (Nat.le_refl _) (below_new _ _))) (fun hHeld => ?_)
          clear hK K
          refine take_at (i := 11) (v := ?_) rfl rfl (by kernel_rfl) (by kernel_rfl) (by kernel_rfl) (fun _ _ _ h => h) (Or.inl ⟨by rfl, ?_⟩) (by assumption) ?_
          rotate_left
          · intro w hSw; (try dsimp only at hSw); go_simp; try with_reducible rfl
          try simp only [Act.put, List.setIfInBounds_toArray, List.set_cons_zero, List.set_cons_succ]
          refine wpAnyH_done (by kernel_rfl) (NoPanic.normal ?_) _
          obtain ⟨h, hh⟩ : ∃ h, h = w1.heap.size := ⟨_, rfl⟩
          obtain ⟨V1, hV1⟩ : ∃ V1, V1 = w1.alloc (.cells #[.int .i64 p', .int .i64 q'] 34) := ⟨_, rfl⟩
          have hb2 : Hid (Below wr.heap.size wr V1) := by rw [hV1]; exact below_step hb1.out (Nat.le_refl _) (below_new _ _)
          have S2 : Hid (Blk V1 34 h #[.int .i64 p', .int .i64 q']) := by show Blk _ _ _ _; rw [hV1]; exact Blk.new' _ _ _ _ hh.symm
          have hhw : Hid (wr.heap.size ≤ h) := by rw [hh]; exact hb1.out.size
          rw [← hV1, ← hh]
          clear hV1 hh hb1
          obtain ⟨⟨m0, m1⟩, m2, m3⟩ := HS.out _ hb2.out
          have H1 : Hid (ClockAt V1 g (p, q)) := H.out.on hb2.out
          go_wp2_with fail
          have C1 := csee_any g (p, q) (t, u) V1 H1.out
          rw [hN, hE] at C1
          refine C1.mono ?_
          clear C1
          rintro e w3 ⟨rfl, h3⟩
          have hhg : h ≠ g := fun e => by have a := H.out.1.lt; have c := hhw.out; omega
          have S3 : Hid (Blk w3 34 h #[.int .i64 p', .int .i64 q']) := S2.out.kept h3.2 hhg (by simp)
          have Q3 : Hid (Blk w3 34 b #[.int .i64 p, .int .i64 q]) := (Q.out.on hb2.out).kept h3.2 hbg (by simp)
          have H3 : Hid (ClockAt w3 g (p', q')) := h3.1
          have B3 : Hid (Below W.heap.size W w3) := (below_step B.out (Nat.le_refl _) hb2.out).trans (h3.below _ (Nat.le_trans B.out.size hb2.out.size) Lb.out.2)
          clear h3 m0 m1 m2 m3 H1 S2 hb2 HS H Q B hhw hhg p0 p1 hS0
          have s0 : w3.cell? ⟨h, 0, none⟩ = some (.int .i64 p') := S3.out.cell 0
          have s1 : w3.cell? ⟨h, 1, none⟩ = some (.int .i64 q') := S3.out.cell 1
          have r0 : w3.cell? ⟨b, 0, none⟩ = some (.int .i64 p) := Q3.out.cell 0
          have r1 : w3.cell? ⟨b, 1, none⟩ = some (.int .i64 q) := Q3.out.cell 1
          have f0 := Q3.out.free 0
          have f1 := Q3.out.free 1
          obtain ⟨V, hV⟩ : ∃ V, V = (w3.setCell ⟨b, 0, none⟩ (.int .i64 p')).setCell ⟨b, 1, none⟩ (.int .i64 q') := ⟨_, rfl⟩
          have HV : Hid (ClockAt V g (p', q')) := by
            rw [hV]; exact ⟨(H3.out.1.other ⟨b, 0, none⟩ hgb _).other ⟨b, 1, none⟩ hgb _, H3.out.2⟩
          have QV : Hid (Blk V 34 b #[.int .i64 p', .int .i64 q']) := by
            show Blk _ _ _ _
            rw [hV]; exact (Q3.out.setAt 0 _).setAt 1 _
          have BV : Hid (Below W.heap.size W V) := by
            rw [hV]; exact (B3.out.setCell (p := ⟨b, 0, none⟩) Lb.out.1 _).setCell (p := ⟨b, 1, none⟩) Lb.out.1 _
          go_wp2_with fail
          rw [← hV]
          clear hV H3 Q3 B3 S3 s0 s1 r0 r1 f0 f1
          have HS : Hid (∀ w', Below V.heap.size V w' → w'.cell? ⟨b, 1, none⟩ = some (.int .i64 q')) := fun w' hb => (QV.out.on hb).cell 1
          have hS0 := HS.out _ (Below.refl V.heap.size V).drew
          refine wp_region_noPanic ?_
          refine wp_region_held_drew (S := fun w' => w'.cell? ⟨b, 1, none⟩ = some (.int .i64 q')) (by kernel_rfl) (by first | exact trivial | assumption | exact ⟨by assumption, by assumption⟩) (fun hHeld => ?_)
          refine take_at (i := 0) (v := ?_) rfl rfl (by kernel_rfl) (by kernel_rfl) (by kernel_rfl) (fun _ _ _ h => h) (Or.inl ⟨by rfl, ?_⟩) (by assumption) ?_
          rotate_left
          · intro w hSw; (try dsimp only at hSw); go_simp; try with_reducible rfl
          try simp only [Act.put, List.setIfInBounds_toArray, List.set_cons_zero, List.set_cons_succ]
          refine take_at (i := 2) (v := ?_) rfl rfl (by kernel_rfl) (by kernel_rfl) (by kernel_rfl) (fun _ _ _ h => h) (Or.inl ⟨by rfl, ?_⟩) (by assumption) ?_
          rotate_left
          · intro w hSw; (try dsimp only at hSw); go_simp; try with_reducible rfl
          try simp only [Act.put, List.setIfInBounds_toArray, List.set_cons_zero, List.set_cons_succ]
          refine take_at (i := 3) (v := ?_) rfl rfl (by kernel_rfl) (by kernel_rfl) (by kernel_rfl) (fun _ _ _ h => h) (Or.inl ⟨by rfl, ?_⟩) (by assumption) ?_
          rotate_left
          · intro w hSw; (try dsimp only at hSw); go_simp; try with_reducible rfl
          try simp only [Act.put, List.setIfInBounds_toArray, List.set_cons_zero, List.set_cons_succ]
          refine wpAnyH_ready (rs := [1]) (by kernel_rfl) (by simp) ?_
          refine AllReadyH.cons rfl (fun K hK => ?_) AllReadyH.nil
          go_simp
          refine (cnow_any g (p', q') _ (HV.out.on (Below.refl _ _).drew)).mono ?_
          rintro e w5 ⟨rfl, hw5⟩
          subst hw5
          refine hK.out _ _ hS0 (fun hHeld => ?_)
          clear hK K
          refine take_at (i := 4) (v := ?_) rfl rfl (by kernel_rfl) (by kernel_rfl) (by kernel_rfl) (fun _ _ _ h => h) (Or.inl ⟨by rfl, ?_⟩) (by assumption) ?_
          rotate_left
          · intro w hSw; (try dsimp only at hSw); go_simp; try with_reducible rfl
          try simp only [Act.put, List.setIfInBounds_toArray, List.set_cons_zero, List.set_cons_succ]
          refine wpAnyH_done (by kernel_rfl) (NoPanic.normal ?_) _
          clear hS0 HS
          have HV1 : Hid (ClockAt V.drew g (p', q')) := HV.out.on (Below.refl _ _).drew
          have QV1 : Hid (Blk V.drew 34 b #[.int .i64 p', .int .i64 q']) := QV.out.on (Below.refl _ _).drew
          have BV1 : Hid (Below W.heap.size W V.drew) := BV.out.drew
          clear HV QV BV
          go_wp2
          refine ⟨⟨k + 1, (p', q'), by omega, by omega, by go_num, HV1, QV1, BV1⟩, ?_⟩
          simp [intOf]; omega
        · go_simp
          have hb0 : Hid (Below wr.heap.size wr (wr.drew.alloc (.cells #[.int .i64 0, .int .i64 0] 34))) := (Below.refl wr.heap.size wr).drew.alloc (Nat.le_refl _) _
          have S0 : Hid (Blk (wr.drew.alloc (.cells #[.int .i64 0, .int .i64 0] 34)) 34 wr.heap.size #[.int .i64 0, .int .i64 0]) := Blk.new' _ _ _ _ rfl
          refine hK.out _ _ (HS.out _ hb0.out) (fun hHeld => ?_)
          clear hK K
          refine wpAnyH_ready (rs := [5]) (by kernel_rfl) (by simp) ?_
          refine AllReadyH.cons rfl (fun K hK => ?_) AllReadyH.nil
          go_simp
          have C1 := rsee_any (p, q) (t, u) (wr.drew.alloc (.cells #[.int .i64 0, .int .i64 0] 34))
          rw [hN, hE] at C1
          refine C1.mono ?_
          clear C1
          rintro e w1 ⟨rfl, h1⟩
          rw [show stampV (p', q') = .agg #[.int .i64 p', .int .i64 q'] from rfl]
          have hb1 : Hid (Below wr.heap.size wr w1) := below_step hb0.out (Nat.le_refl _) h1
          have S1 : Hid (Blk w1 34 wr.heap.size #[.int .i64 0, .int .i64 0]) := S0.out.on h1
          clear h1 hb0 S0
          refine hK.out _ _ (HS.out _ hb1.out) (fun hHeld => ?_)
          clear hK K
          refine take_at (i := 6) (v := ?_) rfl rfl (by kernel_rfl) (by kernel_rfl) (by kernel_rfl) (fun _ _ _ h => h) (Or.inl ⟨by rfl, ?_⟩) (by assumption) ?_
          rotate_left
          · intro w hSw; (try dsimp only at hSw); go_simp; try with_reducible rfl
          try simp only [Act.put, List.setIfInBounds_toArray, List.set_cons_zero, List.set_cons_succ]
          refine take_at (i := 7) (v := ?_) rfl rfl (by kernel_rfl) (by kernel_rfl) (by kernel_rfl) (fun _ _ _ h => h) (Or.inl ⟨by rfl, ?_⟩) (by assumption) ?_
          rotate_left
          · intro w hSw; (try dsimp only at hSw); go_simp; try with_reducible rfl
          try simp only [Act.put, List.setIfInBounds_toArray, List.set_cons_zero, List.set_cons_succ]
          refine take_at (i := 8) (v := ?_) rfl rfl (by kernel_rfl) (by kernel_rfl) (by kernel_rfl) (fun _ _ _ h => h) (Or.inl ⟨by rfl, ?_⟩) (by assumption) ?_
          rotate_left
          · intro w hSw; (try dsimp only at hSw); go_simp; try with_reducible rfl
          try simp only [Act.put, List.setIfInBounds_toArray, List.set_cons_zero, List.set_cons_succ]
          have i0 : w1.cell? ⟨wr.heap.size, 0, none⟩ = some (.int .i64 0) := S1.out.cell 0
          have i1 : w1.cell? ⟨wr.heap.size, 1, none⟩ = some (.int .i64 0) := S1.out.cell 1
          have j0 := S1.out.free 0
          have j1 := S1.out.free 1
          obtain ⟨V1, hV1⟩ : ∃ V1, V1 = (w1.setCell ⟨wr.heap.size, 0, none⟩ (.int .i64 p')).setCell ⟨wr.heap.size, 1, none⟩ (.int .i64 q') := ⟨_, rfl⟩
          have hhw : Hid (wr.heap.size ≤ wr.heap.size) := Nat.le_refl _
          have hb2 : Hid (Below wr.heap.size wr V1) := by rw [hV1]; exact (hb1.out.setCell (p := ⟨wr.heap.size, 0, none⟩) hhw.out _).setCell (p := ⟨wr.heap.size, 1, none⟩) hhw.out _
          have S2 : Hid (Blk V1 34 wr.heap.size #[.int .i64 p', .int .i64 q']) := by show Blk _ _ _ _; rw [hV1]; exact (S1.out.setAt 0 _).setAt 1 _
          refine wpAnyH_ready (rs := [10]) (by kernel_rfl) (by simp) ?_
          refine AllReadyH.cons rfl (fun K hK => ?_) AllReadyH.nil
          go_simp
          rw [← hV1]
          refine hK.out _ _ (HS.out _ hb2.out) (fun hHeld => ?_)
          clear hK K
          refine take_at (i := 11) (v := ?_) rfl rfl (by kernel_rfl) (by kernel_rfl) (by kernel_rfl) (fun _ _ _ h => h) (Or.inl ⟨by rfl, ?_⟩) (by assumption) ?_
          rotate_left
          · intro w hSw; (try dsimp only at hSw); go_simp; try with_reducible rfl
          try simp only [Act.put, List.setIfInBounds_toArray, List.set_cons_zero, List.set_cons_succ]
          refine wpAnyH_done (by kernel_rfl) (NoPanic.normal ?_) _
          obtain ⟨h, hh⟩ : ∃ h, h = wr.heap.size := ⟨_, rfl⟩
          have hhw2 : Hid (wr.heap.size ≤ h) := Nat.le_of_eq hh.symm
          rw [← hh] at S2 ⊢
          clear hV1 hb1 S1 i0 i1 j0 j1 hhw hh
          have hhw := hhw2
          clear hhw2
          obtain ⟨⟨m0, m1⟩, m2, m3⟩ := HS.out _ hb2.out
          have H1 : Hid (ClockAt V1 g (p, q)) := H.out.on hb2.out
          go_wp2_with fail
          have C1 := csee_any g (p, q) (t, u) V1 H1.out
          rw [hN, hE] at C1
          refine C1.mono ?_
          clear C1
          rintro e w3 ⟨rfl, h3⟩
          have hhg : h ≠ g := fun e => by have a := H.out.1.lt; have c := hhw.out; omega
          have S3 : Hid (Blk w3 34 h #[.int .i64 p', .int .i64 q']) := S2.out.kept h3.2 hhg (by simp)
          have Q3 : Hid (Blk w3 34 b #[.int .i64 p, .int .i64 q]) := (Q.out.on hb2.out).kept h3.2 hbg (by simp)
          have H3 : Hid (ClockAt w3 g (p', q')) := h3.1
          have B3 : Hid (Below W.heap.size W w3) := (below_step B.out (Nat.le_refl _) hb2.out).trans (h3.below _ (Nat.le_trans B.out.size hb2.out.size) Lb.out.2)
          clear h3 m0 m1 m2 m3 H1 S2 hb2 HS H Q B hhw hhg p0 p1 hS0
          have s0 : w3.cell? ⟨h, 0, none⟩ = some (.int .i64 p') := S3.out.cell 0
          have s1 : w3.cell? ⟨h, 1, none⟩ = some (.int .i64 q') := S3.out.cell 1
          have r0 : w3.cell? ⟨b, 0, none⟩ = some (.int .i64 p) := Q3.out.cell 0
          have r1 : w3.cell? ⟨b, 1, none⟩ = some (.int .i64 q) := Q3.out.cell 1
          have f0 := Q3.out.free 0
          have f1 := Q3.out.free 1
          obtain ⟨V, hV⟩ : ∃ V, V = (w3.setCell ⟨b, 0, none⟩ (.int .i64 p')).setCell ⟨b, 1, none⟩ (.int .i64 q') := ⟨_, rfl⟩
          have HV : Hid (ClockAt V g (p', q')) := by
            rw [hV]; exact ⟨(H3.out.1.other ⟨b, 0, none⟩ hgb _).other ⟨b, 1, none⟩ hgb _, H3.out.2⟩
          have QV : Hid (Blk V 34 b #[.int .i64 p', .int .i64 q']) := by
            show Blk _ _ _ _
            rw [hV]; exact (Q3.out.setAt 0 _).setAt 1 _
          have BV : Hid (Below W.heap.size W V) := by
            rw [hV]; exact (B3.out.setCell (p := ⟨b, 0, none⟩) Lb.out.1 _).setCell (p := ⟨b, 1, none⟩) Lb.out.1 _
          go_wp2_with fail
          rw [← hV]
          clear hV H3 Q3 B3 S3 s0 s1 r0 r1 f0 f1
          have HS : Hid (∀ w', Below V.heap.size V w' → w'.cell? ⟨b, 1, none⟩ = some (.int .i64 q')) := fun w' hb => (QV.out.on hb).cell 1
          have hS0 := HS.out _ (Below.refl V.heap.size V).drew
          refine wp_region_noPanic ?_
          refine wp_region_held_drew (S := fun w' => w'.cell? ⟨b, 1, none⟩ = some (.int .i64 q')) (by kernel_rfl) (by first | exact trivial | assumption | exact ⟨by assumption, by assumption⟩) (fun hHeld => ?_)
          refine take_at (i := 0) (v := ?_) rfl rfl (by kernel_rfl) (by kernel_rfl) (by kernel_rfl) (fun _ _ _ h => h) (Or.inl ⟨by rfl, ?_⟩) (by assumption) ?_
          rotate_left
          · intro w hSw; (try dsimp only at hSw); go_simp; try with_reducible rfl
          try simp only [Act.put, List.setIfInBounds_toArray, List.set_cons_zero, List.set_cons_succ]
          refine take_at (i := 2) (v := ?_) rfl rfl (by kernel_rfl) (by kernel_rfl) (by kernel_rfl) (fun _ _ _ h => h) (Or.inl ⟨by rfl, ?_⟩) (by assumption) ?_
          rotate_left
          · intro w hSw; (try dsimp only at hSw); go_simp; try with_reducible rfl
          try simp only [Act.put, List.setIfInBounds_toArray, List.set_cons_zero, List.set_cons_succ]
          refine take_at (i := 3) (v := ?_) rfl rfl (by kernel_rfl) (by kernel_rfl) (by kernel_rfl) (fun _ _ _ h => h) (Or.inl ⟨by rfl, ?_⟩) (by assumption) ?_
          rotate_left
          · intro w hSw; (try dsimp only at hSw); go_simp; try with_reducible rfl
          try simp only [Act.put, List.setIfInBounds_toArray, List.set_cons_zero, List.set_cons_succ]
          refine wpAnyH_ready (rs := [1]) (by kernel_rfl) (by simp) ?_
          refine AllReadyH.cons rfl (fun K hK => ?_) AllReadyH.nil
          go_simp
          refine (cnow_any g (p', q') _ (HV.out.on (Below.refl _ _).drew)).mono ?_
          rintro e w5 ⟨rfl, hw5⟩
          subst hw5
          refine hK.out _ _ hS0 (fun hHeld => ?_)
          clear hK K
          refine take_at (i := 4) (v := ?_) rfl rfl (by kernel_rfl) (by kernel_rfl) (by kernel_rfl) (fun _ _ _ h => h) (Or.inl ⟨by rfl, ?_⟩) (by assumption) ?_
          rotate_left
          · intro w hSw; (try dsimp only at hSw); go_simp; try with_reducible rfl
          try simp only [Act.put, List.setIfInBounds_toArray, List.set_cons_zero, List.set_cons_succ]
          refine wpAnyH_done (by kernel_rfl) (NoPanic.normal ?_) _
          clear hS0 HS
          have HV1 : Hid (ClockAt V.drew g (p', q')) := HV.out.on (Below.refl _ _).drew
          have QV1 : Hid (Blk V.drew 34 b #[.int .i64 p', .int .i64 q']) := QV.out.on (Below.refl _ _).drew
          have BV1 : Hid (Below W.heap.size W V.drew) := BV.out.drew
          clear HV QV BV
          go_wp2
          refine ⟨⟨k + 1, (p', q'), by omega, by omega, by go_num, HV1, QV1, BV1⟩, ?_⟩
          simp [intOf]; omega
    · have hend : Hid (Below W.heap.size W wr) := B
      clear H Q B
      by_cases h6 : k < len
      · have d0 : (k : Int) < (len : Int) := by omega
        have hk60 : k = 60 := by omega
        subst hk60
        go_wp2_with fail
        refine (awake10 _).mono ?_
        rintro e w2 ⟨rfl, hb2⟩
        have HB2 : Hid (Below W.heap.size W w2) := below_step hend.out (Nat.le_refl _) hb2
        clear hb2
        go_wp2
        go_ret
        exact ⟨rfl, HB2.out⟩
      · have hkl : k = len := by omega
        subst hkl
        go_wp2_with fail
        refine (awake10 _).mono ?_
        rintro e w2 ⟨rfl, hb2⟩
        have HB2 : Hid (Below W.heap.size W w2) := below_step hend.out (Nat.le_refl _) hb2
        clear hb2
        go_wp2
        go_ret
        exact ⟨rfl, HB2.out⟩

theorem clockPlays_law (who : Int) (a : Option Addr) (len cap : Nat) (W : World) (z : ∃ l, StampsAt W a len l ∧ len ≤ maxLen ∧ ∀ q ∈ l, (Lit.int .i64 q.1).wf = true ∧ (Lit.int .i64 q.2).wf = true) :
    Calls Try.prog 4 #[.int .i64 who, .slice a len cap] W fun e w' => e = .returned (.bool true) ∧ Below W.heap.size W w' := by
  obtain ⟨l, hl, hm, _⟩ := z
  by_cases hw : 1 ≤ who ∧ who ≤ 6
  · exact clockPlays_good who a len cap l W hl hm hw
  · exact clockPlays_bad who _ W hw
end Go.Proofs.Ytegbjglkglmgiaa
