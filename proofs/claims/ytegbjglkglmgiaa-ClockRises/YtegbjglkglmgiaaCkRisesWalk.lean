/- The walk of ClockRises. -/
import Derived.Test.YtegbjglkglmgiaaCkD
namespace Go.Proofs.Ytegbjglkglmgiaa
open Go.RowKit
set_option linter.unusedSimpArgs false

theorem i64_and30 (n : Int) : bits .and .i64 n 1073741823 = n % 1073741824 := i64_mask n 30 (by decide) 1073741823 (by decide)
theorem i64_and1c (n : Int) : bits .and .i64 n 1 = n % 2 := i64_mask n 1 (by decide) 1 (by decide)
/-- What a round gives: the clock behind seeing a stamp, and behind the next one. -/
theorem rises10 (T x y : Int) (k : Nat) (h0 : 0 ≤ T) (h1 : T ≤ 1073741824 + k) (h2 : 1 ≤ x) (h3 : x ≤ 1073741824) (h4 : 1 ≤ y) (h5 : y ≤ 2) (hk : k ≤ 40) :
    ∃ N : Int, MayS (x, y) ∧ nextP10 (seeP (3, T) (x, y)) = ((3, N), (N, 3), 0) ∧ LessS (x, y) (N, 3) ∧ T < N ∧ MayS (N, 3) ∧ N ≤ 1073741824 + ((k + 1 : Nat) : Int) := by
  have hm : MayS (x, y) := ⟨h2, by show x ≤ _; omega, h4, by show y ≤ _; omega⟩
  refine ⟨max T x + 1, hm, ?_, .inl ?_, by omega, ⟨?_, ?_, show (1 : Int) ≤ 3 by decide, show (3 : Int) ≤ 6 by decide⟩, by omega⟩
  · unfold seeP
    rw [if_pos hm]
    unfold nextP10
    rw [if_neg (by show ¬ (1099511627775 ≤ max T x); omega)]
  · show x < max T x + 1; omega
  · show 1 ≤ max T x + 1; omega
  · show max T x + 1 ≤ 1099511627775; omega

set_option maxHeartbeats 4000000 in
set_option maxRecDepth 100000 in
theorem clockRises_walk (a : Option Addr) (len cap : Nat) (l : List (Int × Int)) (W : World) (hl : StampsAt W a len l) (hlen : len ≤ maxLen) :
    Calls Try.prog 5 #[.slice a len cap] W fun e w' => e = .returned (.bool true) ∧ Below W.heap.size W w' := by
  have HL : Hid (StampsAt W a len l) := hl
  have HLen : Hid (len ≤ maxLen) := hlen
  clear hl hlen
  go_enter Try.func5, Try.ntmps5
  go_wp2_with fail
  refine (cnew_yes 3 _ (by decide)).mono ?_
  rintro e w1 ⟨rfl, h1, b1⟩
  obtain ⟨g, hg⟩ : ∃ g, g = W.heap.size := ⟨_, rfl⟩
  rw [← hg] at h1 ⊢
  obtain ⟨b, hb⟩ : ∃ b, b = w1.heap.size := ⟨_, rfl⟩
  have L1 := b1.size
  have hgb0 : g < b := by rw [hb]; exact h1.1.lt
  obtain ⟨W2, hW2⟩ : ∃ W2, W2 = w1.alloc (.cells #[.int .i64 0, .int .i64 0] 23) := ⟨_, rfl⟩
  have H2 : Hid (ClockAt W2 g (3, 0)) := by rw [hW2]; exact h1.on (below_new _ _)
  have Q2 : Hid (Blk W2 23 b #[.int .i64 0, .int .i64 0]) := by show Blk _ _ _ _; rw [hW2]; exact Blk.new' _ _ _ _ hb.symm
  have B2 : Hid (Below W.heap.size W W2) := by rw [hW2]; exact below_step b1 (Nat.le_refl _) (below_new _ _)
  have Lb : Hid (W.heap.size ≤ b ∧ W.heap.size ≤ g) := ⟨by omega, by omega⟩
  have hgb : ¬ (g = b) := by omega
  have hbg : ¬ (b = g) := by omega
  clear h1 b1 hgb0 L1 hg
  go_wp2_with fail
  rw [← hW2, ← hb]
  clear hW2 hb
  go_loopw [6] (fun i wr => ∃ (k : Nat) (T x y : Int), k ≤ len ∧ k ≤ 40 ∧ i = .int .i64 k ∧ Hid (ClockAt wr g (3, T)) ∧ Hid (Blk wr 23 b #[.int .i64 x, .int .i64 y]) ∧ Hid (Below W.heap.size W wr) ∧ Hid (x ≤ T ∧ T ≤ 1073741824 + k)) (fun i _ => len - (intOf i).toNat)
  case atStart => exact ⟨0, 0, 0, 0, Nat.zero_le _, Nat.zero_le _, rfl, H2, Q2, B2, Int.le_refl _, by decide⟩
  case round =>
    clear H2 Q2 B2
    obtain ⟨k, T, x, y, hk, hk4, rfl, H, Q, B, HT⟩ := hrel
    by_cases hlt : k < len ∧ k < 40
    · obtain ⟨hlt, hlt4⟩ := hlt
      obtain ⟨lb, off, rfl, hcl⟩ := HL.out.some (by omega)
      obtain ⟨q0, q1⟩ := hcl k hlt
      have HLC : Hid (∀ w', Below W.heap.size W w' → w'.cell? ⟨lb, off + k * 2, none⟩ = some (.int .i64 (stL l k).1) ∧ w'.cell? ⟨lb, off + k * 2 + 1, none⟩ = some (.int .i64 (stL l k).2)) := fun w' hb => ⟨by rw [hb.cell (World.block_lt_of_cell? W _ q0)]; exact q0, by rw [hb.cell (World.block_lt_of_cell? W _ q1)]; exact q1⟩
      clear hcl q0 q1
      have d0 : (k : Int) < (len : Int) := by omega
      have d6 : (k : Int) < 40 := by omega
      obtain ⟨s, hs⟩ : ∃ s, s = stL l k := ⟨_, rfl⟩
      rw [← hs] at HLC
      clear hs
      obtain ⟨t, u⟩ := s
      obtain ⟨m, hm⟩ : ∃ m, bits .and .i64 t 1073741823 = m := ⟨_, rfl⟩
      have hm0 : 0 ≤ m := by rw [← hm, i64_and30]; omega
      have hm3 : m ≤ 1073741823 := by rw [← hm, i64_and30]; omega
      obtain ⟨n, hn⟩ : ∃ n, bits .and .i64 u 1 = n := ⟨_, rfl⟩
      have hn0 : 0 ≤ n := by rw [← hn, i64_and1c]; omega
      have hn1 : n ≤ 1 := by rw [← hn, i64_and1c]; omega
      have hw1 : IntKind.i64.wrap (1 + m) = 1 + m := by rw [IntKind.wrap_i64]; omega
      have hw2 : IntKind.i64.wrap (1 + n) = 1 + n := by rw [IntKind.wrap_i64]; omega
      have hS0 := HLC.out _ B.out.drew
      obtain ⟨N, hM, hN, hL1, hTN, hMN, hNk⟩ := rises10 T (1 + m) (1 + n) k H.out.2.1 HT.out.2 (by omega) (by omega) (by omega) (by omega) hk4
      have HM : Hid (MayS (1 + m, 1 + n)) := hM
      have HN : Hid (nextP10 (seeP (3, T) (1 + m, 1 + n)) = ((3, N), (N, 3), 0)) := hN
      have HL1 : Hid (LessS (1 + m, 1 + n) (N, 3)) := hL1
      have HL2 : Hid (LessS (x, y) (N, 3)) := .inl (show x < N by have := HT.out.1; omega)
      have HMN : Hid (MayS (N, 3)) := hMN
      have HNk : Hid (N ≤ 1073741824 + ((k + 1 : Nat) : Int)) := hNk
      clear hM hN hL1 hTN hMN hNk HT
      go_wp2_with fail
      refine wp_region_noPanic ?_
      refine wp_region_held_drew (S := fun w' => w'.cell? ⟨lb, off + k * 2, none⟩ = some (.int .i64 t) ∧ w'.cell? ⟨lb, off + k * 2 + 1, none⟩ = some (.int .i64 u)) (by kernel_rfl) (by first | exact trivial | assumption | exact ⟨by assumption, by assumption⟩) (fun hHeld => ?_)
      refine take_at (i := 0) (v := ?_) rfl rfl (by kernel_rfl) (by kernel_rfl) (by kernel_rfl) (fun _ _ _ h => h) (Or.inl ⟨by rfl, ?_⟩) (by assumption) ?_
      rotate_left
      · intro w hSw; (try dsimp only at hSw); go_simp; try with_reducible rfl
      try simp only [Act.put, List.setIfInBounds_toArray, List.set_cons_zero, List.set_cons_succ]
      refine take_at (i := 1) (v := ?_) rfl rfl (by kernel_rfl) (by kernel_rfl) (by kernel_rfl) (fun _ _ _ h => h) (Or.inl ⟨by rfl, ?_⟩) (by assumption) ?_
      rotate_left
      · intro w hSw; (try dsimp only at hSw); go_simp; try with_reducible rfl
      try simp only [Act.put, List.setIfInBounds_toArray, List.set_cons_zero, List.set_cons_succ]
      refine take_at (i := 2) (v := ?_) rfl rfl (by kernel_rfl) (by kernel_rfl) (by kernel_rfl) (fun _ _ _ h => h) (Or.inl ⟨by rfl, ?_⟩) (by assumption) ?_
      rotate_left
      · intro w hSw; (try dsimp only at hSw); go_simp; try with_reducible rfl
      try simp only [Act.put, List.setIfInBounds_toArray, List.set_cons_zero, List.set_cons_succ]
      refine take_at (i := 3) (v := ?_) rfl rfl (by kernel_rfl) (by kernel_rfl) (by kernel_rfl) (fun _ _ _ h => h) (Or.inl ⟨by rfl, ?_⟩) (by assumption) ?_
      rotate_left
      · intro w hSw; (try dsimp only at hSw); go_simp; try with_reducible rfl
      try simp only [Act.put, List.setIfInBounds_toArray, List.set_cons_zero, List.set_cons_succ]
      refine take_at (i := 4) (v := ?_) rfl rfl (by kernel_rfl) (by kernel_rfl) (by kernel_rfl) (fun _ _ _ h => h) (Or.inl ⟨by rfl, ?_⟩) (by assumption) ?_
      rotate_left
      · intro w hSw; (try dsimp only at hSw); go_simp; try with_reducible rfl
      try simp only [Act.put, List.setIfInBounds_toArray, List.set_cons_zero, List.set_cons_succ]
      refine take_at (i := 5) (v := ?_) rfl rfl (by kernel_rfl) (by kernel_rfl) (by kernel_rfl) (fun _ _ _ h => h) (Or.inl ⟨by rfl, ?_⟩) (by assumption) ?_
      rotate_left
      · intro w hSw; (try dsimp only at hSw); go_simp; try with_reducible rfl
      try simp only [Act.put, List.setIfInBounds_toArray, List.set_cons_zero, List.set_cons_succ]
      refine take_at (i := 6) (v := ?_) rfl rfl (by kernel_rfl) (by kernel_rfl) (by kernel_rfl) (fun _ _ _ h => h) (Or.inl ⟨by rfl, ?_⟩) (by assumption) ?_
      rotate_left
      · intro w hSw; (try dsimp only at hSw); go_simp; try with_reducible rfl
      try simp only [Act.put, List.setIfInBounds_toArray, List.set_cons_zero, List.set_cons_succ]
      refine take_at (i := 7) (v := ?_) rfl rfl (by kernel_rfl) (by kernel_rfl) (by kernel_rfl) (fun _ _ _ h => h) (Or.inl ⟨by rfl, ?_⟩) (by assumption) ?_
      rotate_left
      · intro w hSw; (try dsimp only at hSw); go_simp; try with_reducible rfl
      try simp only [Act.put, List.setIfInBounds_toArray, List.set_cons_zero, List.set_cons_succ]
      refine take_at (i := 8) (v := ?_) rfl rfl (by kernel_rfl) (by kernel_rfl) (by kernel_rfl) (fun _ _ _ h => h) (Or.inl ⟨by rfl, ?_⟩) (by assumption) ?_
      rotate_left
      · intro w hSw; (try dsimp only at hSw); go_simp; try with_reducible rfl
      try simp only [Act.put, List.setIfInBounds_toArray, List.set_cons_zero, List.set_cons_succ]
      refine take_at (i := 9) (v := ?_) rfl rfl (by kernel_rfl) (by kernel_rfl) (by kernel_rfl) (fun _ _ _ h => h) (Or.inl ⟨by rfl, ?_⟩) (by assumption) ?_
      rotate_left
      · intro w hSw; (try dsimp only at hSw); go_simp; try with_reducible rfl
      try simp only [Act.put, List.setIfInBounds_toArray, List.set_cons_zero, List.set_cons_succ]
      refine take_at (i := 10) (v := ?_) rfl rfl (by kernel_rfl) (by kernel_rfl) (by kernel_rfl) (fun _ _ _ h => h) (Or.inl ⟨by rfl, ?_⟩) (by assumption) ?_
      rotate_left
      · intro w hSw; (try dsimp only at hSw); go_simp; try with_reducible rfl
      try simp only [Act.put, List.setIfInBounds_toArray, List.set_cons_zero, List.set_cons_succ]
      refine take_at (i := 11) (v := ?_) rfl rfl (by kernel_rfl) (by kernel_rfl) (by kernel_rfl) (fun _ _ _ h => h) (Or.inl ⟨by rfl, ?_⟩) (by assumption) ?_
      rotate_left
      · intro w hSw; (try dsimp only at hSw); go_simp; try with_reducible rfl
      try simp only [Act.put, List.setIfInBounds_toArray, List.set_cons_zero, List.set_cons_succ]
      refine take_at (i := 12) (v := ?_) rfl rfl (by kernel_rfl) (by kernel_rfl) (by kernel_rfl) (fun _ _ _ h => h) (Or.inl ⟨by rfl, ?_⟩) (by assumption) ?_
      rotate_left
      · intro w hSw; (try dsimp only at hSw); go_simp; try with_reducible rfl
      try simp only [Act.put, List.setIfInBounds_toArray, List.set_cons_zero, List.set_cons_succ]
      refine take_at (i := 13) (v := ?_) rfl rfl (by kernel_rfl) (by kernel_rfl) (by kernel_rfl) (fun _ _ _ h => h) (Or.inl ⟨by rfl, ?_⟩) (by assumption) ?_
      rotate_left
      · intro w hSw; (try dsimp only at hSw); go_simp; try with_reducible rfl
      try simp only [Act.put, List.setIfInBounds_toArray, List.set_cons_zero, List.set_cons_succ]
      refine take_at (i := 14) (v := ?_) rfl rfl (by kernel_rfl) (by kernel_rfl) (by kernel_rfl) (fun _ _ _ h => h) (Or.inl ⟨by rfl, ?_⟩) (by assumption) ?_
      rotate_left
      · intro w hSw; (try dsimp only at hSw); go_simp; try with_reducible rfl
      try simp only [Act.put, List.setIfInBounds_toArray, List.set_cons_zero, List.set_cons_succ]
      refine wpAnyH_ready (rs := [15]) (by kernel_rfl) (by simp) ?_
      refine AllReadyH.cons rfl (fun K hK => ?_) AllReadyH.nil
      go_simp
      refine hK.out _ _ (HLC.out _ (B.out.drew.alloc B.out.size _)) (fun hHeld => ?_)
      clear hK K
      refine wpAnyH_ready (rs := [16]) (by kernel_rfl) (by simp) ?_
      refine AllReadyH.cons rfl (fun K hK => ?_) AllReadyH.nil
      go_simp
      obtain ⟨h, hh⟩ : ∃ h, h = wr.heap.size := ⟨_, rfl⟩
      obtain ⟨p1, hp1⟩ : ∃ p, p = 1 + m := ⟨_, rfl⟩
      obtain ⟨p2, hp2⟩ : ∃ p, p = 1 + n := ⟨_, rfl⟩
      obtain ⟨V1, hV1⟩ : ∃ V1, V1 = (wr.alloc (.cells #[.int .i64 p1, .int .i64 p2] 23)).drew := ⟨_, rfl⟩
      rw [← hp1, ← hp2] at HM HN HL1 ⊢
      have hb1 : Hid (Below wr.heap.size wr V1) := by rw [hV1]; exact (below_new wr _).drew
      have S1 : Hid (Blk V1 23 h #[.int .i64 p1, .int .i64 p2]) := by show Blk _ _ _ _; rw [hV1]; exact (Blk.new' wr _ _ _ hh.symm : Blk _ _ _ _)
      have hhw : Hid (wr.heap.size ≤ h) := Nat.le_of_eq hh.symm
      rw [← hV1, ← hh]
      clear hV1 hh
      refine hK.out _ _ (HLC.out _ (below_step B.out (Nat.le_refl _) hb1.out)) (fun hHeld => ?_)
      clear hK K
      refine wpAnyH_done (by kernel_rfl) (NoPanic.normal ?_) _
      clear hm hm0 hm3 hn hn0 hn1 hp1 hp2 hS0 HLC hw1 hw2
      have H1 : Hid (ClockAt V1 g (3, T)) := H.out.on hb1.out
      have Q1 : Hid (Blk V1 23 b #[.int .i64 x, .int .i64 y]) := Q.out.on hb1.out
      have B1 : Hid (Below W.heap.size W V1) := below_step B.out (Nat.le_refl _) hb1.out
      have hhg : ¬ (h = g) := fun e => by have a := H.out.1.lt; have c := hhw.out; omega
      clear H Q B hhw hb1
      have s0 : V1.cell? ⟨h, 0, none⟩ = some (.int .i64 p1) := S1.out.cell 0
      have s1 : V1.cell? ⟨h, 1, none⟩ = some (.int .i64 p2) := S1.out.cell 1
      go_wp2_with fail
      have C1 := csee_any g (3, T) (p1, p2) V1 H1.out
      rw [if_pos HM.out] at C1
      refine C1.mono ?_
      clear C1
      rintro e w2 ⟨rfl, h2⟩
      have H2 : Hid (ClockAt w2 g (seeP (3, T) (p1, p2))) := h2.1
      have Q2 : Hid (Blk w2 23 b #[.int .i64 x, .int .i64 y]) := Q1.out.kept h2.2 hbg (by simp)
      have S2 : Hid (Blk w2 23 h #[.int .i64 p1, .int .i64 p2]) := S1.out.kept h2.2 hhg (by simp)
      have B2 : Hid (Below W.heap.size W w2) := B1.out.trans (h2.below _ B1.out.size Lb.out.2)
      clear h2 H1 Q1 S1 B1 s0 s1
      go_wp2_with fail
      have C1 := cnext_any g (seeP (3, T) (p1, p2)) w2 H2.out
      rw [HN.out] at C1
      refine C1.mono ?_
      clear C1
      rintro e w3 ⟨rfl, h3⟩
      have H3 : Hid (ClockAt w3 g (3, N)) := h3.1
      have Q3 : Hid (Blk w3 23 b #[.int .i64 x, .int .i64 y]) := Q2.out.kept h3.2 hbg (by simp)
      have S3 : Hid (Blk w3 23 h #[.int .i64 p1, .int .i64 p2]) := S2.out.kept h3.2 hhg (by simp)
      have B3 : Hid (Below W.heap.size W w3) := B2.out.trans (h3.below _ B2.out.size Lb.out.2)
      clear h3 H2 Q2 S2 B2 HN
      rw [show stampV (((3 : Int), N), (N, (3 : Int)), (0 : Int)).2.1 = .agg #[.int .i64 N, .int .i64 3] from rfl]
      have s0 : (w3.alloc (.cells #[.int .i64 N, .int .i64 3] 23)).cell? ⟨h, 0, none⟩ = some (.int .i64 p1) := (S3.out.alloc _).cell 0
      have s1 : (w3.alloc (.cells #[.int .i64 N, .int .i64 3] 23)).cell? ⟨h, 1, none⟩ = some (.int .i64 p2) := (S3.out.alloc _).cell 1
      go_wp2_with fail
      have C1 := less_any (p1, p2) (N, 3) (w3.alloc (.cells #[.int .i64 N, .int .i64 3] 23))
      rw [decide_eq_true HL1.out] at C1
      refine C1.mono ?_
      clear C1 s0 s1
      rintro e w4 ⟨rfl, h4⟩
      obtain ⟨f, hf⟩ : ∃ f, f = w3.heap.size := ⟨_, rfl⟩
      have hb3 : Hid (Below w3.heap.size w3 w4) := below_step (below_new _ _) (Nat.le_refl _) h4
      have F4 : Hid (Blk w4 23 f #[.int .i64 N, .int .i64 3]) := (Blk.new' _ _ _ _ hf.symm).on h4
      have H4 : Hid (ClockAt w4 g (3, N)) := H3.out.on hb3.out
      have Q4 : Hid (Blk w4 23 b #[.int .i64 x, .int .i64 y]) := Q3.out.on hb3.out
      have B4 : Hid (Below W.heap.size W w4) := below_step B3.out (Nat.le_refl _) hb3.out
      have hfb : ¬ (f = b) := fun e => by have a := Q3.out.lt; omega
      rw [← hf]
      clear h4 hb3 hf S3 H3 Q3 B3
      have HS : Hid (∀ w', Below w4.heap.size w4 w' → (w'.cell? ⟨f, 0, none⟩ = some (.int .i64 N) ∧ w'.cell? ⟨f, 1, none⟩ = some (.int .i64 3)) ∧ w'.cell? ⟨b, 0, none⟩ = some (.int .i64 x) ∧ w'.cell? ⟨b, 1, none⟩ = some (.int .i64 y)) := fun w' hb => ⟨⟨(F4.out.on hb).cell 0, (F4.out.on hb).cell 1⟩, (Q4.out.on hb).cell 0, (Q4.out.on hb).cell 1⟩
      obtain ⟨⟨i0, i1⟩, i2, i3⟩ := HS.out _ (Below.refl _ _)
      go_wp2_with fail
      have C1 := less_any (x, y) (N, 3) w4
      rw [decide_eq_true HL2.out] at C1
      refine C1.mono ?_
      clear C1 i0 i1 i2 i3
      rintro e w5 ⟨rfl, h5⟩
      obtain ⟨⟨i0, i1⟩, i2, i3⟩ := HS.out _ h5
      have hb5 : Hid (Below w4.heap.size w4 w5) := h5
      clear h5
      go_wp2_with fail
      have C1 := checkS_any (N, 3) w5
      rw [if_pos HMN.out] at C1
      refine C1.mono ?_
      clear C1 i0 i1 i2 i3
      rintro e w6 ⟨rfl, h6⟩
      have hb6 : Hid (Below w4.heap.size w4 w6) := below_step hb5.out (Nat.le_refl _) h6
      obtain ⟨⟨i0, i1⟩, i2, i3⟩ := HS.out _ hb6.out
      have Q6 : Hid (Blk w6 23 b #[.int .i64 x, .int .i64 y]) := Q4.out.on hb6.out
      have f0 := Q6.out.free 0
      have f1 := Q6.out.free 1
      have H6 : Hid (ClockAt w6 g (3, N)) := H4.out.on hb6.out
      have B6 : Hid (Below W.heap.size W w6) := below_step B4.out (Nat.le_refl _) hb6.out
      clear h6 hb5 hb6 HS H4 Q4 B4 F4
      obtain ⟨V, hV⟩ : ∃ V, V = (w6.setCell ⟨b, 0, none⟩ (.int .i64 N)).setCell ⟨b, 1, none⟩ (.int .i64 3) := ⟨_, rfl⟩
      have HV : Hid (ClockAt V g (3, N)) := by
        rw [hV]; exact ⟨(H6.out.1.other ⟨b, 0, none⟩ hgb _).other ⟨b, 1, none⟩ hgb _, H6.out.2⟩
      have QV : Hid (Blk V 23 b #[.int .i64 N, .int .i64 3]) := by
        show Blk _ _ _ _
        rw [hV]; exact (Q6.out.setAt 0 _).setAt 1 _
      have BV : Hid (Below W.heap.size W V) := by
        rw [hV]; exact (B6.out.setCell (p := ⟨b, 0, none⟩) Lb.out.1 _).setCell (p := ⟨b, 1, none⟩) Lb.out.1 _
      have HVV : Hid (V = (w6.setCell ⟨b, 0, none⟩ (.int .i64 N)).setCell ⟨b, 1, none⟩ (.int .i64 3)) := hV
      clear hV
      go_wp2
      rw [← HVV.out]
      refine ⟨⟨k + 1, N, N, 3, by omega, by omega, by go_num, HV, QV, BV, Int.le_refl _, HNk.out⟩, ?_⟩
      simp [intOf]; omega
    · have hend : Hid (Below W.heap.size W wr) := B
      clear H Q B
      by_cases h6 : k < len
      · have d0 : (k : Int) < (len : Int) := by omega
        have hk60 : k = 40 := by omega
        subst hk60
        go_wp2_with fail
        refine (awake10 _).mono ?_
        rintro e w2 ⟨rfl, hb2⟩
        have HB2 : Hid (Below W.heap.size W w2) := below_step hend.out (Nat.le_refl _) hb2
        clear hb2
        go_wp2
        go_ret
        exact ⟨rfl, HB2.out⟩
      · have hkl : k = len := by omega
        subst hkl
        go_wp2_with fail
        refine (awake10 _).mono ?_
        rintro e w2 ⟨rfl, hb2⟩
        have HB2 : Hid (Below W.heap.size W w2) := below_step hend.out (Nat.le_refl _) hb2
        clear hb2
        go_wp2
        go_ret
        exact ⟨rfl, HB2.out⟩

theorem clockRises_law (a : Option Addr) (len cap : Nat) (W : World) (z : ∃ l, StampsAt W a len l ∧ len ≤ maxLen ∧ ∀ q ∈ l, (Lit.int .i64 q.1).wf = true ∧ (Lit.int .i64 q.2).wf = true) :
    Calls Try.prog 5 #[.slice a len cap] W fun e w' => e = .returned (.bool true) ∧ Below W.heap.size W w' := by
  obtain ⟨l, hl, hm, _⟩ := z
  exact clockRises_walk a len cap l W hl hm
end Go.Proofs.Ytegbjglkglmgiaa
