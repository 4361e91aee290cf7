/- RelayFetches' walk. -/
import Derived.Test.YtmlpbbancoedgaaRF1
namespace Go.Proofs.Ytmlpbbancoedgaa
open Go.RowKit
set_option maxRecDepth 100000
set_option linter.unusedSimpArgs false
set_option linter.unusedVariables false

theorem tmodN (a b : Nat) : (a : Int).tmod (b : Int) = ((a % b : Nat) : Int) := by
  rw [Int.tmod_eq_emod_of_nonneg (by omega)]; omega

def sOf (la : List Int) (i : Nat) : Nat := (la.getD i 0 % 4096).toNat % 3000
theorem sOf_lt (la : List Int) (i : Nat) : sOf la i < 3000 := Nat.mod_lt _ (by decide)



set_option maxHeartbeats 20000000 in
theorem relayFetches_walk (a : Option Addr) (len cap : Nat) (most : Int) (w : World) (hz : ∃ l, IntsAt w .i64 a len l ∧ len ≤ maxLen ∧ ∀ q ∈ l, (Lit.int .i64 q).wf = true) :
    Calls Try.prog 5 #[.slice a len cap, .int .i64 most] w fun e w' => e = .returned (.bool true) ∧ Below w.heap.size w w' := by
  obtain ⟨la, hI, hml, _⟩ := hz
  have HI : Hid (IntsAt w .i64 a len la) := hI
  have hlen : len ≤ 9223372036854775807 := by unfold maxLen at hml; omega
  obtain ⟨s, hs⟩ : ∃ s, sOf la = s := ⟨_, rfl⟩
  have HSL : Hid (∀ i, s i < 3000) := fun i => by rw [← hs]; exact sOf_lt la i
  have HSO : Hid (sOf la = s) := hs
  obtain ⟨M0, hm0⟩ : ∃ M0 : Nat, (most % 8).toNat = M0 := ⟨_, rfl⟩
  have hM0 : M0 < 8 := by omega
  have hma : bits .and .i64 most 7 = (M0 : Int) := by rw [i64_mask most 3 (by decide) 7 (by decide)]; omega
  obtain ⟨M, hM⟩ : ∃ M, 1 + M0 = M := ⟨_, rfl⟩
  have hmw : IntKind.i64.wrap (1 + (M0 : Int)) = (M : Int) := by rw [IntKind.wrap_i64]; omega
  have HM : Hid (1 ≤ M ∧ M ≤ 8) := ⟨by omega, by omega⟩
  have CN : Hid (Calls _ _ _ _ _) := new_any 0 1048576 w (by decide) (by decide) (by decide) (by decide)
  clear hI hml hs hm0 hM0 hM
  go_enter Try.func5, Try.ntmps5
  go_wp2_with fail
  refine CN.out.mono ?_
  rintro e w1 ⟨rfl, hr1, hb1⟩
  have HS1 : Hid (RlV w w.heap.size (feX s 0) w1) := ⟨hb1, Nat.le_refl _, _, hr1, fun k hk => by cases hk⟩
  clear hr1 hb1 CN
  go_wp2_with fail
  go_loopw [7, 8] (fun u v wr => ∃ i : Nat, i ≤ len ∧ i ≤ 30 ∧ u = .int .i64 i ∧ v = .int .i64 i ∧ Hid (RlV w w.heap.size (feX s i) wr)) (fun _ v _ => 31 - (intOf v).toNat)
  case atStart => exact ⟨0, Nat.zero_le _, by omega, rfl, rfl, HS1⟩
  case round =>
    clear HS1
    obtain ⟨i, hi, hi30, rfl, rfl, HS⟩ := hrel
    by_cases hlt : i < len ∧ i < 30
    · have b0 : (i : Int) < (len : Int) := by omega
      have b1 : (i : Int) < 30 := by omega
      have hi3 : i < 30 := hlt.2
      obtain ⟨lb, off, rfl, hcl⟩ := (HI.out.below HS.out.bel).2.resolve_left (by omega)
      have c0 := hcl i hlt.1
      obtain ⟨z, hzz⟩ : ∃ z, la.getD i 0 = z := ⟨_, rfl⟩
      rw [hzz] at c0
      obtain ⟨q, hq⟩ : ∃ q : Nat, (z % 4096).toNat = q := ⟨_, rfl⟩
      have hqa : bits .and .i64 z 4095 = (q : Int) := by rw [i64_mask z 12 (by decide) 4095 (by decide)]; omega
      obtain ⟨n, hn⟩ : ∃ n, q % 3000 = n := ⟨_, rfl⟩
      have hqt : (q : Int).tmod 3000 = (n : Int) := by have := tmodN q 3000; rw [hn] at this; exact this
      have hn3 : n < 3000 := by omega
      have hsi : s i = n := by rw [← HSO.out]; unfold sOf; rw [hzz, hq, hn]
      have HSI : Hid (s i = n) := hsi
      have hszz : ¬ (9223372036854775807 < (oneB i).size + (zeroB n).size) := by rw [oneB_size, zeroB_sz]; omega
      have hw3 : IntKind.u8.wrap (i : Int) = (i : Int) := by rw [IntKind.wrap_u8]; omega
      have hmk := fun W => make_zeros n (n : Int) rfl (by omega) W
      clear hcl hzz hq hn hlt hsi
      go_wp2_with fail
      go_cut [9] (fun u wx => u = .string (feB i n) ∧ Hid (Below wr.heap.size wr wx))
      case first =>
        refine wp_region_noPanic ?_
        refine wp_region_held_drew (S := fun W => W.cell? ⟨lb, off + i, none⟩ = some (.int .i64 z)) (by kernel_rfl) (by first | exact trivial | assumption | exact ⟨by assumption, by assumption⟩) (fun hHeld => ?_)
        obtain ⟨V0, hV0⟩ : ∃ V0, wr.drew = V0 := ⟨_, rfl⟩
        have hbV0 : Below wr.heap.size wr V0 := by rw [← hV0]; exact (Below.refl _ _).drew
        have hs0 : V0.cell? ⟨lb, off + i, none⟩ = some (.int .i64 z) := by rw [← hV0]; exact c0
        rw [hV0]
        clear hV0 hHeld
        refine take_at (i := 0) (v := ?_) rfl rfl (by kernel_rfl) (by kernel_rfl) (by kernel_rfl) (fun _ _ _ h => h) (Or.inl ⟨by rfl, ?_⟩) (by assumption) ?_
        rotate_left
        · intro w hSw; (try dsimp only at hSw); go_simp; try with_reducible rfl
        try simp only [Act.put, List.setIfInBounds_toArray, List.set_cons_zero, List.set_cons_succ]
        refine take_at (i := 1) (v := ?_) rfl rfl (by kernel_rfl) (by kernel_rfl) (by kernel_rfl) (fun _ _ _ h => h) (Or.inl ⟨by rfl, ?_⟩) (by assumption) ?_
        rotate_left
        · intro w hSw; (try dsimp only at hSw); go_simp; try with_reducible rfl
        try simp only [Act.put, List.setIfInBounds_toArray, List.set_cons_zero, List.set_cons_succ]
        refine take_at (i := 4) (v := ?_) rfl rfl (by kernel_rfl) (by kernel_rfl) (by kernel_rfl) (fun _ _ _ h => h) (Or.inl ⟨by rfl, ?_⟩) (by assumption) ?_
        rotate_left
        · intro w hSw; (try dsimp only at hSw); go_simp; try with_reducible rfl
        try simp only [Act.put, List.setIfInBounds_toArray, List.set_cons_zero, List.set_cons_succ]
        refine take_at (i := 5) (v := ?_) rfl rfl (by kernel_rfl) (by kernel_rfl) (by kernel_rfl) (fun _ _ _ h => h) (Or.inl ⟨by rfl, ?_⟩) (by assumption) ?_
        rotate_left
        · intro w hSw; (try dsimp only at hSw); go_simp; try with_reducible rfl
        try simp only [Act.put, List.setIfInBounds_toArray, List.set_cons_zero, List.set_cons_succ]
        refine take_at (i := 6) (v := ?_) rfl rfl (by kernel_rfl) (by kernel_rfl) (by kernel_rfl) (fun _ _ _ h => h) (Or.inl ⟨by rfl, ?_⟩) (by assumption) ?_
        rotate_left
        · intro w hSw; (try dsimp only at hSw); go_simp; try with_reducible rfl
        try simp only [Act.put, List.setIfInBounds_toArray, List.set_cons_zero, List.set_cons_succ]
        refine take_at (i := 7) (v := ?_) rfl rfl (by kernel_rfl) (by kernel_rfl) (by kernel_rfl) (fun _ _ _ h => h) (Or.inl ⟨by rfl, ?_⟩) (by assumption) ?_
        rotate_left
        · intro w hSw; (try dsimp only at hSw); go_simp; try with_reducible rfl
        try simp only [Act.put, List.setIfInBounds_toArray, List.set_cons_zero, List.set_cons_succ]
        refine take_at (i := 8) (v := ?_) rfl rfl (by kernel_rfl) (by kernel_rfl) (by kernel_rfl) (fun _ _ _ h => h) (Or.inl ⟨by rfl, ?_⟩) (by assumption) ?_
        rotate_left
        · intro w hSw; (try dsimp only at hSw); go_simp; try with_reducible rfl
        try simp only [Act.put, List.setIfInBounds_toArray, List.set_cons_zero, List.set_cons_succ]
        refine take_at (i := 9) (v := ?_) rfl rfl (by kernel_rfl) (by kernel_rfl) (by kernel_rfl) (fun _ _ _ h => h) (Or.inl ⟨by rfl, ?_⟩) (by assumption) ?_
        rotate_left
        · intro w hSw; (try dsimp only at hSw); go_simp; try with_reducible rfl
        try simp only [Act.put, List.setIfInBounds_toArray, List.set_cons_zero, List.set_cons_succ]
        refine wpAnyH_ready (rs := [2, 10]) (by kernel_rfl) (by simp) ?_
        refine (AllReadyH.cons rfl (fun K hK => ?_) (AllReadyH.cons rfl (fun K hK => ?_) AllReadyH.nil))
        · go_simp
          have hb2 : Below wr.heap.size wr (V0.alloc (.cells #[.int .u8 (i : Int)] 5)) := hbV0.alloc hbV0.size _
          have hs2 : (V0.alloc (.cells #[.int .u8 (i : Int)] 5)).cell? ⟨lb, off + i, none⟩ = some (.int .i64 z) := by rw [((below_new V0 _).cell (World.block_lt_of_cell? V0 _ hs0))]; exact hs0
          have r1 : Row8 (V0.alloc (.cells #[.int .u8 (i : Int)] 5)) (V0.heap.size) 1 (fun _ => i) := by have h := row_oneR V0 i; rw [show V0.heap.size = V0.heap.size by simp] at h; exact h
          refine hK.out _ _ hs2 (fun hHeld => ?_)
          clear hK K
          refine wpAnyH_ready (rs := [3, 10]) (by kernel_rfl) (by simp) ?_
          refine (AllReadyH.cons rfl (fun K hK => ?_) (AllReadyH.cons rfl (fun K hK => ?_) AllReadyH.nil))
          · have hcv1 := conv_oneR r1 (by omega)
            go_simp
            refine hK.out _ _ hs2 (fun hHeld => ?_)
            clear hK K
            refine wpAnyH_ready (rs := [10]) (by kernel_rfl) (by simp) ?_
            refine (AllReadyH.cons rfl (fun K hK => ?_) AllReadyH.nil)
            · go_simp
              have hb3 : Below wr.heap.size wr ((V0.alloc (.cells #[.int .u8 (i : Int)] 5)).alloc (.cells (zcells n) 5)) := hb2.alloc hb2.size _
              have hs3 : ((V0.alloc (.cells #[.int .u8 (i : Int)] 5)).alloc (.cells (zcells n) 5)).cell? ⟨lb, off + i, none⟩ = some (.int .i64 z) := by rw [((below_new (V0.alloc (.cells #[.int .u8 (i : Int)] 5)) _).cell (World.block_lt_of_cell? (V0.alloc (.cells #[.int .u8 (i : Int)] 5)) _ hs2))]; exact hs2
              have r2 : Row8 ((V0.alloc (.cells #[.int .u8 (i : Int)] 5)).alloc (.cells (zcells n) 5)) (V0.heap.size + 1) n (fun _ => 0) := by have h := row_zeros n (V0.alloc (.cells #[.int .u8 (i : Int)] 5)); rw [show (V0.alloc (.cells #[.int .u8 (i : Int)] 5)).heap.size = V0.heap.size + 1 by simp] at h; exact h
              have r1 : Row8 ((V0.alloc (.cells #[.int .u8 (i : Int)] 5)).alloc (.cells (zcells n) 5)) (V0.heap.size) 1 (fun _ => i) := Row8.alloc r1 _
              refine hK.out _ _ hs3 (fun hHeld => ?_)
              clear hK K
              refine wpAnyH_ready (rs := [11]) (by kernel_rfl) (by simp) ?_
              refine (AllReadyH.cons rfl (fun K hK => ?_) AllReadyH.nil)
              · have hcv2 := conv_zeros r2
                go_simp
                refine hK.out _ _ hs3 (fun hHeld => ?_)
                clear hK K
                refine take_at (i := 12) (v := ?_) rfl rfl (by kernel_rfl) (by kernel_rfl) (by kernel_rfl) (fun _ _ _ h => h) (Or.inl ⟨by rfl, ?_⟩) (by assumption) ?_
                rotate_left
                · intro w hSw; (try dsimp only at hSw); go_simp; try with_reducible rfl
                try simp only [Act.put, List.setIfInBounds_toArray, List.set_cons_zero, List.set_cons_succ]
                refine take_at (i := 13) (v := ?_) rfl rfl (by kernel_rfl) (by kernel_rfl) (by kernel_rfl) (fun _ _ _ h => h) (Or.inl ⟨by rfl, ?_⟩) (by assumption) ?_
                rotate_left
                · intro w hSw; (try dsimp only at hSw); go_simp; try with_reducible rfl
                try simp only [Act.put, List.setIfInBounds_toArray, List.set_cons_zero, List.set_cons_succ]
                refine wpAnyH_done (by kernel_rfl) (NoPanic.normal ?_) _
                go_wp2_with fail
                go_meet
                case rel => exact ⟨rfl, hb3⟩
          · go_simp
            have hb3 : Below wr.heap.size wr ((V0.alloc (.cells #[.int .u8 (i : Int)] 5)).alloc (.cells (zcells n) 5)) := hb2.alloc hb2.size _
            have hs3 : ((V0.alloc (.cells #[.int .u8 (i : Int)] 5)).alloc (.cells (zcells n) 5)).cell? ⟨lb, off + i, none⟩ = some (.int .i64 z) := by rw [((below_new (V0.alloc (.cells #[.int .u8 (i : Int)] 5)) _).cell (World.block_lt_of_cell? (V0.alloc (.cells #[.int .u8 (i : Int)] 5)) _ hs2))]; exact hs2
            have r2 : Row8 ((V0.alloc (.cells #[.int .u8 (i : Int)] 5)).alloc (.cells (zcells n) 5)) (V0.heap.size + 1) n (fun _ => 0) := by have h := row_zeros n (V0.alloc (.cells #[.int .u8 (i : Int)] 5)); rw [show (V0.alloc (.cells #[.int .u8 (i : Int)] 5)).heap.size = V0.heap.size + 1 by simp] at h; exact h
            have r1 : Row8 ((V0.alloc (.cells #[.int .u8 (i : Int)] 5)).alloc (.cells (zcells n) 5)) (V0.heap.size) 1 (fun _ => i) := Row8.alloc r1 _
            refine hK.out _ _ hs3 (fun hHeld => ?_)
            clear hK K
            refine wpAnyH_ready (rs := [3, 11]) (by kernel_rfl) (by simp) ?_
            refine (AllReadyH.cons rfl (fun K hK => ?_) (AllReadyH.cons rfl (fun K hK => ?_) AllReadyH.nil))
            · have hcv1 := conv_oneR r1 (by omega)
              go_simp
              refine hK.out _ _ hs3 (fun hHeld => ?_)
              clear hK K
              refine wpAnyH_ready (rs := [11]) (by kernel_rfl) (by simp) ?_
              refine (AllReadyH.cons rfl (fun K hK => ?_) AllReadyH.nil)
              · have hcv2 := conv_zeros r2
                go_simp
                refine hK.out _ _ hs3 (fun hHeld => ?_)
                clear hK K
                refine take_at (i := 12) (v := ?_) rfl rfl (by kernel_rfl) (by kernel_rfl) (by kernel_rfl) (fun _ _ _ h => h) (Or.inl ⟨by rfl, ?_⟩) (by assumption) ?_
                rotate_left
                · intro w hSw; (try dsimp only at hSw); go_simp; try with_reducible rfl
                try simp only [Act.put, List.setIfInBounds_toArray, List.set_cons_zero, List.set_cons_succ]
                refine take_at (i := 13) (v := ?_) rfl rfl (by kernel_rfl) (by kernel_rfl) (by kernel_rfl) (fun _ _ _ h => h) (Or.inl ⟨by rfl, ?_⟩) (by assumption) ?_
                rotate_left
                · intro w hSw; (try dsimp only at hSw); go_simp; try with_reducible rfl
                try simp only [Act.put, List.setIfInBounds_toArray, List.set_cons_zero, List.set_cons_succ]
                refine wpAnyH_done (by kernel_rfl) (NoPanic.normal ?_) _
                go_wp2_with fail
                go_meet
                case rel => exact ⟨rfl, hb3⟩
            · have hcv2 := conv_zeros r2
              go_simp
              refine hK.out _ _ hs3 (fun hHeld => ?_)
              clear hK K
              refine wpAnyH_ready (rs := [3]) (by kernel_rfl) (by simp) ?_
              refine (AllReadyH.cons rfl (fun K hK => ?_) AllReadyH.nil)
              · have hcv1 := conv_oneR r1 (by omega)
                go_simp
                refine hK.out _ _ hs3 (fun hHeld => ?_)
                clear hK K
                refine take_at (i := 12) (v := ?_) rfl rfl (by kernel_rfl) (by kernel_rfl) (by kernel_rfl) (fun _ _ _ h => h) (Or.inl ⟨by rfl, ?_⟩) (by assumption) ?_
                rotate_left
                · intro w hSw; (try dsimp only at hSw); go_simp; try with_reducible rfl
                try simp only [Act.put, List.setIfInBounds_toArray, List.set_cons_zero, List.set_cons_succ]
                refine take_at (i := 13) (v := ?_) rfl rfl (by kernel_rfl) (by kernel_rfl) (by kernel_rfl) (fun _ _ _ h => h) (Or.inl ⟨by rfl, ?_⟩) (by assumption) ?_
                rotate_left
                · intro w hSw; (try dsimp only at hSw); go_simp; try with_reducible rfl
                try simp only [Act.put, List.setIfInBounds_toArray, List.set_cons_zero, List.set_cons_succ]
                refine wpAnyH_done (by kernel_rfl) (NoPanic.normal ?_) _
                go_wp2_with fail
                go_meet
                case rel => exact ⟨rfl, hb3⟩
        · go_simp
          have hb3 : Below wr.heap.size wr (V0.alloc (.cells (zcells n) 5)) := hbV0.alloc hbV0.size _
          have hs3 : (V0.alloc (.cells (zcells n) 5)).cell? ⟨lb, off + i, none⟩ = some (.int .i64 z) := by rw [((below_new V0 _).cell (World.block_lt_of_cell? V0 _ hs0))]; exact hs0
          have r2 : Row8 (V0.alloc (.cells (zcells n) 5)) (V0.heap.size) n (fun _ => 0) := by have h := row_zeros n V0; rw [show V0.heap.size = V0.heap.size by simp] at h; exact h
          refine hK.out _ _ hs3 (fun hHeld => ?_)
          clear hK K
          refine wpAnyH_ready (rs := [2, 11]) (by kernel_rfl) (by simp) ?_
          refine (AllReadyH.cons rfl (fun K hK => ?_) (AllReadyH.cons rfl (fun K hK => ?_) AllReadyH.nil))
          · go_simp
            have hb2 : Below wr.heap.size wr ((V0.alloc (.cells (zcells n) 5)).alloc (.cells #[.int .u8 (i : Int)] 5)) := hb3.alloc hb3.size _
            have hs2 : ((V0.alloc (.cells (zcells n) 5)).alloc (.cells #[.int .u8 (i : Int)] 5)).cell? ⟨lb, off + i, none⟩ = some (.int .i64 z) := by rw [((below_new (V0.alloc (.cells (zcells n) 5)) _).cell (World.block_lt_of_cell? (V0.alloc (.cells (zcells n) 5)) _ hs3))]; exact hs3
            have r1 : Row8 ((V0.alloc (.cells (zcells n) 5)).alloc (.cells #[.int .u8 (i : Int)] 5)) (V0.heap.size + 1) 1 (fun _ => i) := by have h := row_oneR (V0.alloc (.cells (zcells n) 5)) i; rw [show (V0.alloc (.cells (zcells n) 5)).heap.size = V0.heap.size + 1 by simp] at h; exact h
            have r2 : Row8 ((V0.alloc (.cells (zcells n) 5)).alloc (.cells #[.int .u8 (i : Int)] 5)) (V0.heap.size) n (fun _ => 0) := Row8.alloc r2 _
            refine hK.out _ _ hs2 (fun hHeld => ?_)
            clear hK K
            refine wpAnyH_ready (rs := [3, 11]) (by kernel_rfl) (by simp) ?_
            refine (AllReadyH.cons rfl (fun K hK => ?_) (AllReadyH.cons rfl (fun K hK => ?_) AllReadyH.nil))
            · have hcv1 := conv_oneR r1 (by omega)
              go_simp
              refine hK.out _ _ hs2 (fun hHeld => ?_)
              clear hK K
              refine wpAnyH_ready (rs := [11]) (by kernel_rfl) (by simp) ?_
              refine (AllReadyH.cons rfl (fun K hK => ?_) AllReadyH.nil)
              · have hcv2 := conv_zeros r2
                go_simp
                refine hK.out _ _ hs2 (fun hHeld => ?_)
                clear hK K
                refine take_at (i := 12) (v := ?_) rfl rfl (by kernel_rfl) (by kernel_rfl) (by kernel_rfl) (fun _ _ _ h => h) (Or.inl ⟨by rfl, ?_⟩) (by assumption) ?_
                rotate_left
                · intro w hSw; (try dsimp only at hSw); go_simp; try with_reducible rfl
                try simp only [Act.put, List.setIfInBounds_toArray, List.set_cons_zero, List.set_cons_succ]
                refine take_at (i := 13) (v := ?_) rfl rfl (by kernel_rfl) (by kernel_rfl) (by kernel_rfl) (fun _ _ _ h => h) (Or.inl ⟨by rfl, ?_⟩) (by assumption) ?_
                rotate_left
                · intro w hSw; (try dsimp only at hSw); go_simp; try with_reducible rfl
                try simp only [Act.put, List.setIfInBounds_toArray, List.set_cons_zero, List.set_cons_succ]
                refine wpAnyH_done (by kernel_rfl) (NoPanic.normal ?_) _
                go_wp2_with fail
                go_meet
                case rel => exact ⟨rfl, hb2⟩
            · have hcv2 := conv_zeros r2
              go_simp
              refine hK.out _ _ hs2 (fun hHeld => ?_)
              clear hK K
              refine wpAnyH_ready (rs := [3]) (by kernel_rfl) (by simp) ?_
              refine (AllReadyH.cons rfl (fun K hK => ?_) AllReadyH.nil)
              · have hcv1 := conv_oneR r1 (by omega)
                go_simp
                refine hK.out _ _ hs2 (fun hHeld => ?_)
                clear hK K
                refine take_at (i := 12) (v := ?_) rfl rfl (by kernel_rfl) (by kernel_rfl) (by kernel_rfl) (fun _ _ _ h => h) (Or.inl ⟨by rfl, ?_⟩) (by assumption) ?_
                rotate_left
                · intro w hSw; (try dsimp only at hSw); go_simp; try with_reducible rfl
                try simp only [Act.put, List.setIfInBounds_toArray, List.set_cons_zero, List.set_cons_succ]
                refine take_at (i := 13) (v := ?_) rfl rfl (by kernel_rfl) (by kernel_rfl) (by kernel_rfl) (fun _ _ _ h => h) (Or.inl ⟨by rfl, ?_⟩) (by assumption) ?_
                rotate_left
                · intro w hSw; (try dsimp only at hSw); go_simp; try with_reducible rfl
                try simp only [Act.put, List.setIfInBounds_toArray, List.set_cons_zero, List.set_cons_succ]
                refine wpAnyH_done (by kernel_rfl) (NoPanic.normal ?_) _
                go_wp2_with fail
                go_meet
                case rel => exact ⟨rfl, hb2⟩
          · have hcv2 := conv_zeros r2
            go_simp
            refine hK.out _ _ hs3 (fun hHeld => ?_)
            clear hK K
            refine wpAnyH_ready (rs := [2]) (by kernel_rfl) (by simp) ?_
            refine (AllReadyH.cons rfl (fun K hK => ?_) AllReadyH.nil)
            · go_simp
              have hb2 : Below wr.heap.size wr ((V0.alloc (.cells (zcells n) 5)).alloc (.cells #[.int .u8 (i : Int)] 5)) := hb3.alloc hb3.size _
              have hs2 : ((V0.alloc (.cells (zcells n) 5)).alloc (.cells #[.int .u8 (i : Int)] 5)).cell? ⟨lb, off + i, none⟩ = some (.int .i64 z) := by rw [((below_new (V0.alloc (.cells (zcells n) 5)) _).cell (World.block_lt_of_cell? (V0.alloc (.cells (zcells n) 5)) _ hs3))]; exact hs3
              have r1 : Row8 ((V0.alloc (.cells (zcells n) 5)).alloc (.cells #[.int .u8 (i : Int)] 5)) (V0.heap.size + 1) 1 (fun _ => i) := by have h := row_oneR (V0.alloc (.cells (zcells n) 5)) i; rw [show (V0.alloc (.cells (zcells n) 5)).heap.size = V0.heap.size + 1 by simp] at h; exact h
              have r2 : Row8 ((V0.alloc (.cells (zcells n) 5)).alloc (.cells #[.int .u8 (i : Int)] 5)) (V0.heap.size) n (fun _ => 0) := Row8.alloc r2 _
              refine hK.out _ _ hs2 (fun hHeld => ?_)
              clear hK K
              refine wpAnyH_ready (rs := [3]) (by kernel_rfl) (by simp) ?_
              refine (AllReadyH.cons rfl (fun K hK => ?_) AllReadyH.nil)
              · have hcv1 := conv_oneR r1 (by omega)
                go_simp
                refine hK.out _ _ hs2 (fun hHeld => ?_)
                clear hK K
                refine take_at (i := 12) (v := ?_) rfl rfl (by kernel_rfl) (by kernel_rfl) (by kernel_rfl) (fun _ _ _ h => h) (Or.inl ⟨by rfl, ?_⟩) (by assumption) ?_
                rotate_left
                · intro w hSw; (try dsimp only at hSw); go_simp; try with_reducible rfl
                try simp only [Act.put, List.setIfInBounds_toArray, List.set_cons_zero, List.set_cons_succ]
                refine take_at (i := 13) (v := ?_) rfl rfl (by kernel_rfl) (by kernel_rfl) (by kernel_rfl) (fun _ _ _ h => h) (Or.inl ⟨by rfl, ?_⟩) (by assumption) ?_
                rotate_left
                · intro w hSw; (try dsimp only at hSw); go_simp; try with_reducible rfl
                try simp only [Act.put, List.setIfInBounds_toArray, List.set_cons_zero, List.set_cons_succ]
                refine wpAnyH_done (by kernel_rfl) (NoPanic.normal ?_) _
                go_wp2_with fail
                go_meet
                case rel => exact ⟨rfl, hb2⟩
      case rest =>
        obtain ⟨rfl, HB⟩ := hcut
        have HSc : Hid (RlV w w.heap.size (feX s i) wc) := HS.out.on HB.out
        clear HB HS c0 hmk
        have hok := feX_ok s HSL.out i (by omega)
        have hadd := fe_add s HSL.out i hi3
        rw [HSI.out] at hadd
        have hw4 : IntKind.i64.wrap ((i : Int) + 1) = (i : Int) + 1 := by rw [IntKind.wrap_i64]; omega
        go_wp2_with fail
        have CA' := ask_gen w w.heap.size (feX s i) i hok.1 hok.2 (by omega) _ (appF_fit (g := 0) (E := 1) (b := feB i n) inN_zero ⟨by decide, by decide⟩ (by rw [feB_size]; omega)) rfl (feX s (i + 1)) (takF ((i : Int) + 1)) hadd _ HSc.out
        simp only [frmA, appF, takF, withG, List.length_nil, show (feX s i).1 = 0 from rfl] at CA'
        have CA : Hid (Calls _ _ _ _ _) := CA'
        clear CA'
        refine CA.out.mono ?_
        rintro e w2 ⟨a2, c2, rfl, _, _, hs2, ho2⟩
        have HS2a : Hid (RlV w w.heap.size (feX s (i + 1)) w2) := hs2
        have hb2 : Below w2.heap.size w2 (w2.alloc (.cells #[.int .i64 2, .int .i64 0, .int .i64 ((i : Int) + 1), .int .i64 0, .int .i64 0, .string ⟨#[]⟩, .slice a2 0 c2, .int .i64 0] 39)) := below_new _ _
        have HS3 : Hid (RlV w w.heap.size (feX s (i + 1)) (w2.alloc (.cells #[.int .i64 2, .int .i64 0, .int .i64 ((i : Int) + 1), .int .i64 0, .int .i64 0, .string ⟨#[]⟩, .slice a2 0 c2, .int .i64 0] 39))) := HS2a.out.on hb2
        have g2 : (w2.alloc (.cells #[.int .i64 2, .int .i64 0, .int .i64 ((i : Int) + 1), .int .i64 0, .int .i64 0, .string ⟨#[]⟩, .slice a2 0 c2, .int .i64 0] 39)).cell? ⟨w2.heap.size, 2, none⟩ = some (.int .i64 ((i : Int) + 1)) := (Blk.new w2 39 #[.int .i64 2, .int .i64 0, .int .i64 ((i : Int) + 1), .int .i64 0, .int .i64 0, .string ⟨#[]⟩, .slice a2 0 c2, .int .i64 0]).cell 2
        clear CA hs2 ho2 hok hadd HSc HS2a hb2
        go_wp2_with fail
        refine ⟨?_, ?_⟩
        · first
          | exact ⟨i + 1, by omega, by omega, by go_num, by go_num, HS3⟩
          | ((repeat apply Exists.intro); refine ⟨?_, rfl⟩; exact ⟨i + 1, by omega, by omega, by go_num, by go_num, HS3⟩)
        · simp [intOf] <;> omega
    · have HN30 : Hid (i ≤ 30) := hi30
      obtain ⟨n, hn⟩ : ∃ n, i = n := ⟨_, rfl⟩
      subst hn
      by_cases hlt1 : i < len
      · have b0 : (i : Int) < (len : Int) := by omega
        have b1 : ¬ ((i : Int) < 30) := by omega
        clear hlt hlt1
        go_wp2_with fail
        go_loopw [12, 13] (fun u v wq => ∃ t j : Nat, t ≤ i ∧ j ≤ 40 ∧ u = .int .i64 t ∧ v = .int .i64 j ∧ Hid (j ≤ t ∨ t = i) ∧ Hid (RlV w w.heap.size (feX s i) wq)) (fun _ v _ => 41 - (intOf v).toNat)
        case atStart => exact ⟨0, 0, Nat.zero_le _, by omega, rfl, rfl, .inl (Nat.le_refl _), HS⟩
        case round =>
          rename World => wq
          obtain ⟨t, j, ht, hj, rfl, rfl, HJ, HSq⟩ := hrel
          clear HS b0
          by_cases h1 : t < i
          · have hj40 : j < 40 := by have := HN30.out; rcases HJ.out with h | h <;> omega
            have b2 : (j : Int) < 40 := by omega
            have b3 : (t : Int) < (i : Int) := by omega
            have hok := feX_ok s HSL.out i HN30.out
            have hg := fe_get s HSL.out i t M ht HN30.out (by have := HM.out; omega)
            have hw4 : IntKind.i64.wrap ((t : Int) + 1) = (t : Int) + 1 := by have := HN30.out; rw [IntKind.wrap_i64]; omega
            have hmz : (0 : Int) ≤ (M : Int) ∧ (M : Int) ≤ 1099511627775 := by have := HM.out; omega
            go_wp2_with fail
            have CA' := ask_gen w w.heap.size (feX s i) i hok.1 hok.2 (by have := HN30.out; omega) _ (fetF_fit (g := 0) (s := (t : Int) + 1) (m := (M : Int)) inN_zero ⟨by omega, by have := HN30.out; omega⟩ hmz) rfl (feX s i) _ hg _ HSq.out
            have hCl := feC_len s i t M
            obtain ⟨C, hC⟩ : ∃ C, (feC s i t M).length = C := ⟨_, rfl⟩
            simp only [frmA, fetF, withG, show (feX s i).1 = 0 from rfl] at CA'
            rw [hC] at CA' hCl
            have CA : Hid (Calls _ _ _ _ _) := CA'
            have HC : Hid (C = min M (i - t) ∧ (feC s i t M).length = C ∧ 1 ≤ C) := ⟨hCl, hC, by have := HM.out; omega⟩
            have hc1 : ¬ (C = 0) := by have := HC.out; omega
            have hc2 : ¬ ((C : Int) = 0) := by omega
            have hc3 : ¬ ((M : Int) < (C : Int)) := by have := HC.out; omega
            have hc4 : ¬ (M < C) := by omega
            clear CA' hCl hC hg hok hmz
            refine CA.out.mono ?_
            rintro e w4 ⟨a4, c4, rfl, _, hi4, hs4, ho4⟩
            have hb4 : Below w4.heap.size w4 (w4.alloc (.cells #[.int .i64 4, .int .i64 0, .int .i64 0, .int .i64 0, .int .i64 0, .string ⟨#[]⟩, .slice a4 C c4, .int .i64 0] 39)) := below_new _ _
            have HS4 : Hid (RlV w w.heap.size (feX s i) (w4.alloc (.cells #[.int .i64 4, .int .i64 0, .int .i64 0, .int .i64 0, .int .i64 0, .string ⟨#[]⟩, .slice a4 C c4, .int .i64 0] 39))) := hs4.on hb4
            have HI4 : Hid (ItsAt (w4.alloc (.cells #[.int .i64 4, .int .i64 0, .int .i64 0, .int .i64 0, .int .i64 0, .string ⟨#[]⟩, .slice a4 C c4, .int .i64 0] 39)) a4 C (feC s i t M)) := hi4.below hb4
            have HB4 : Hid (Blk (w4.alloc (.cells #[.int .i64 4, .int .i64 0, .int .i64 0, .int .i64 0, .int .i64 0, .string ⟨#[]⟩, .slice a4 C c4, .int .i64 0] 39)) 39 w4.heap.size #[.int .i64 4, .int .i64 0, .int .i64 0, .int .i64 0, .int .i64 0, .string ⟨#[]⟩, .slice a4 C c4, .int .i64 0]) := Blk.new _ _ _
            have g0 : (w4.alloc (.cells #[.int .i64 4, .int .i64 0, .int .i64 0, .int .i64 0, .int .i64 0, .string ⟨#[]⟩, .slice a4 C c4, .int .i64 0] 39)).cell? ⟨w4.heap.size, 0, none⟩ = some (.int .i64 4) := HB4.out.cell 0
            have g6 : (w4.alloc (.cells #[.int .i64 4, .int .i64 0, .int .i64 0, .int .i64 0, .int .i64 0, .string ⟨#[]⟩, .slice a4 C c4, .int .i64 0] 39)).cell? ⟨w4.heap.size, 6, none⟩ = some (.slice a4 C c4) := HB4.out.cell 6
            clear CA hs4 hi4 hb4 HSq ho4
            go_wp2_with fail
            obtain ⟨W4, hW4⟩ : ∃ W4, w4.alloc (.cells #[.int .i64 4, .int .i64 0, .int .i64 0, .int .i64 0, .int .i64 0, .string ⟨#[]⟩, .slice a4 C c4, .int .i64 0] 39) = W4 := ⟨_, rfl⟩
            obtain ⟨h14, hh14⟩ : ∃ h14, w4.heap.size = h14 := ⟨_, rfl⟩
            rw [hW4] at HS4 HI4 HB4 ⊢
            rw [hh14] at HB4 ⊢
            clear g0 g6 hW4 hh14
            go_loopw [12, 16] (fun u v wx => ∃ kk : Nat, kk ≤ C ∧ u = .int .i64 ((t + kk : Nat) : Int) ∧ v = .int .i64 kk ∧ Hid (Below W4.heap.size W4 wx)) (fun _ v _ => C - (intOf v).toNat)
            case atStart => exact ⟨0, Nat.zero_le _, rfl, rfl, Below.refl _ _⟩
            case round =>
              rename World => wx
              obtain ⟨kk, hkk, rfl, rfl, HBx⟩ := hrel
              obtain ⟨p, hp⟩ : ∃ p, t + kk = p := ⟨_, rfl⟩
              rw [hp]
              have g6 : wx.cell? ⟨h14, 6, none⟩ = some (.slice a4 C c4) := (HB4.out.on HBx.out).cell 6
              by_cases hlt : kk < C
              · have b4 : (kk : Int) < (C : Int) := by omega
                obtain ⟨lb, off, rfl, hcl⟩ := (HI4.out.below HBx.out).2.resolve_left hc1
                obtain ⟨x0, x1, x2⟩ := hcl kk hlt
                have hCC := HC.out.1
                have hat := feC_at s i t M kk (by omega) (by omega)
                rw [hat] at x0 x1 x2
                simp only [hp] at x0 x1 x2
                obtain ⟨B, hB⟩ : ∃ B, feB p (s p) = B := ⟨_, rfl⟩
                have hpi : p < i := by omega
                have h30 := HN30.out
                have hix := fun W => index_fe p (s p) (by omega) W
                have hbs : B.size ≠ 0 := by rw [← hB, feB_size]; omega
                rw [hB] at x2 hix
                have hw5 : IntKind.i64.wrap ((p : Int) + 1) = (p : Int) + 1 := by rw [IntKind.wrap_i64]; omega
                have hw6 : IntKind.i64.wrap (p : Int) = (p : Int) := by rw [IntKind.wrap_i64]; omega
                have qe : (B.toList == (⟨#[]⟩ : ByteArray).toList) = false := by
                  rw [txtBeqL]
                  exact decide_eq_false (fun e => hbs (by rw [e]; rfl))
                have qn : ¬ (B.toList = []) := fun e => by
                  have h9 : B.data.toList = [] := by rw [← Lib.toList_data B]; exact e
                  exact hbs (by show B.data.size = 0; rw [← Array.length_toList, h9]; rfl)
                have qi : B.toList.isEmpty = false := by
                  cases hb : B.toList with
                  | nil => exact absurd hb qn
                  | cons x l => rfl
                have HBX : Hid (Below W4.heap.size W4 (wx.alloc (.cells #[.int .i64 ((p : Int) + 1), .int .i64 1, .string B] 31))) := HBx.out.alloc HBx.out.size _
                have y0 : (wx.alloc (.cells #[.int .i64 ((p : Int) + 1), .int .i64 1, .string B] 31)).cell? ⟨wx.heap.size, 0, none⟩ = some (.int .i64 ((p : Int) + 1)) := (Blk.new wx 31 #[.int .i64 ((p : Int) + 1), .int .i64 1, .string B]).cell 0
                have y2 : (wx.alloc (.cells #[.int .i64 ((p : Int) + 1), .int .i64 1, .string B] 31)).cell? ⟨wx.heap.size, 2, none⟩ = some (.string B) := (Blk.new wx 31 #[.int .i64 ((p : Int) + 1), .int .i64 1, .string B]).cell 2
                have HPP : Hid (p + 1 = t + (kk + 1)) := by show _ = _; omega
                have hc8 : C ≤ 8 := by have := HM.out; omega
                clear hcl hat hB hCC hpi h30 hbs hp HBx
                go_wp2_with fail
                refine ⟨?_, ?_⟩
                · first
                  | exact ⟨kk + 1, by omega, (by rw [← HPP.out]; first | rfl | go_num), by go_num, HBX⟩
                  | ((repeat apply Exists.intro); refine ⟨?_, rfl⟩; exact ⟨kk + 1, by omega, (by rw [← HPP.out]; first | rfl | go_num), by go_num, HBX⟩)
                · simp [intOf] <;> omega
              · obtain rfl : kk = C := by omega
                have b4 : ¬ ((kk : Int) < (kk : Int)) := by omega
                have hCC := HC.out.1
                have HTP : Hid (p ≤ i ∧ (j + 1 ≤ p ∨ p = i)) := ⟨by omega, by have := HC.out.2.2; rcases HJ.out with h | h <;> omega⟩
                have HSx : Hid (RlV w w.heap.size (feX s i) wx) := HS4.out.on HBx.out
                clear hCC hp
                go_wp2_with fail
                refine ⟨?_, ?_⟩
                · first
                  | exact ⟨p, j + 1, HTP.out.1, by omega, rfl, by go_num, HTP.out.2, HSx⟩
                  | ((repeat apply Exists.intro); refine ⟨?_, rfl⟩; exact ⟨p, j + 1, HTP.out.1, by omega, rfl, by go_num, HTP.out.2, HSx⟩)
                · simp [intOf] <;> omega
          · have hti : i = t := by omega
            subst hti
            have b3 : ¬ ((i : Int) < (i : Int)) := by omega
            by_cases h4 : j < 40
            · have b2 : (j : Int) < 40 := by omega
              have hok9 := feX_ok s HSL.out i HN30.out
              have hg9 := fe_get s HSL.out i i 9 (Nat.le_refl _) HN30.out (by omega)
              have h99 : feC s i i 9 = [] := List.length_eq_zero_iff.1 (by rw [feC_len]; omega)
              rw [h99] at hg9
              have hw9 : IntKind.i64.wrap ((i : Int) + 1) = (i : Int) + 1 := by have := HN30.out; rw [IntKind.wrap_i64]; omega
              go_wp2_with fail
              have CA' := ask_gen w w.heap.size (feX s i) i hok9.1 hok9.2 (by have := HN30.out; omega) _ (fetF_fit (g := 0) (s := (i : Int) + 1) (m := 9) inN_zero ⟨by omega, by have := HN30.out; omega⟩ ⟨by decide, by decide⟩) rfl (feX s i) (4, 0, 0, 0, 0, ⟨#[]⟩, [], 0) hg9 _ HSq.out
              simp only [frmA, fetF, withG, List.length_nil, show (feX s i).1 = 0 from rfl] at CA'
              have CA : Hid (Calls _ _ _ _ _) := CA'
              clear CA'
              refine CA.out.mono ?_
              rintro e w8 ⟨a8, c8, rfl, _, _, hs8, ho8⟩
              have hb8 : Below w8.heap.size w8 (w8.alloc (.cells #[.int .i64 4, .int .i64 0, .int .i64 0, .int .i64 0, .int .i64 0, .string ⟨#[]⟩, .slice a8 0 c8, .int .i64 0] 39)) := below_new _ _
              have HS8 : Hid (RlV w w.heap.size (feX s i) (w8.alloc (.cells #[.int .i64 4, .int .i64 0, .int .i64 0, .int .i64 0, .int .i64 0, .string ⟨#[]⟩, .slice a8 0 c8, .int .i64 0] 39))) := hs8.on hb8
              have HB8 : Hid (Blk (w8.alloc (.cells #[.int .i64 4, .int .i64 0, .int .i64 0, .int .i64 0, .int .i64 0, .string ⟨#[]⟩, .slice a8 0 c8, .int .i64 0] 39)) 39 w8.heap.size #[.int .i64 4, .int .i64 0, .int .i64 0, .int .i64 0, .int .i64 0, .string ⟨#[]⟩, .slice a8 0 c8, .int .i64 0]) := Blk.new _ _ _
              have g80 : (w8.alloc (.cells #[.int .i64 4, .int .i64 0, .int .i64 0, .int .i64 0, .int .i64 0, .string ⟨#[]⟩, .slice a8 0 c8, .int .i64 0] 39)).cell? ⟨w8.heap.size, 0, none⟩ = some (.int .i64 4) := HB8.out.cell 0
              have g86 : (w8.alloc (.cells #[.int .i64 4, .int .i64 0, .int .i64 0, .int .i64 0, .int .i64 0, .string ⟨#[]⟩, .slice a8 0 c8, .int .i64 0] 39)).cell? ⟨w8.heap.size, 6, none⟩ = some (.slice a8 0 c8) := HB8.out.cell 6
              clear CA hs8 hb8 hok9 hg9 h99 HSq ho8
              go_wp2_with fail
              refine (awake21_any _).mono ?_
              rintro e w9 ⟨rfl, hb9⟩
              have HF : Hid (Below w.heap.size w w9) := below_step HS8.out.bel (Nat.le_refl _) hb9
              clear hb9 HS8 HB8 g80 g86
              go_wp2_with fail
              go_ret
              exact ⟨rfl, HF.out⟩
            · have b2 : ¬ ((j : Int) < 40) := by omega
              have hok9 := feX_ok s HSL.out i HN30.out
              have hg9 := fe_get s HSL.out i i 9 (Nat.le_refl _) HN30.out (by omega)
              have h99 : feC s i i 9 = [] := List.length_eq_zero_iff.1 (by rw [feC_len]; omega)
              rw [h99] at hg9
              have hw9 : IntKind.i64.wrap ((i : Int) + 1) = (i : Int) + 1 := by have := HN30.out; rw [IntKind.wrap_i64]; omega
              go_wp2_with fail
              have CA' := ask_gen w w.heap.size (feX s i) i hok9.1 hok9.2 (by have := HN30.out; omega) _ (fetF_fit (g := 0) (s := (i : Int) + 1) (m := 9) inN_zero ⟨by omega, by have := HN30.out; omega⟩ ⟨by decide, by decide⟩) rfl (feX s i) (4, 0, 0, 0, 0, ⟨#[]⟩, [], 0) hg9 _ HSq.out
              simp only [frmA, fetF, withG, List.length_nil, show (feX s i).1 = 0 from rfl] at CA'
              have CA : Hid (Calls _ _ _ _ _) := CA'
              clear CA'
              refine CA.out.mono ?_
              rintro e w8 ⟨a8, c8, rfl, _, _, hs8, ho8⟩
              have hb8 : Below w8.heap.size w8 (w8.alloc (.cells #[.int .i64 4, .int .i64 0, .int .i64 0, .int .i64 0, .int .i64 0, .string ⟨#[]⟩, .slice a8 0 c8, .int .i64 0] 39)) := below_new _ _
              have HS8 : Hid (RlV w w.heap.size (feX s i) (w8.alloc (.cells #[.int .i64 4, .int .i64 0, .int .i64 0, .int .i64 0, .int .i64 0, .string ⟨#[]⟩, .slice a8 0 c8, .int .i64 0] 39))) := hs8.on hb8
              have HB8 : Hid (Blk (w8.alloc (.cells #[.int .i64 4, .int .i64 0, .int .i64 0, .int .i64 0, .int .i64 0, .string ⟨#[]⟩, .slice a8 0 c8, .int .i64 0] 39)) 39 w8.heap.size #[.int .i64 4, .int .i64 0, .int .i64 0, .int .i64 0, .int .i64 0, .string ⟨#[]⟩, .slice a8 0 c8, .int .i64 0]) := Blk.new _ _ _
              have g80 : (w8.alloc (.cells #[.int .i64 4, .int .i64 0, .int .i64 0, .int .i64 0, .int .i64 0, .string ⟨#[]⟩, .slice a8 0 c8, .int .i64 0] 39)).cell? ⟨w8.heap.size, 0, none⟩ = some (.int .i64 4) := HB8.out.cell 0
              have g86 : (w8.alloc (.cells #[.int .i64 4, .int .i64 0, .int .i64 0, .int .i64 0, .int .i64 0, .string ⟨#[]⟩, .slice a8 0 c8, .int .i64 0] 39)).cell? ⟨w8.heap.size, 6, none⟩ = some (.slice a8 0 c8) := HB8.out.cell 6
              clear CA hs8 hb8 hok9 hg9 h99 HSq ho8
              go_wp2_with fail
              refine (awake21_any _).mono ?_
              rintro e w9 ⟨rfl, hb9⟩
              have HF : Hid (Below w.heap.size w w9) := below_step HS8.out.bel (Nat.le_refl _) hb9
              clear hb9 HS8 HB8 g80 g86
              go_wp2_with fail
              go_ret
              exact ⟨rfl, HF.out⟩
      · have b0 : ¬ ((i : Int) < (len : Int)) := by omega
        clear hlt hlt1
        go_wp2_with fail
        go_loopw [12, 13] (fun u v wq => ∃ t j : Nat, t ≤ i ∧ j ≤ 40 ∧ u = .int .i64 t ∧ v = .int .i64 j ∧ Hid (j ≤ t ∨ t = i) ∧ Hid (RlV w w.heap.size (feX s i) wq)) (fun _ v _ => 41 - (intOf v).toNat)
        case atStart => exact ⟨0, 0, Nat.zero_le _, by omega, rfl, rfl, .inl (Nat.le_refl _), HS⟩
        case round =>
          rename World => wq
          obtain ⟨t, j, ht, hj, rfl, rfl, HJ, HSq⟩ := hrel
          clear HS b0
          by_cases h1 : t < i
          · have hj40 : j < 40 := by have := HN30.out; rcases HJ.out with h | h <;> omega
            have b2 : (j : Int) < 40 := by omega
            have b3 : (t : Int) < (i : Int) := by omega
            have hok := feX_ok s HSL.out i HN30.out
            have hg := fe_get s HSL.out i t M ht HN30.out (by have := HM.out; omega)
            have hw4 : IntKind.i64.wrap ((t : Int) + 1) = (t : Int) + 1 := by have := HN30.out; rw [IntKind.wrap_i64]; omega
            have hmz : (0 : Int) ≤ (M : Int) ∧ (M : Int) ≤ 1099511627775 := by have := HM.out; omega
            go_wp2_with fail
            have CA' := ask_gen w w.heap.size (feX s i) i hok.1 hok.2 (by have := HN30.out; omega) _ (fetF_fit (g := 0) (s := (t : Int) + 1) (m := (M : Int)) inN_zero ⟨by omega, by have := HN30.out; omega⟩ hmz) rfl (feX s i) _ hg _ HSq.out
            have hCl := feC_len s i t M
            obtain ⟨C, hC⟩ : ∃ C, (feC s i t M).length = C := ⟨_, rfl⟩
            simp only [frmA, fetF, withG, show (feX s i).1 = 0 from rfl] at CA'
            rw [hC] at CA' hCl
            have CA : Hid (Calls _ _ _ _ _) := CA'
            have HC : Hid (C = min M (i - t) ∧ (feC s i t M).length = C ∧ 1 ≤ C) := ⟨hCl, hC, by have := HM.out; omega⟩
            have hc1 : ¬ (C = 0) := by have := HC.out; omega
            have hc2 : ¬ ((C : Int) = 0) := by omega
            have hc3 : ¬ ((M : Int) < (C : Int)) := by have := HC.out; omega
            have hc4 : ¬ (M < C) := by omega
            clear CA' hCl hC hg hok hmz
            refine CA.out.mono ?_
            rintro e w4 ⟨a4, c4, rfl, _, hi4, hs4, ho4⟩
            have hb4 : Below w4.heap.size w4 (w4.alloc (.cells #[.int .i64 4, .int .i64 0, .int .i64 0, .int .i64 0, .int .i64 0, .string ⟨#[]⟩, .slice a4 C c4, .int .i64 0] 39)) := below_new _ _
            have HS4 : Hid (RlV w w.heap.size (feX s i) (w4.alloc (.cells #[.int .i64 4, .int .i64 0, .int .i64 0, .int .i64 0, .int .i64 0, .string ⟨#[]⟩, .slice a4 C c4, .int .i64 0] 39))) := hs4.on hb4
            have HI4 : Hid (ItsAt (w4.alloc (.cells #[.int .i64 4, .int .i64 0, .int .i64 0, .int .i64 0, .int .i64 0, .string ⟨#[]⟩, .slice a4 C c4, .int .i64 0] 39)) a4 C (feC s i t M)) := hi4.below hb4
            have HB4 : Hid (Blk (w4.alloc (.cells #[.int .i64 4, .int .i64 0, .int .i64 0, .int .i64 0, .int .i64 0, .string ⟨#[]⟩, .slice a4 C c4, .int .i64 0] 39)) 39 w4.heap.size #[.int .i64 4, .int .i64 0, .int .i64 0, .int .i64 0, .int .i64 0, .string ⟨#[]⟩, .slice a4 C c4, .int .i64 0]) := Blk.new _ _ _
            have g0 : (w4.alloc (.cells #[.int .i64 4, .int .i64 0, .int .i64 0, .int .i64 0, .int .i64 0, .string ⟨#[]⟩, .slice a4 C c4, .int .i64 0] 39)).cell? ⟨w4.heap.size, 0, none⟩ = some (.int .i64 4) := HB4.out.cell 0
            have g6 : (w4.alloc (.cells #[.int .i64 4, .int .i64 0, .int .i64 0, .int .i64 0, .int .i64 0, .string ⟨#[]⟩, .slice a4 C c4, .int .i64 0] 39)).cell? ⟨w4.heap.size, 6, none⟩ = some (.slice a4 C c4) := HB4.out.cell 6
            clear CA hs4 hi4 hb4 HSq ho4
            go_wp2_with fail
            obtain ⟨W4, hW4⟩ : ∃ W4, w4.alloc (.cells #[.int .i64 4, .int .i64 0, .int .i64 0, .int .i64 0, .int .i64 0, .string ⟨#[]⟩, .slice a4 C c4, .int .i64 0] 39) = W4 := ⟨_, rfl⟩
            obtain ⟨h14, hh14⟩ : ∃ h14, w4.heap.size = h14 := ⟨_, rfl⟩
            rw [hW4] at HS4 HI4 HB4 ⊢
            rw [hh14] at HB4 ⊢
            clear g0 g6 hW4 hh14
            go_loopw [12, 16] (fun u v wx => ∃ kk : Nat, kk ≤ C ∧ u = .int .i64 ((t + kk : Nat) : Int) ∧ v = .int .i64 kk ∧ Hid (Below W4.heap.size W4 wx)) (fun _ v _ => C - (intOf v).toNat)
            case atStart => exact ⟨0, Nat.zero_le _, rfl, rfl, Below.refl _ _⟩
            case round =>
              rename World => wx
              obtain ⟨kk, hkk, rfl, rfl, HBx⟩ := hrel
              obtain ⟨p, hp⟩ : ∃ p, t + kk = p := ⟨_, rfl⟩
              rw [hp]
              have g6 : wx.cell? ⟨h14, 6, none⟩ = some (.slice a4 C c4) := (HB4.out.on HBx.out).cell 6
              by_cases hlt : kk < C
              · have b4 : (kk : Int) < (C : Int) := by omega
                obtain ⟨lb, off, rfl, hcl⟩ := (HI4.out.below HBx.out).2.resolve_left hc1
                obtain ⟨x0, x1, x2⟩ := hcl kk hlt
                have hCC := HC.out.1
                have hat := feC_at s i t M kk (by omega) (by omega)
                rw [hat] at x0 x1 x2
                simp only [hp] at x0 x1 x2
                obtain ⟨B, hB⟩ : ∃ B, feB p (s p) = B := ⟨_, rfl⟩
                have hpi : p < i := by omega
                have h30 := HN30.out
                have hix := fun W => index_fe p (s p) (by omega) W
                have hbs : B.size ≠ 0 := by rw [← hB, feB_size]; omega
                rw [hB] at x2 hix
                have hw5 : IntKind.i64.wrap ((p : Int) + 1) = (p : Int) + 1 := by rw [IntKind.wrap_i64]; omega
                have hw6 : IntKind.i64.wrap (p : Int) = (p : Int) := by rw [IntKind.wrap_i64]; omega
                have qe : (B.toList == (⟨#[]⟩ : ByteArray).toList) = false := by
                  rw [txtBeqL]
                  exact decide_eq_false (fun e => hbs (by rw [e]; rfl))
                have qn : ¬ (B.toList = []) := fun e => by
                  have h9 : B.data.toList = [] := by rw [← Lib.toList_data B]; exact e
                  exact hbs (by show B.data.size = 0; rw [← Array.length_toList, h9]; rfl)
                have qi : B.toList.isEmpty = false := by
                  cases hb : B.toList with
                  | nil => exact absurd hb qn
                  | cons x l => rfl
                have HBX : Hid (Below W4.heap.size W4 (wx.alloc (.cells #[.int .i64 ((p : Int) + 1), .int .i64 1, .string B] 31))) := HBx.out.alloc HBx.out.size _
                have y0 : (wx.alloc (.cells #[.int .i64 ((p : Int) + 1), .int .i64 1, .string B] 31)).cell? ⟨wx.heap.size, 0, none⟩ = some (.int .i64 ((p : Int) + 1)) := (Blk.new wx 31 #[.int .i64 ((p : Int) + 1), .int .i64 1, .string B]).cell 0
                have y2 : (wx.alloc (.cells #[.int .i64 ((p : Int) + 1), .int .i64 1, .string B] 31)).cell? ⟨wx.heap.size, 2, none⟩ = some (.string B) := (Blk.new wx 31 #[.int .i64 ((p : Int) + 1), .int .i64 1, .string B]).cell 2
                have HPP : Hid (p + 1 = t + (kk + 1)) := by show _ = _; omega
                have hc8 : C ≤ 8 := by have := HM.out; omega
                clear hcl hat hB hCC hpi h30 hbs hp HBx
                go_wp2_with fail
                refine ⟨?_, ?_⟩
                · first
                  | exact ⟨kk + 1, by omega, (by rw [← HPP.out]; first | rfl | go_num), by go_num, HBX⟩
                  | ((repeat apply Exists.intro); refine ⟨?_, rfl⟩; exact ⟨kk + 1, by omega, (by rw [← HPP.out]; first | rfl | go_num), by go_num, HBX⟩)
                · simp [intOf] <;> omega
              · obtain rfl : kk = C := by omega
                have b4 : ¬ ((kk : Int) < (kk : Int)) := by omega
                have hCC := HC.out.1
                have HTP : Hid (p ≤ i ∧ (j + 1 ≤ p ∨ p = i)) := ⟨by omega, by have := HC.out.2.2; rcases HJ.out with h | h <;> omega⟩
                have HSx : Hid (RlV w w.heap.size (feX s i) wx) := HS4.out.on HBx.out
                clear hCC hp
                go_wp2_with fail
                refine ⟨?_, ?_⟩
                · first
                  | exact ⟨p, j + 1, HTP.out.1, by omega, rfl, by go_num, HTP.out.2, HSx⟩
                  | ((repeat apply Exists.intro); refine ⟨?_, rfl⟩; exact ⟨p, j + 1, HTP.out.1, by omega, rfl, by go_num, HTP.out.2, HSx⟩)
                · simp [intOf] <;> omega
          · have hti : i = t := by omega
            subst hti
            have b3 : ¬ ((i : Int) < (i : Int)) := by omega
            by_cases h4 : j < 40
            · have b2 : (j : Int) < 40 := by omega
              have hok9 := feX_ok s HSL.out i HN30.out
              have hg9 := fe_get s HSL.out i i 9 (Nat.le_refl _) HN30.out (by omega)
              have h99 : feC s i i 9 = [] := List.length_eq_zero_iff.1 (by rw [feC_len]; omega)
              rw [h99] at hg9
              have hw9 : IntKind.i64.wrap ((i : Int) + 1) = (i : Int) + 1 := by have := HN30.out; rw [IntKind.wrap_i64]; omega
              go_wp2_with fail
              have CA' := ask_gen w w.heap.size (feX s i) i hok9.1 hok9.2 (by have := HN30.out; omega) _ (fetF_fit (g := 0) (s := (i : Int) + 1) (m := 9) inN_zero ⟨by omega, by have := HN30.out; omega⟩ ⟨by decide, by decide⟩) rfl (feX s i) (4, 0, 0, 0, 0, ⟨#[]⟩, [], 0) hg9 _ HSq.out
              simp only [frmA, fetF, withG, List.length_nil, show (feX s i).1 = 0 from rfl] at CA'
              have CA : Hid (Calls _ _ _ _ _) := CA'
              clear CA'
              refine CA.out.mono ?_
              rintro e w8 ⟨a8, c8, rfl, _, _, hs8, ho8⟩
              have hb8 : Below w8.heap.size w8 (w8.alloc (.cells #[.int .i64 4, .int .i64 0, .int .i64 0, .int .i64 0, .int .i64 0, .string ⟨#[]⟩, .slice a8 0 c8, .int .i64 0] 39)) := below_new _ _
              have HS8 : Hid (RlV w w.heap.size (feX s i) (w8.alloc (.cells #[.int .i64 4, .int .i64 0, .int .i64 0, .int .i64 0, .int .i64 0, .string ⟨#[]⟩, .slice a8 0 c8, .int .i64 0] 39))) := hs8.on hb8
              have HB8 : Hid (Blk (w8.alloc (.cells #[.int .i64 4, .int .i64 0, .int .i64 0, .int .i64 0, .int .i64 0, .string ⟨#[]⟩, .slice a8 0 c8, .int .i64 0] 39)) 39 w8.heap.size #[.int .i64 4, .int .i64 0, .int .i64 0, .int .i64 0, .int .i64 0, .string ⟨#[]⟩, .slice a8 0 c8, .int .i64 0]) := Blk.new _ _ _
              have g80 : (w8.alloc (.cells #[.int .i64 4, .int .i64 0, .int .i64 0, .int .i64 0, .int .i64 0, .string ⟨#[]⟩, .slice a8 0 c8, .int .i64 0] 39)).cell? ⟨w8.heap.size, 0, none⟩ = some (.int .i64 4) := HB8.out.cell 0
              have g86 : (w8.alloc (.cells #[.int .i64 4, .int .i64 0, .int .i64 0, .int .i64 0, .int .i64 0, .string ⟨#[]⟩, .slice a8 0 c8, .int .i64 0] 39)).cell? ⟨w8.heap.size, 6, none⟩ = some (.slice a8 0 c8) := HB8.out.cell 6
              clear CA hs8 hb8 hok9 hg9 h99 HSq ho8
              go_wp2_with fail
              refine (awake21_any _).mono ?_
              rintro e w9 ⟨rfl, hb9⟩
              have HF : Hid (Below w.heap.size w w9) := below_step HS8.out.bel (Nat.le_refl _) hb9
              clear hb9 HS8 HB8 g80 g86
              go_wp2_with fail
              go_ret
              exact ⟨rfl, HF.out⟩
            · have b2 : ¬ ((j : Int) < 40) := by omega
              have hok9 := feX_ok s HSL.out i HN30.out
              have hg9 := fe_get s HSL.out i i 9 (Nat.le_refl _) HN30.out (by omega)
              have h99 : feC s i i 9 = [] := List.length_eq_zero_iff.1 (by rw [feC_len]; omega)
              rw [h99] at hg9
              have hw9 : IntKind.i64.wrap ((i : Int) + 1) = (i : Int) + 1 := by have := HN30.out; rw [IntKind.wrap_i64]; omega
              go_wp2_with fail
              have CA' := ask_gen w w.heap.size (feX s i) i hok9.1 hok9.2 (by have := HN30.out; omega) _ (fetF_fit (g := 0) (s := (i : Int) + 1) (m := 9) inN_zero ⟨by omega, by have := HN30.out; omega⟩ ⟨by decide, by decide⟩) rfl (feX s i) (4, 0, 0, 0, 0, ⟨#[]⟩, [], 0) hg9 _ HSq.out
              simp only [frmA, fetF, withG, List.length_nil, show (feX s i).1 = 0 from rfl] at CA'
              have CA : Hid (Calls _ _ _ _ _) := CA'
              clear CA'
              refine CA.out.mono ?_
              rintro e w8 ⟨a8, c8, rfl, _, _, hs8, ho8⟩
              have hb8 : Below w8.heap.size w8 (w8.alloc (.cells #[.int .i64 4, .int .i64 0, .int .i64 0, .int .i64 0, .int .i64 0, .string ⟨#[]⟩, .slice a8 0 c8, .int .i64 0] 39)) := below_new _ _
              have HS8 : Hid (RlV w w.heap.size (feX s i) (w8.alloc (.cells #[.int .i64 4, .int .i64 0, .int .i64 0, .int .i64 0, .int .i64 0, .string ⟨#[]⟩, .slice a8 0 c8, .int .i64 0] 39))) := hs8.on hb8
              have HB8 : Hid (Blk (w8.alloc (.cells #[.int .i64 4, .int .i64 0, .int .i64 0, .int .i64 0, .int .i64 0, .string ⟨#[]⟩, .slice a8 0 c8, .int .i64 0] 39)) 39 w8.heap.size #[.int .i64 4, .int .i64 0, .int .i64 0, .int .i64 0, .int .i64 0, .string ⟨#[]⟩, .slice a8 0 c8, .int .i64 0]) := Blk.new _ _ _
              have g80 : (w8.alloc (.cells #[.int .i64 4, .int .i64 0, .int .i64 0, .int .i64 0, .int .i64 0, .string ⟨#[]⟩, .slice a8 0 c8, .int .i64 0] 39)).cell? ⟨w8.heap.size, 0, none⟩ = some (.int .i64 4) := HB8.out.cell 0
              have g86 : (w8.alloc (.cells #[.int .i64 4, .int .i64 0, .int .i64 0, .int .i64 0, .int .i64 0, .string ⟨#[]⟩, .slice a8 0 c8, .int .i64 0] 39)).cell? ⟨w8.heap.size, 6, none⟩ = some (.slice a8 0 c8) := HB8.out.cell 6
              clear CA hs8 hb8 hok9 hg9 h99 HSq ho8
              go_wp2_with fail
              refine (awake21_any _).mono ?_
              rintro e w9 ⟨rfl, hb9⟩
              have HF : Hid (Below w.heap.size w w9) := below_step HS8.out.bel (Nat.le_refl _) hb9
              clear hb9 HS8 HB8 g80 g86
              go_wp2_with fail
              go_ret
              exact ⟨rfl, HF.out⟩
end Go.Proofs.Ytmlpbbancoedgaa
