/- Law 20's awake. -/
import Derived.Test.YtkmdajenbidaaaaDoorGpL
import Derived.Test.YtkmdajenbidaaaaDoorGpT
import Derived.Test.YtkmdajenbidaaaaDoorZer
namespace Go.Proofs.YtkmdajenbidaaaaDoor
open Go.RowKit
set_option maxRecDepth 100000
set_option linter.unusedSimpArgs false
set_option linter.unusedVariables false
set_option maxRecDepth 100000

/-- A variable that holds a group of the call's own. -/
structure JdS (w : World) (h b c : Nat) (E O : Int) (l : List MemT) (W : World) : Prop where
  gg : Blk W 26 h #[.int .i64 E, .slice (some ⟨b, 0, none⟩) 6 c, .int .i64 O]
  mm : RowM W b c l
  bel : Below w.heap.size w W
  lh : w.heap.size ≤ h
  lb : w.heap.size ≤ b
theorem JdS.on {w W W' : World} {h b c : Nat} {E O : Int} {l : List MemT} (k : JdS w h b c E O l W) (hb : Below W.heap.size W W') : JdS w h b c E O l W' := ⟨k.gg.on hb, k.mm.on hb, below_step k.bel (Nat.le_refl _) hb, k.lh, k.lb⟩

set_option maxHeartbeats 8000000 in
theorem awake20_any (w : World) (hG : Glob8 w) : Calls Tryd.prog 6 #[] w fun e w' => e = .returned (.bool true) ∧ Below w.heap.size w w' := by
  obtain ⟨M, hM⟩ := mayM_ex20
  have HG : Hid (Glob8 w) := hG
  have CT1 : Hid (∀ W, Calls Tryd.prog 11 #[.int .i64 2, .int .i64 1, .int .i64 2] W fun e w' => e = .returned (.agg (recA (recK 2 1 2) none 0)) ∧ Below W.heap.size W w') := fun W => control_any 2 1 2 W
  have CT : Hid (∀ W, Calls Tryd.prog 11 #[.int .i64 3, .int .i64 2, .int .i64 2] W fun e w' => e = .returned (.agg (recA (recK 3 2 2) none 0)) ∧ Below W.heap.size W w') := fun W => control_any 3 2 2 W
  have CJ1 : Hid (∀ W b c, Below w.heap.size w W → RowM W b c (newM 6) → Calls Tryd.prog 7 #[.agg #[.int .i64 1, .slice (some ⟨b, 0, none⟩) 6 c, .int .i64 0], .int .i64 1, .agg (recA (recK 2 1 2) none 0)] W fun e w' => ∃ b' c', e = .returned (.tuple #[.agg #[.int .i64 2, .slice (some ⟨b', 0, none⟩) 6 c', .int .i64 0], .bool true, .int .i64 0]) ∧ W.heap.size ≤ b' ∧ RowM w' b' c' gA1.2.1 ∧ Below W.heap.size W w') := fun W b c hb hm => judgeY_any M hM 1 0 1 (newM 6) b c (recK 2 1 2) none 0 2 0 gA1.2.1 true W (hG.below hb) (recK_in _ _ _ _) hm (eA1 M) jA1
  have CJ2 : Hid (∀ W b c, Below w.heap.size w W → RowM W b c gA1.2.1 → Calls Tryd.prog 7 #[.agg #[.int .i64 2, .slice (some ⟨b, 0, none⟩) 6 c, .int .i64 0], .int .i64 2, .agg (recA (recK 3 2 2) none 0)] W fun e w' => ∃ b' c', e = .returned (.tuple #[.agg #[.int .i64 3, .slice (some ⟨b', 0, none⟩) 6 c', .int .i64 0], .bool true, .int .i64 0]) ∧ W.heap.size ≤ b' ∧ RowM w' b' c' gA2.2.1 ∧ Below W.heap.size W w') := fun W b c hb hm => judgeY_any M hM 2 0 2 gA1.2.1 b c (recK 3 2 2) none 0 3 0 gA2.2.1 true W (hG.below hb) (recK_in _ _ _ _) hm (eA2 M) jA2
  clear hG hM
  go_enter Tryd.func6, Tryd.ntmps6
  go_wp2_with fail
  refine (new20_any w).mono ?_
  rintro e w1 ⟨b0, c0, rfl, hb0, hm0, hb⟩
  have HB1 : Hid (Below w.heap.size w w1) := hb
  have HM1 : Hid (RowM w1 b0 c0 (newM 6)) := hm0
  clear hb0 hm0 hb
  go_wp2_with fail
  refine (CT1.out w1).mono ?_
  rintro e w2 ⟨rfl, hb⟩
  have HB2 : Hid (Below w.heap.size w w2) := below_step HB1.out (Nat.le_refl _) hb
  have HM2 : Hid (RowM w2 b0 c0 (newM 6)) := HM1.out.on hb
  clear HB1 HM1 hb CT1
  go_wp2_with fail
  refine (CJ1.out w2 b0 c0 HB2.out HM2.out).mono ?_
  rintro e w3 ⟨b1, c1, rfl, hb1, hm1, hb⟩
  have HJ1 : Hid (JdS w w3.heap.size b1 c1 2 0 gA1.2.1 (w3.alloc (.cells #[.int .i64 2, .slice (some ⟨b1, 0, none⟩) 6 c1, .int .i64 0] 26))) := by
    have h3 := below_step HB2.out (Nat.le_refl _) hb
    exact ⟨Blk.new _ _ _, hm1.on (below_new _ _), below_step h3 (Nat.le_refl _) (below_new _ _), h3.size, Nat.le_trans HB2.out.size hb1⟩
  clear hb1 hm1 hb HB2 HM2 CJ1
  go_wp2_with fail
  obtain ⟨W1, hW1⟩ : ∃ W1, w3.alloc (.cells #[.int .i64 2, .slice (some ⟨b1, 0, none⟩) 6 c1, .int .i64 0] 26) = W1 := ⟨_, rfl⟩
  obtain ⟨h1, hh1⟩ : ∃ h1, w3.heap.size = h1 := ⟨_, rfl⟩
  rw [hW1, hh1] at HJ1
  rw [hW1, hh1]
  clear hW1 hh1
  have CJ : Hid (∀ W, Below W1.heap.size W1 W → Calls Tryd.prog 7 #[.agg #[.int .i64 2, .slice (some ⟨b1, 0, none⟩) 6 c1, .int .i64 0], .int .i64 2, .agg (recA (recK 3 2 2) none 0)] W fun e w' => ∃ b' c', e = .returned (.tuple #[.agg #[.int .i64 3, .slice (some ⟨b', 0, none⟩) 6 c', .int .i64 0], .bool true, .int .i64 0]) ∧ W.heap.size ≤ b' ∧ RowM w' b' c' gA2.2.1 ∧ Below W.heap.size W w') := fun W hW => CJ2.out W b1 c1 (below_step HJ1.out.bel (Nat.le_refl _) hW) (HJ1.out.mm.on hW)
  clear CJ2
  have HSS : Hid (∀ W', Below W1.heap.size W1 W' → W'.cell? ⟨h1, 0, none⟩ = some (.int .i64 2) ∧ W'.cell? ⟨h1, 1, none⟩ = some (.slice (some ⟨b1, 0, none⟩) 6 c1) ∧ W'.cell? ⟨h1, 2, none⟩ = some (.int .i64 0)) := fun W' hW => ⟨(HJ1.out.gg.on hW).cell 0, (HJ1.out.gg.on hW).cell 1, (HJ1.out.gg.on hW).cell 2⟩
  have hS0 : W1.drew.cell? ⟨h1, 0, none⟩ = some (.int .i64 2) ∧ W1.drew.cell? ⟨h1, 1, none⟩ = some (.slice (some ⟨b1, 0, none⟩) 6 c1) ∧ W1.drew.cell? ⟨h1, 2, none⟩ = some (.int .i64 0) := HSS.out _ (Below.refl _ _).drew
  go_cut [4, 5, 6] (fun u4 u5 u6 wx => ∃ h b c : Nat, u4 = .pointer (some ⟨h, 0, none⟩) ∧ u5 = .bool true ∧ u6 = .int .i64 0 ∧ Hid (JdS W1 h b c 3 0 gA2.2.1 wx))
  case first =>
    refine wp_region_noPanic ?_
    refine wp_region_held_drew (S := fun W' => W'.cell? ⟨h1, 0, none⟩ = some (.int .i64 2) ∧ W'.cell? ⟨h1, 1, none⟩ = some (.slice (some ⟨b1, 0, none⟩) 6 c1) ∧ W'.cell? ⟨h1, 2, none⟩ = some (.int .i64 0)) (by kernel_rfl) (by first | exact trivial | assumption | exact ⟨by assumption, by assumption⟩) (fun hHeld => ?_)
    refine take_at (i := 0) (v := ?_) rfl rfl (by kernel_rfl) (by kernel_rfl) (by kernel_rfl) (fun _ _ _ h => h) (Or.inl ⟨by rfl, ?_⟩) (by assumption) ?_
    rotate_left
    · intro w hSw; (try dsimp only at hSw); go_simp; try with_reducible rfl
    try simp only [Act.put, List.setIfInBounds_toArray, List.set_cons_zero, List.set_cons_succ]
    clear hS0
    have hV0 : Below W1.heap.size W1 W1.drew := (Below.refl _ _).drew
    refine wpAnyH_ready (rs := [1, 7]) (by kernel_rfl) (by simp) ?_
    refine AllReadyH.cons rfl (fun K hK => ?_) (AllReadyH.cons rfl (fun K hK => ?_) AllReadyH.nil)
    · go_simp
      refine (CT.out _).mono ?_
      rintro e V1 ⟨rfl, hb1⟩
      have hV1 : Below W1.heap.size W1 V1 := below_step hV0 (Nat.le_refl _) hb1
      clear hb1
      refine hK.out _ _ (HSS.out _ hV1) (fun hHeld => ?_)
      clear hK K
      refine wpAnyH_ready (rs := [2, 7]) (by kernel_rfl) (by simp) ?_
      refine AllReadyH.cons rfl (fun K hK => ?_) (AllReadyH.cons rfl (fun K hK => ?_) AllReadyH.nil)
      · go_simp
        refine (CJ.out V1 hV1).mono ?_
        rintro e V2 ⟨b9, c9, rfl, hb9, hm8, hb2⟩
        have hV2 : Below W1.heap.size W1 V2 := below_step hV1 (Nat.le_refl _) hb2
        have hlb : W1.heap.size ≤ b9 := Nat.le_trans hV1.size hb9
        clear hb2 hb9
        refine hK.out _ _ (HSS.out _ hV2) (fun hHeld => ?_)
        clear hK K
        refine take_at (i := 3) (v := ?_) rfl rfl (by kernel_rfl) (by kernel_rfl) (by kernel_rfl) (fun _ _ _ h => h) (Or.inl ⟨by rfl, ?_⟩) (by assumption) ?_
        rotate_left
        · intro w hSw; (try dsimp only at hSw); go_simp; try with_reducible rfl
        try simp only [Act.put, List.setIfInBounds_toArray, List.set_cons_zero, List.set_cons_succ]
        refine take_at (i := 4) (v := ?_) rfl rfl (by kernel_rfl) (by kernel_rfl) (by kernel_rfl) (fun _ _ _ h => h) (Or.inl ⟨by rfl, ?_⟩) (by assumption) ?_
        rotate_left
        · intro w hSw; (try dsimp only at hSw); go_simp; try with_reducible rfl
        try simp only [Act.put, List.setIfInBounds_toArray, List.set_cons_zero, List.set_cons_succ]
        refine take_at (i := 5) (v := ?_) rfl rfl (by kernel_rfl) (by kernel_rfl) (by kernel_rfl) (fun _ _ _ h => h) (Or.inl ⟨by rfl, ?_⟩) (by assumption) ?_
        rotate_left
        · intro w hSw; (try dsimp only at hSw); go_simp; try with_reducible rfl
        try simp only [Act.put, List.setIfInBounds_toArray, List.set_cons_zero, List.set_cons_succ]
        refine take_at (i := 6) (v := ?_) rfl rfl (by kernel_rfl) (by kernel_rfl) (by kernel_rfl) (fun _ _ _ h => h) (Or.inl ⟨by rfl, ?_⟩) (by assumption) ?_
        rotate_left
        · intro w hSw; (try dsimp only at hSw); go_simp; try with_reducible rfl
        try simp only [Act.put, List.setIfInBounds_toArray, List.set_cons_zero, List.set_cons_succ]
        refine wpAnyH_ready (rs := [7]) (by kernel_rfl) (by simp) ?_
        refine AllReadyH.cons rfl (fun K hK => ?_) AllReadyH.nil
        go_simp
        have hVZ : Below W1.heap.size W1 (V2.alloc (.cells #[.int .i64 0, .slice none 0 0, .int .i64 0] 26)) := hV2.alloc hV2.size _
        have hlh := hV2.size
        have hm9 : RowM (V2.alloc (.cells #[.int .i64 0, .slice none 0 0, .int .i64 0] 26)) b9 c9 gA2.2.1 := hm8.on (below_new _ _)
        refine hK.out _ _ (HSS.out _ hVZ) (fun hHeld => ?_)
        clear hK K
        refine wpAnyH_ready (rs := [8]) (by kernel_rfl) (by simp) ?_
        refine AllReadyH.cons rfl (fun K hK => ?_) AllReadyH.nil
        refine step_storeRow rfl rfl 26 _ _ rfl V2.heap.size #[.int .i64 0, .slice none 0 0, .int .i64 0] #[.int .i64 3, .slice (some ⟨b9, 0, none⟩) 6 c9, .int .i64 0] rfl rfl (Blk.new V2 _ _) rfl (by kernel_rfl) (by simp [Value.oneCell']) ?_
        have HJD : Hid (JdS W1 V2.heap.size b9 c9 3 0 gA2.2.1 ((V2.alloc (.cells #[.int .i64 0, .slice none 0 0, .int .i64 0] 26)).setRow V2.heap.size #[.int .i64 3, .slice (some ⟨b9, 0, none⟩) 6 c9, .int .i64 0])) := by
          have kk : Blk (V2.alloc (.cells #[.int .i64 0, .slice none 0 0, .int .i64 0] 26)) 26 V2.heap.size #[.int .i64 0, .slice none 0 0, .int .i64 0] := (Blk.new V2 _ _)
          exact ⟨kk.setRow _, hm9.same (setRow_other _ _ _ _ (fun e => hm9.ne kk e.symm)), below_setRow hVZ hlh _, hlh, hlb⟩
        refine hK.out _ _ (HSS.out _ HJD.out.bel) (fun hHeld => ?_)
        clear hK K
        refine take_at (i := 9) (v := ?_) rfl rfl (by kernel_rfl) (by kernel_rfl) (by kernel_rfl) (fun _ _ _ h => h) (Or.inl ⟨by rfl, ?_⟩) (by assumption) ?_
        rotate_left
        · intro w hSw; (try dsimp only at hSw); go_simp; try with_reducible rfl
        try simp only [Act.put, List.setIfInBounds_toArray, List.set_cons_zero, List.set_cons_succ]
        refine take_at (i := 10) (v := ?_) rfl rfl (by kernel_rfl) (by kernel_rfl) (by kernel_rfl) (fun _ _ _ h => h) (Or.inl ⟨by rfl, ?_⟩) (by assumption) ?_
        rotate_left
        · intro w hSw; (try dsimp only at hSw); go_simp; try with_reducible rfl
        try simp only [Act.put, List.setIfInBounds_toArray, List.set_cons_zero, List.set_cons_succ]
        refine wpAnyH_done (by kernel_rfl) (NoPanic.normal ?_) _
        go_wp2_with fail
        go_meet
        case rel => exact ⟨V2.heap.size, b9, c9, rfl, rfl, rfl, HJD⟩
      · go_simp
        have hlh := hV1.size
        have hVA : Below W1.heap.size W1 (V1.alloc (.cells #[.int .i64 0, .slice none 0 0, .int .i64 0] 26)) := hV1.alloc hV1.size _
        have KV1 : Blk (V1.alloc (.cells #[.int .i64 0, .slice none 0 0, .int .i64 0] 26)) 26 V1.heap.size #[.int .i64 0, .slice none 0 0, .int .i64 0] := Blk.new V1 _ _
        refine hK.out _ _ (HSS.out _ hVA) (fun hHeld => ?_)
        clear hK K
        refine wpAnyH_ready (rs := [2]) (by kernel_rfl) (by simp) ?_
        refine AllReadyH.cons rfl (fun K hK => ?_) AllReadyH.nil
        go_simp
        refine (CJ.out (V1.alloc (.cells #[.int .i64 0, .slice none 0 0, .int .i64 0] 26)) hVA).mono ?_
        rintro e V2 ⟨b9, c9, rfl, hb9, hm9, hb2⟩
        have hVZ : Below W1.heap.size W1 V2 := below_step hVA (Nat.le_refl _) hb2
        have hlb : W1.heap.size ≤ b9 := Nat.le_trans hVA.size hb9
        have KV2 := KV1.on hb2
        clear hb2 hb9
        refine hK.out _ _ (HSS.out _ hVZ) (fun hHeld => ?_)
        clear hK K
        refine take_at (i := 3) (v := ?_) rfl rfl (by kernel_rfl) (by kernel_rfl) (by kernel_rfl) (fun _ _ _ h => h) (Or.inl ⟨by rfl, ?_⟩) (by assumption) ?_
        rotate_left
        · intro w hSw; (try dsimp only at hSw); go_simp; try with_reducible rfl
        try simp only [Act.put, List.setIfInBounds_toArray, List.set_cons_zero, List.set_cons_succ]
        refine take_at (i := 4) (v := ?_) rfl rfl (by kernel_rfl) (by kernel_rfl) (by kernel_rfl) (fun _ _ _ h => h) (Or.inl ⟨by rfl, ?_⟩) (by assumption) ?_
        rotate_left
        · intro w hSw; (try dsimp only at hSw); go_simp; try with_reducible rfl
        try simp only [Act.put, List.setIfInBounds_toArray, List.set_cons_zero, List.set_cons_succ]
        refine take_at (i := 5) (v := ?_) rfl rfl (by kernel_rfl) (by kernel_rfl) (by kernel_rfl) (fun _ _ _ h => h) (Or.inl ⟨by rfl, ?_⟩) (by assumption) ?_
        rotate_left
        · intro w hSw; (try dsimp only at hSw); go_simp; try with_reducible rfl
        try simp only [Act.put, List.setIfInBounds_toArray, List.set_cons_zero, List.set_cons_succ]
        refine take_at (i := 6) (v := ?_) rfl rfl (by kernel_rfl) (by kernel_rfl) (by kernel_rfl) (fun _ _ _ h => h) (Or.inl ⟨by rfl, ?_⟩) (by assumption) ?_
        rotate_left
        · intro w hSw; (try dsimp only at hSw); go_simp; try with_reducible rfl
        try simp only [Act.put, List.setIfInBounds_toArray, List.set_cons_zero, List.set_cons_succ]
        refine wpAnyH_ready (rs := [8]) (by kernel_rfl) (by simp) ?_
        refine AllReadyH.cons rfl (fun K hK => ?_) AllReadyH.nil
        refine step_storeRow rfl rfl 26 _ _ rfl V1.heap.size #[.int .i64 0, .slice none 0 0, .int .i64 0] #[.int .i64 3, .slice (some ⟨b9, 0, none⟩) 6 c9, .int .i64 0] rfl rfl KV2 rfl (by kernel_rfl) (by simp [Value.oneCell']) ?_
        have HJD : Hid (JdS W1 V1.heap.size b9 c9 3 0 gA2.2.1 (V2.setRow V1.heap.size #[.int .i64 3, .slice (some ⟨b9, 0, none⟩) 6 c9, .int .i64 0])) := by
          have kk : Blk V2 26 V1.heap.size #[.int .i64 0, .slice none 0 0, .int .i64 0] := KV2
          exact ⟨kk.setRow _, hm9.same (setRow_other _ _ _ _ (fun e => hm9.ne kk e.symm)), below_setRow hVZ hlh _, hlh, hlb⟩
        refine hK.out _ _ (HSS.out _ HJD.out.bel) (fun hHeld => ?_)
        clear hK K
        refine take_at (i := 9) (v := ?_) rfl rfl (by kernel_rfl) (by kernel_rfl) (by kernel_rfl) (fun _ _ _ h => h) (Or.inl ⟨by rfl, ?_⟩) (by assumption) ?_
        rotate_left
        · intro w hSw; (try dsimp only at hSw); go_simp; try with_reducible rfl
        try simp only [Act.put, List.setIfInBounds_toArray, List.set_cons_zero, List.set_cons_succ]
        refine take_at (i := 10) (v := ?_) rfl rfl (by kernel_rfl) (by kernel_rfl) (by kernel_rfl) (fun _ _ _ h => h) (Or.inl ⟨by rfl, ?_⟩) (by assumption) ?_
        rotate_left
        · intro w hSw; (try dsimp only at hSw); go_simp; try with_reducible rfl
        try simp only [Act.put, List.setIfInBounds_toArray, List.set_cons_zero, List.set_cons_succ]
        refine wpAnyH_done (by kernel_rfl) (NoPanic.normal ?_) _
        go_wp2_with fail
        go_meet
        case rel => exact ⟨V1.heap.size, b9, c9, rfl, rfl, rfl, HJD⟩
    · go_simp
      have hlh : W1.heap.size ≤ W1.heap.size := Nat.le_refl _
      have hVA : Below W1.heap.size W1 (W1.drew.alloc (.cells #[.int .i64 0, .slice none 0 0, .int .i64 0] 26)) := hV0.alloc (Nat.le_refl _) _
      have KV0 : Blk (W1.drew.alloc (.cells #[.int .i64 0, .slice none 0 0, .int .i64 0] 26)) 26 W1.heap.size #[.int .i64 0, .slice none 0 0, .int .i64 0] := Blk.new' _ _ _ _ rfl
      refine hK.out _ _ (HSS.out _ hVA) (fun hHeld => ?_)
      clear hK K
      refine wpAnyH_ready (rs := [1]) (by kernel_rfl) (by simp) ?_
      refine AllReadyH.cons rfl (fun K hK => ?_) AllReadyH.nil
      go_simp
      refine (CT.out _).mono ?_
      rintro e V1 ⟨rfl, hb1⟩
      have hV1 : Below W1.heap.size W1 V1 := below_step hVA (Nat.le_refl _) hb1
      have KV1 := KV0.on hb1
      clear hb1
      refine hK.out _ _ (HSS.out _ hV1) (fun hHeld => ?_)
      clear hK K
      refine wpAnyH_ready (rs := [2]) (by kernel_rfl) (by simp) ?_
      refine AllReadyH.cons rfl (fun K hK => ?_) AllReadyH.nil
      go_simp
      refine (CJ.out V1 hV1).mono ?_
      rintro e V2 ⟨b9, c9, rfl, hb9, hm9, hb2⟩
      have hVZ : Below W1.heap.size W1 V2 := below_step hV1 (Nat.le_refl _) hb2
      have hlb : W1.heap.size ≤ b9 := Nat.le_trans hV1.size hb9
      have KV2 := KV1.on hb2
      clear hb2 hb9
      refine hK.out _ _ (HSS.out _ hVZ) (fun hHeld => ?_)
      clear hK K
      refine take_at (i := 3) (v := ?_) rfl rfl (by kernel_rfl) (by kernel_rfl) (by kernel_rfl) (fun _ _ _ h => h) (Or.inl ⟨by rfl, ?_⟩) (by assumption) ?_
      rotate_left
      · intro w hSw; (try dsimp only at hSw); go_simp; try with_reducible rfl
      try simp only [Act.put, List.setIfInBounds_toArray, List.set_cons_zero, List.set_cons_succ]
      refine take_at (i := 4) (v := ?_) rfl rfl (by kernel_rfl) (by kernel_rfl) (by kernel_rfl) (fun _ _ _ h => h) (Or.inl ⟨by rfl, ?_⟩) (by assumption) ?_
      rotate_left
      · intro w hSw; (try dsimp only at hSw); go_simp; try with_reducible rfl
      try simp only [Act.put, List.setIfInBounds_toArray, List.set_cons_zero, List.set_cons_succ]
      refine take_at (i := 5) (v := ?_) rfl rfl (by kernel_rfl) (by kernel_rfl) (by kernel_rfl) (fun _ _ _ h => h) (Or.inl ⟨by rfl, ?_⟩) (by assumption) ?_
      rotate_left
      · intro w hSw; (try dsimp only at hSw); go_simp; try with_reducible rfl
      try simp only [Act.put, List.setIfInBounds_toArray, List.set_cons_zero, List.set_cons_succ]
      refine take_at (i := 6) (v := ?_) rfl rfl (by kernel_rfl) (by kernel_rfl) (by kernel_rfl) (fun _ _ _ h => h) (Or.inl ⟨by rfl, ?_⟩) (by assumption) ?_
      rotate_left
      · intro w hSw; (try dsimp only at hSw); go_simp; try with_reducible rfl
      try simp only [Act.put, List.setIfInBounds_toArray, List.set_cons_zero, List.set_cons_succ]
      refine wpAnyH_ready (rs := [8]) (by kernel_rfl) (by simp) ?_
      refine AllReadyH.cons rfl (fun K hK => ?_) AllReadyH.nil
      refine step_storeRow rfl rfl 26 _ _ rfl W1.heap.size #[.int .i64 0, .slice none 0 0, .int .i64 0] #[.int .i64 3, .slice (some ⟨b9, 0, none⟩) 6 c9, .int .i64 0] rfl rfl KV2 rfl (by kernel_rfl) (by simp [Value.oneCell']) ?_
      have HJD : Hid (JdS W1 W1.heap.size b9 c9 3 0 gA2.2.1 (V2.setRow W1.heap.size #[.int .i64 3, .slice (some ⟨b9, 0, none⟩) 6 c9, .int .i64 0])) := by
        have kk : Blk V2 26 W1.heap.size #[.int .i64 0, .slice none 0 0, .int .i64 0] := KV2
        exact ⟨kk.setRow _, hm9.same (setRow_other _ _ _ _ (fun e => hm9.ne kk e.symm)), below_setRow hVZ hlh _, hlh, hlb⟩
      refine hK.out _ _ (HSS.out _ HJD.out.bel) (fun hHeld => ?_)
      clear hK K
      refine take_at (i := 9) (v := ?_) rfl rfl (by kernel_rfl) (by kernel_rfl) (by kernel_rfl) (fun _ _ _ h => h) (Or.inl ⟨by rfl, ?_⟩) (by assumption) ?_
      rotate_left
      · intro w hSw; (try dsimp only at hSw); go_simp; try with_reducible rfl
      try simp only [Act.put, List.setIfInBounds_toArray, List.set_cons_zero, List.set_cons_succ]
      refine take_at (i := 10) (v := ?_) rfl rfl (by kernel_rfl) (by kernel_rfl) (by kernel_rfl) (fun _ _ _ h => h) (Or.inl ⟨by rfl, ?_⟩) (by assumption) ?_
      rotate_left
      · intro w hSw; (try dsimp only at hSw); go_simp; try with_reducible rfl
      try simp only [Act.put, List.setIfInBounds_toArray, List.set_cons_zero, List.set_cons_succ]
      refine wpAnyH_done (by kernel_rfl) (NoPanic.normal ?_) _
      go_wp2_with fail
      go_meet
      case rel => exact ⟨W1.heap.size, b9, c9, rfl, rfl, rfl, HJD⟩
  case rest =>
    obtain ⟨h2, b2, c2, rfl, rfl, rfl, HJ2⟩ := hcut
    clear HSS hS0 CT CJ
    obtain ⟨B, hB⟩ : ∃ B, encA (gpPs gA1) = B := ⟨_, rfl⟩
    have hput : putGC gA1 = (B, 0) := by rw [← hB]; exact putG_fit gA1 mayA1
    have htk : takeGC B = (gA1, 0) := takeGC_put gA1 B hput
    have hsz : B.size = 54 := by rw [← hB, gpPs_size]; rfl
    have CP : Hid (∀ W a c, MmsAt W a 6 gA1.2.1 → Calls Tryd.prog 12 #[.agg #[.int .i64 2, .slice a 6 c, .int .i64 0]] W fun e w' => e = .returned (.tuple #[.string B, .int .i64 0]) ∧ Below W.heap.size W w') := fun W a c hW => by
      have h := put20_any gA1 a c W (by decide) hW
      rw [hput] at h
      exact h
    have CK : Hid (∀ W, Calls Tryd.prog 13 #[.string B] W fun e w' => ∃ a c, e = .returned (.tuple #[.agg #[.int .i64 2, .slice a 6 c, .int .i64 0], .int .i64 0]) ∧ MmsAt w' a 6 gA1.2.1 ∧ Below W.heap.size W w') := fun W => by
      refine (take20_any B W (by omega)).mono ?_
      rw [htk]
      rintro e w' ⟨a, c, h1, _, _, h2, h3⟩
      exact ⟨a, c, h1, h2, h3⟩
    have bsz : ((B.size : Int) == 54) = true := by rw [hsz]; rfl
    have HSZ : Hid (B.size = 54) := hsz
    clear hB hput htk hsz
    have HG1 : Hid (JdS w h1 b1 c1 2 0 gA1.2.1 wc) := HJ1.out.on HJ2.out.bel
    have HG2 : Hid (JdS W1 h2 b2 c2 3 0 gA2.2.1 wc) := HJ2.out
    clear HJ1 HJ2
    have d0 : wc.cell? ⟨h1, 0, none⟩ = some (.int .i64 2) := HG1.out.gg.cell 0
    have d1 : wc.cell? ⟨h1, 1, none⟩ = some (.slice (some ⟨b1, 0, none⟩) 6 c1) := HG1.out.gg.cell 1
    have d2 : wc.cell? ⟨h1, 2, none⟩ = some (.int .i64 0) := HG1.out.gg.cell 2
    go_wp2_with fail
    refine (CP.out wc _ _ HG1.out.mm.at).mono ?_
    rintro e x1 ⟨rfl, hb⟩
    have HA1 : Hid (JdS w h1 b1 c1 2 0 gA1.2.1 x1) := HG1.out.on hb
    have HA2 : Hid (JdS W1 h2 b2 c2 3 0 gA2.2.1 x1) := HG2.out.on hb
    clear HG1 HG2 d0 d1 d2 hb CP
    go_wp2_with fail
    refine (CK.out x1).mono ?_
    rintro e x2 ⟨a3, c3, rfl, hm3, hb⟩
    have HM3 : Hid (MmsAt x2 a3 6 gA1.2.1) := hm3
    have HB1 : Hid (JdS w h1 b1 c1 2 0 gA1.2.1 x2) := HA1.out.on hb
    have HB2 : Hid (JdS W1 h2 b2 c2 3 0 gA2.2.1 x2) := HA2.out.on hb
    have nn := below_new x2 (.cells #[.int .i64 2, .slice a3 6 c3, .int .i64 0] 26)
    have HB3 : Hid (Blk (x2.alloc (.cells #[.int .i64 2, .slice a3 6 c3, .int .i64 0] 26)) 26 x2.heap.size #[.int .i64 2, .slice a3 6 c3, .int .i64 0]) := Blk.new _ _ _
    obtain ⟨x3, hx3⟩ : ∃ x3, x2.alloc (.cells #[.int .i64 2, .slice a3 6 c3, .int .i64 0] 26) = x3 := ⟨_, rfl⟩
    rw [hx3] at nn HB3
    have HC1 : Hid (JdS w h1 b1 c1 2 0 gA1.2.1 x3) := HB1.out.on nn
    have HC2 : Hid (JdS W1 h2 b2 c2 3 0 gA2.2.1 x3) := HB2.out.on nn
    have HC3 : Hid (MmsAt x3 a3 6 gA1.2.1) := HM3.out.below nn
    have d0 : x3.cell? ⟨h1, 0, none⟩ = some (.int .i64 2) := HC1.out.gg.cell 0
    have d1 : x3.cell? ⟨h1, 1, none⟩ = some (.slice (some ⟨b1, 0, none⟩) 6 c1) := HC1.out.gg.cell 1
    have d2 : x3.cell? ⟨h1, 2, none⟩ = some (.int .i64 0) := HC1.out.gg.cell 2
    have HX3 : Hid (x2.alloc (.cells #[.int .i64 2, .slice a3 6 c3, .int .i64 0] 26) = x3) := hx3
    rw [← hx3] at d0 d1 d2
    clear hx3 nn hm3 hb HA1 HA2 HB1 HB2 HM3 CK
    have CI : Hid (∀ (W : World) (Ep Op : Int) (l : List MemT) (b c : Nat) (D : Bool), RowM W b c l → inB l 2 = D → Calls Tryd.prog 8 #[.agg #[.int .i64 Ep, .slice (some ⟨b, 0, none⟩) 6 c, .int .i64 Op], .int .i64 2] W fun e w' => e = .returned (.bool D) ∧ Below W.heap.size W w') := fun W Ep Op l b c D hm hD => by
      have h := in6_any Ep Op l b 0 c 2 W hm.1 hm.at
      rw [hD] at h
      exact h
    go_wp2_with fail
    rw [HX3.out]
    clear HX3 d0 d1 d2
    obtain ⟨h3, hh3⟩ : ∃ h3, x2.heap.size = h3 := ⟨_, rfl⟩
    rw [hh3] at HB3 ⊢
    clear hh3
    refine (CI.out x3 2 0 _ b1 c1 true HC1.out.mm (by decide)).mono ?_
    rintro e x4 ⟨rfl, hb⟩
    have HD1 : Hid (JdS w h1 b1 c1 2 0 gA1.2.1 x4) := HC1.out.on hb
    have HD2 : Hid (JdS W1 h2 b2 c2 3 0 gA2.2.1 x4) := HC2.out.on hb
    have HD3 : Hid (MmsAt x4 a3 6 gA1.2.1) := HC3.out.below hb
    have HD4 : Hid (Blk x4 26 h3 #[.int .i64 2, .slice a3 6 c3, .int .i64 0]) := HB3.out.on hb
    clear hb HC1 HC2 HC3 HB3
    have d0 : x4.cell? ⟨h2, 0, none⟩ = some (.int .i64 3) := HD2.out.gg.cell 0
    have d1 : x4.cell? ⟨h2, 1, none⟩ = some (.slice (some ⟨b2, 0, none⟩) 6 c2) := HD2.out.gg.cell 1
    have d2 : x4.cell? ⟨h2, 2, none⟩ = some (.int .i64 0) := HD2.out.gg.cell 2
    go_wp2_with fail
    clear d0 d1 d2
    refine (CI.out x4 3 0 _ b2 c2 false HD2.out.mm (by decide)).mono ?_
    rintro e x5 ⟨rfl, hb⟩
    have HE1 : Hid (JdS w h1 b1 c1 2 0 gA1.2.1 x5) := HD1.out.on hb
    have HE3 : Hid (MmsAt x5 a3 6 gA1.2.1) := HD3.out.below hb
    have HE4 : Hid (Blk x5 26 h3 #[.int .i64 2, .slice a3 6 c3, .int .i64 0]) := HD4.out.on hb
    clear hb HD1 HD2 HD3 HD4 CI
    have d0 : x5.cell? ⟨h1, 0, none⟩ = some (.int .i64 2) := HE1.out.gg.cell 0
    have d1 : x5.cell? ⟨h1, 1, none⟩ = some (.slice (some ⟨b1, 0, none⟩) 6 c1) := HE1.out.gg.cell 1
    have d2 : x5.cell? ⟨h1, 2, none⟩ = some (.int .i64 0) := HE1.out.gg.cell 2
    have f0 : x5.cell? ⟨h3, 0, none⟩ = some (.int .i64 2) := HE4.out.cell 0
    have f1 : x5.cell? ⟨h3, 1, none⟩ = some (.slice a3 6 c3) := HE4.out.cell 1
    have f2 : x5.cell? ⟨h3, 2, none⟩ = some (.int .i64 0) := HE4.out.cell 2
    have CS : Hid (Calls Tryd.prog 14 #[.agg #[.int .i64 2, .slice a3 6 c3, .int .i64 0], .agg #[.int .i64 2, .slice (some ⟨b1, 0, none⟩) 6 c1, .int .i64 0]] x5 fun e w' => e = .returned (.bool true) ∧ Below x5.heap.size x5 w') := rsame20_any gA1 gA1 true (by simp) a3 (some ⟨b1, 0, none⟩) c3 c1 x5 (by decide) HE3.out HE1.out.mm.at
    go_wp2_with fail
    clear d0 d1 d2 f0 f1 f2
    refine (Calls.mono CS.out) ?_
    rintro e x6 ⟨rfl, hb⟩
    have HF1 : Hid (JdS w h1 b1 c1 2 0 gA1.2.1 x6) := HE1.out.on hb
    clear hb HE1 HE3 HE4 CS
    have d0 : x6.cell? ⟨h1, 0, none⟩ = some (.int .i64 2) := HF1.out.gg.cell 0
    have d1 : x6.cell? ⟨h1, 1, none⟩ = some (.slice (some ⟨b1, 0, none⟩) 6 c1) := HF1.out.gg.cell 1
    have d2 : x6.cell? ⟨h1, 2, none⟩ = some (.int .i64 0) := HF1.out.gg.cell 2
    have CC : Hid (Calls Tryd.prog 15 #[.agg #[.int .i64 2, .slice (some ⟨b1, 0, none⟩) 6 c1, .int .i64 0]] x6 fun e w' => e = .returned (.int .i64 0) ∧ Below x6.heap.size x6 w') := check20_any gA1 (some ⟨b1, 0, none⟩) c1 x6 true (by rw [← mayGb_iff, mayA1]) (by decide) HF1.out.mm.at
    go_wp2_with fail
    clear d0 d1 d2
    refine (Calls.mono CC.out) ?_
    rintro e x7 ⟨rfl, hb⟩
    have HB7 : Hid (Below w.heap.size w x7) := below_step HF1.out.bel (Nat.le_refl _) hb
    clear hb HF1 CC
    go_wp2_with fail
    go_ret
    exact ⟨rfl, HB7.out⟩

end Go.Proofs.YtkmdajenbidaaaaDoor
