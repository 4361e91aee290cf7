/- The walk of TreeTrash (layer 11). -/
import Derived.Test.YtmfckdhincffkabDoorTrTaP
namespace Go.Proofs.YtmfckdhincffkabDoor
open Go.RowKit
set_option linter.unusedSimpArgs false








set_option maxRecDepth 100000 in
set_option maxHeartbeats 8000000 in
theorem treeTrash_walk (many which : Int) (back : Bool) (w : World) (hG : Glob8 w) :
    Calls Tryd.prog 5 #[.int .i64 many, .int .i64 which, .bool back] w fun e w' => e = .returned (.bool true) ∧ Below w.heap.size w w' := by
  obtain ⟨M, hM⟩ := mayM_ex
  have HM : Hid (∀ o, M o = true ↔ MayO o) := hM
  have HG : Hid (Glob8 w) := hG
  have CN : Hid (Calls _ _ _ _ _) := new_tr w w (Below.refl _ _)
  have CA : Hid (∀ t u W, _) := at_any
  have CW : Hid (∀ W, Below w.heap.size w W → Calls Tryd.prog 13 #[] W fun e w' => e = .returned (.bool true) ∧ Below W.heap.size W w') := fun W hW => awake11 W (HG.out.below hW)
  obtain ⟨v1, hv1, hbits1⟩ : ∃ v : Nat, v ≤ 255 ∧ bits .and .i64 many 255 = (v : Int) := by
    have h1 := i64_mask many 8 (by decide) 255 (by decide)
    refine ⟨(many % 256).toNat, by omega, ?_⟩
    rw [h1]
    show many % 256 = _
    omega
  obtain ⟨v2, hv2, hbits2⟩ : ∃ v : Nat, v ≤ 255 ∧ bits .and .i64 which 255 = (v : Int) := by
    have h1 := i64_mask which 8 (by decide) 255 (by decide)
    refine ⟨(which % 256).toNat, by omega, ?_⟩
    rw [h1]
    show which % 256 = _
    omega
  obtain ⟨n0, hn0, hrem1⟩ : ∃ u' : Nat, u' ≤ 11 ∧ Int.tmod (v1 : Int) 12 = (u' : Int) := ⟨v1 % 12, by omega, by rw [Int.tmod_eq_emod_of_nonneg (by omega)]; omega⟩
  obtain ⟨n, hn⟩ : ∃ n, n = n0 + 1 := ⟨_, rfl⟩
  have hn1 : 1 + (n0 : Int) = (n : Int) := by omega
  have hn12 : n ≤ 12 := by omega
  have hnp : 1 ≤ n := by omega
  obtain ⟨k0, hk0, hrem2⟩ : ∃ u' : Nat, u' < n ∧ Int.tmod (v2 : Int) (n : Int) = (u' : Int) := ⟨v2 % n, Nat.mod_lt _ (by omega), by rw [← Int.ofNat_tmod]⟩
  obtain ⟨k, hk⟩ : ∃ k, k = k0 + 1 := ⟨_, rfl⟩
  have hk1 : 1 + (k0 : Int) = (k : Int) := by omega
  have hkn : k ≤ n := by omega
  have hkp : 1 ≤ k := by omega
  have b00 : ¬ ((n : Int) = 0) := by omega
  clear hM hG hn hk
  go_enter Tryd.func5, Tryd.ntmps5
  go_wp2_with fail
  refine CN.out.mono ?_
  rintro e w1 ⟨g, f, m, rfl, hT, _, _⟩
  have HT0 : Hid (Tr w w1 g f m none ([], chainL 0, (0, 0))) := hT
  clear hT CN
  go_wp2_with fail
  go_loopw [9] (fun i wr => ∃ (j : Nat) (r : Option Nat), j ≤ n ∧ i = .int .i64 ((j : Int) + 1) ∧ Hid (Tr w wr g f m r ([], chainL j, (0, 0)))) (fun i _ => 14 - (intOf i).toNat)
  case atStart => exact ⟨0, none, by omega, rfl, HT0⟩
  case round =>
    clear HT0
    obtain ⟨j, r, hjn, rfl, HT⟩ := hrel
    by_cases hlt : j < n
    · have b0 : (j : Int) + 1 ≤ (n : Int) := by omega
      by_cases hj0 : j = 0
      · subst hj0
        have CAP : Hid (∀ (r : Option Nat) (W : World), Tr w W g f m r ([], chainL 0, (0, 0)) → Calls Tryd.prog 7 #[.pointer (some ⟨g, 0, none⟩), .agg #[.int .i64 1, .int .i64 1, .int .i64 1, .int .i64 1, .int .i64 1, .int .i64 0, .int .i64 0, .string ⟨#[110]⟩, .string ⟨#[]⟩]] W fun e w' => e = .returned (.int .i64 0) ∧ ∃ r', TreeIn w' g f m r' ([], chainL (0 + 1), (0, 0)) ∧ KeptF (tfoot g f m r) W w' ∧ Nx W r r') := fun r W hT => by
          have h := apply_tr M HM.out g f m r _ (chainO (((0 : Nat) : Int) + 1)) w W hT HG.out (by decide) (by decide) (by decide)
          rw [chain_step M HM.out 0 (by decide)] at h
          exact h
        go_wp2_with fail
        obtain ⟨W1, hW1⟩ : ∃ W1, wr.alloc (.cells #[.int .i64 0, .int .i64 0] 23) = W1 := ⟨_, rfl⟩
        obtain ⟨hp, hhp⟩ : ∃ hp, wr.heap.size = hp := ⟨_, rfl⟩
        have HT1 : Hid (Tr w W1 g f m r ([], chainL 0, (0, 0))) := by show Tr _ _ _ _ _ _ _; rw [← hW1]; exact HT.out.on (below_new _ _)
        have HK1 : Hid (Blk W1 23 hp #[.int .i64 0, .int .i64 0]) := by show Blk _ _ _ _; rw [← hW1, ← hhp]; exact Blk.new _ _ _
        have HP : Hid (∀ k, tfoot g f m r k → k < hp) := fun k hk => by rw [← hhp]; exact HT.out.tree.lt hk
        have hS0 : W1.cell? ⟨hp, 0, none⟩ = some (.int .i64 0) ∧ W1.cell? ⟨hp, 1, none⟩ = some (.int .i64 0) := ⟨HK1.out.cell 0, HK1.out.cell 1⟩
        rw [hW1, hhp]
        clear hW1 hhp HT
        obtain ⟨j, hj⟩ : ∃ j : Nat, j = 0 := ⟨_, rfl⟩
        have HT1' : Hid (Tr w W1 g f m r ([], chainL 0, (0, 0))) := HT1
        refine wp_region_noPanic ?_
        refine wp_region_held_drew (S := fun W => W.cell? ⟨hp, 0, none⟩ = some (.int .i64 0) ∧ W.cell? ⟨hp, 1, none⟩ = some (.int .i64 0)) (by kernel_rfl) (by first | exact trivial | assumption | exact ⟨by assumption, by assumption⟩) (fun hHeld => ?_)
        refine take_at (i := 0) (v := ?_) rfl rfl (by kernel_rfl) (by kernel_rfl) (by kernel_rfl) (fun _ _ _ h => h) (Or.inl ⟨by rfl, ?_⟩) (by assumption) ?_
        rotate_left
        · intro w hSw; (try dsimp only at hSw); go_simp; try with_reducible rfl
        try simp only [Act.put, List.setIfInBounds_toArray, List.set_cons_zero, List.set_cons_succ]
        refine take_at (i := 1) (v := ?_) rfl rfl (by kernel_rfl) (by kernel_rfl) (by kernel_rfl) (fun _ _ _ h => h) (Or.inl ⟨by rfl, ?_⟩) (by assumption) ?_
        rotate_left
        · intro w hSw; (try dsimp only at hSw); go_simp; try with_reducible rfl
        try simp only [Act.put, List.setIfInBounds_toArray, List.set_cons_zero, List.set_cons_succ]
        refine take_at (i := 3) (v := ?_) rfl rfl (by kernel_rfl) (by kernel_rfl) (by kernel_rfl) (fun _ _ _ h => h) (Or.inl ⟨by rfl, ?_⟩) (by assumption) ?_
        rotate_left
        · intro w hSw; (try dsimp only at hSw); go_simp; try with_reducible rfl
        try simp only [Act.put, List.setIfInBounds_toArray, List.set_cons_zero, List.set_cons_succ]
        refine take_at (i := 5) (v := ?_) rfl rfl (by kernel_rfl) (by kernel_rfl) (by kernel_rfl) (fun _ _ _ h => h) (Or.inl ⟨by rfl, ?_⟩) (by assumption) ?_
        rotate_left
        · intro w hSw; (try dsimp only at hSw); go_simp; try with_reducible rfl
        try simp only [Act.put, List.setIfInBounds_toArray, List.set_cons_zero, List.set_cons_succ]
        refine wpAnyH_ready (rs := [2]) (by kernel_rfl) (by simp) ?_
        refine AllReadyH.cons rfl (fun K hK => ?_) AllReadyH.nil
        go_simp
        refine (CA.out _ _ _).mono ?_
        rintro e w2 ⟨rfl, hb2⟩
        have hB2 : Below W1.heap.size W1 w2 := below_step (Below.refl _ _).drew (Nat.le_refl _) hb2
        have HK2 := HK1.out.on hB2
        refine hK.out _ _ ⟨HK2.cell 0, HK2.cell 1⟩ (fun hHeld => ?_)
        clear hK K
        refine wpAnyH_ready (rs := [4]) (by kernel_rfl) (by simp) ?_
        refine AllReadyH.cons rfl (fun K hK => ?_) AllReadyH.nil
        go_simp
        refine (CA.out _ _ _).mono ?_
        rintro e w3 ⟨rfl, hb3⟩
        have hB3 : Below W1.heap.size W1 w3 := below_step hB2 (Nat.le_refl _) hb3
        have HK3 := HK1.out.on hB3
        refine hK.out _ _ ⟨HK3.cell 0, HK3.cell 1⟩ (fun hHeld => ?_)
        clear hK K
        refine take_at (i := 6) (v := ?_) rfl rfl (by kernel_rfl) (by kernel_rfl) (by kernel_rfl) (fun _ _ _ h => h) (Or.inl ⟨by rfl, ?_⟩) (by assumption) ?_
        rotate_left
        · intro w hSw; (try dsimp only at hSw); go_simp; try with_reducible rfl
        try simp only [Act.put, List.setIfInBounds_toArray, List.set_cons_zero, List.set_cons_succ]
        refine wpAnyH_ready (rs := [7]) (by kernel_rfl) (by simp) ?_
        refine AllReadyH.cons rfl (fun K hK => ?_) AllReadyH.nil
        have CA1 : Hid (Calls _ _ _ _ _) := CAP.out r w3 (HT1.out.on hB3)
        clear hb2 hb3 hB2 HK2
        go_simp
        refine CA1.out.mono ?_
        rintro e w4 ⟨rfl, r', hT4, hK4, hN4⟩
        have HT4 : Hid (Tr w w4 g f m r' ([], chainL (0 + 1), (0, 0))) := (HT1.out.on hB3).next hT4 hK4 hN4
        have HK4 := HK3.keptF hK4 (fun h => by have := HP.out _ h; omega)
        refine hK.out _ _ ⟨HK4.cell 0, HK4.cell 1⟩ (fun hHeld => ?_)
        clear hK K
        refine take_at (i := 8) (v := ?_) rfl rfl (by kernel_rfl) (by kernel_rfl) (by kernel_rfl) (fun _ _ _ h => h) (Or.inl ⟨by rfl, ?_⟩) (by assumption) ?_
        rotate_left
        · intro w hSw; (try dsimp only at hSw); go_simp; try with_reducible rfl
        try simp only [Act.put, List.setIfInBounds_toArray, List.set_cons_zero, List.set_cons_succ]
        refine wpAnyH_done (by kernel_rfl) (NoPanic.normal ?_) _
        clear CA1 hT4 hK4 hN4 HK3 HK4 hB3 HT1 HK1 hS0
        go_wp2_with fail
        refine ⟨?_, ?_⟩
        · first
          | exact ⟨0 + 1, r', by omega, by go_num, HT4⟩
          | ((repeat apply Exists.intro); refine ⟨?_, rfl⟩; exact ⟨0 + 1, r', by omega, by go_num, HT4⟩)
        · simp [intOf] <;> omega
      · have h1 : (1 : Int) < (j : Int) + 1 := by omega
        have CAP : Hid (∀ (r : Option Nat) (W : World), Tr w W g f m r ([], chainL j, (0, 0)) → Calls Tryd.prog 7 #[.pointer (some ⟨g, 0, none⟩), .agg #[.int .i64 1, .int .i64 ((j : Int) + 1), .int .i64 1, .int .i64 ((j : Int) + 1), .int .i64 1, .int .i64 j, .int .i64 1, .string ⟨#[110]⟩, .string ⟨#[]⟩]] W fun e w' => e = .returned (.int .i64 0) ∧ ∃ r', TreeIn w' g f m r' ([], chainL (j + 1), (0, 0)) ∧ KeptF (tfoot g f m r) W w' ∧ Nx W r r') := fun r W hT => by
          have h := apply_tr M HM.out g f m r _ (chainO ((j : Int) + 1)) w W hT HG.out (by simp only [chain_len, List.length_nil]; omega) (show (⟨#[110]⟩ : ByteArray).size ≤ 1048576 by decide) (show (⟨#[]⟩ : ByteArray).size ≤ 9223372036854775807 by decide)
          rw [chain_step M HM.out j (by omega)] at h
          have e : chainO ((j : Int) + 1) = (1, ((j : Int) + 1, 1), ((j : Int) + 1, 1), ((j : Int), 1), ⟨#[110]⟩, ⟨#[]⟩) := by
            unfold chainO
            rw [if_pos h1, show (j : Int) + 1 - 1 = (j : Int) by omega]
          rw [e] at h
          exact h
        go_wp2_with fail
        refine (CA.out _ _ _).mono ?_
        rintro e w5 ⟨rfl, hb5⟩
        have X1 : Blk w5 23 wr.heap.size #[.int .i64 0, .int .i64 0] := (Blk.new wr 23 #[.int .i64 0, .int .i64 0]).on hb5
        have hB5 : Below wr.heap.size wr w5 := below_step (below_new _ _) (Nat.le_refl _) hb5
        obtain ⟨hp, hhp⟩ : ∃ hp, wr.heap.size = hp := ⟨_, rfl⟩
        have HT5 : Hid (Tr w w5 g f m r ([], chainL j, (0, 0))) := HT.out.on hB5
        have HP : Hid (∀ k, tfoot g f m r k → k < hp) := fun k hk => by rw [← hhp]; exact HT.out.tree.lt hk
        have HW : Hid (w.heap.size ≤ hp) := by show _ ≤ _; rw [← hhp]; exact HT.out.bel.size
        rw [hhp] at X1 ⊢
        clear hb5 hB5 HT hhp
        go_wp2_with (with_reducible refine wpList_storeBlkH rfl 23 _ _ rfl hp #[.int .i64 0, .int .i64 0] #[.int .i64 j, .int .i64 1] ?hx ?hy X1 rfl ?hi ?h1 ?_)
        try (case hx => rfl)
        try (case hy => rfl)
        try (case hi => first | kernel_rfl | (refine Option.map_eq_some_iff.1 (?_ : (Tryd.prog.info? 23).map (·.size) = some 2); kernel_rfl))
        try (case h1 => simp [Value.oneCell'])
        unfold Hid
        obtain ⟨W1, hW1⟩ : ∃ W1, w5.setRow hp #[.int .i64 j, .int .i64 1] = W1 := ⟨_, rfl⟩
        have HT1 : Hid (Tr w W1 g f m r ([], chainL j, (0, 0))) := by show Tr _ _ _ _ _ _ _; rw [← hW1]; exact HT5.out.set hp HW.out HP.out _
        have HK1 : Hid (Blk W1 23 hp #[.int .i64 j, .int .i64 1]) := by show Blk _ _ _ _; rw [← hW1]; exact X1.setRow _
        have hS0 : W1.cell? ⟨hp, 0, none⟩ = some (.int .i64 j) ∧ W1.cell? ⟨hp, 1, none⟩ = some (.int .i64 1) := ⟨HK1.out.cell 0, HK1.out.cell 1⟩
        rw [hW1]
        clear hW1 X1 HT5 HW
        go_wp2_with fail
        refine wp_region_noPanic ?_
        refine wp_region_held_drew (S := fun W => W.cell? ⟨hp, 0, none⟩ = some (.int .i64 j) ∧ W.cell? ⟨hp, 1, none⟩ = some (.int .i64 1)) (by kernel_rfl) (by first | exact trivial | assumption | exact ⟨by assumption, by assumption⟩) (fun hHeld => ?_)
        refine take_at (i := 0) (v := ?_) rfl rfl (by kernel_rfl) (by kernel_rfl) (by kernel_rfl) (fun _ _ _ h => h) (Or.inl ⟨by rfl, ?_⟩) (by assumption) ?_
        rotate_left
        · intro w hSw; (try dsimp only at hSw); go_simp; try with_reducible rfl
        try simp only [Act.put, List.setIfInBounds_toArray, List.set_cons_zero, List.set_cons_succ]
        refine take_at (i := 1) (v := ?_) rfl rfl (by kernel_rfl) (by kernel_rfl) (by kernel_rfl) (fun _ _ _ h => h) (Or.inl ⟨by rfl, ?_⟩) (by assumption) ?_
        rotate_left
        · intro w hSw; (try dsimp only at hSw); go_simp; try with_reducible rfl
        try simp only [Act.put, List.setIfInBounds_toArray, List.set_cons_zero, List.set_cons_succ]
        refine take_at (i := 3) (v := ?_) rfl rfl (by kernel_rfl) (by kernel_rfl) (by kernel_rfl) (fun _ _ _ h => h) (Or.inl ⟨by rfl, ?_⟩) (by assumption) ?_
        rotate_left
        · intro w hSw; (try dsimp only at hSw); go_simp; try with_reducible rfl
        try simp only [Act.put, List.setIfInBounds_toArray, List.set_cons_zero, List.set_cons_succ]
        refine take_at (i := 5) (v := ?_) rfl rfl (by kernel_rfl) (by kernel_rfl) (by kernel_rfl) (fun _ _ _ h => h) (Or.inl ⟨by rfl, ?_⟩) (by assumption) ?_
        rotate_left
        · intro w hSw; (try dsimp only at hSw); go_simp; try with_reducible rfl
        try simp only [Act.put, List.setIfInBounds_toArray, List.set_cons_zero, List.set_cons_succ]
        refine wpAnyH_ready (rs := [2]) (by kernel_rfl) (by simp) ?_
        refine AllReadyH.cons rfl (fun K hK => ?_) AllReadyH.nil
        go_simp
        refine (CA.out _ _ _).mono ?_
        rintro e w2 ⟨rfl, hb2⟩
        have hB2 : Below W1.heap.size W1 w2 := below_step (Below.refl _ _).drew (Nat.le_refl _) hb2
        have HK2 := HK1.out.on hB2
        refine hK.out _ _ ⟨HK2.cell 0, HK2.cell 1⟩ (fun hHeld => ?_)
        clear hK K
        refine wpAnyH_ready (rs := [4]) (by kernel_rfl) (by simp) ?_
        refine AllReadyH.cons rfl (fun K hK => ?_) AllReadyH.nil
        go_simp
        refine (CA.out _ _ _).mono ?_
        rintro e w3 ⟨rfl, hb3⟩
        have hB3 : Below W1.heap.size W1 w3 := below_step hB2 (Nat.le_refl _) hb3
        have HK3 := HK1.out.on hB3
        refine hK.out _ _ ⟨HK3.cell 0, HK3.cell 1⟩ (fun hHeld => ?_)
        clear hK K
        refine take_at (i := 6) (v := ?_) rfl rfl (by kernel_rfl) (by kernel_rfl) (by kernel_rfl) (fun _ _ _ h => h) (Or.inl ⟨by rfl, ?_⟩) (by assumption) ?_
        rotate_left
        · intro w hSw; (try dsimp only at hSw); go_simp; try with_reducible rfl
        try simp only [Act.put, List.setIfInBounds_toArray, List.set_cons_zero, List.set_cons_succ]
        refine wpAnyH_ready (rs := [7]) (by kernel_rfl) (by simp) ?_
        refine AllReadyH.cons rfl (fun K hK => ?_) AllReadyH.nil
        have CA1 : Hid (Calls _ _ _ _ _) := CAP.out r w3 (HT1.out.on hB3)
        clear hb2 hb3 hB2 HK2
        go_simp
        refine CA1.out.mono ?_
        rintro e w4 ⟨rfl, r', hT4, hK4, hN4⟩
        have HT4 : Hid (Tr w w4 g f m r' ([], chainL (j + 1), (0, 0))) := (HT1.out.on hB3).next hT4 hK4 hN4
        have HK4 := HK3.keptF hK4 (fun h => by have := HP.out _ h; omega)
        refine hK.out _ _ ⟨HK4.cell 0, HK4.cell 1⟩ (fun hHeld => ?_)
        clear hK K
        refine take_at (i := 8) (v := ?_) rfl rfl (by kernel_rfl) (by kernel_rfl) (by kernel_rfl) (fun _ _ _ h => h) (Or.inl ⟨by rfl, ?_⟩) (by assumption) ?_
        rotate_left
        · intro w hSw; (try dsimp only at hSw); go_simp; try with_reducible rfl
        try simp only [Act.put, List.setIfInBounds_toArray, List.set_cons_zero, List.set_cons_succ]
        refine wpAnyH_done (by kernel_rfl) (NoPanic.normal ?_) _
        clear CA1 hT4 hK4 hN4 HK3 HK4 hB3 HT1 HK1 hS0
        go_wp2_with fail
        refine ⟨?_, ?_⟩
        · first
          | exact ⟨j + 1, r', by omega, by go_num, HT4⟩
          | ((repeat apply Exists.intro); refine ⟨?_, rfl⟩; exact ⟨j + 1, r', by omega, by go_num, HT4⟩)
        · simp [intOf] <;> omega
    · obtain rfl : j = n := by omega
      have b0 : ¬ ((j : Int) + 1 ≤ (j : Int)) := by omega
      obtain ⟨n, hnj⟩ : ∃ n, n = j := ⟨_, rfl⟩
      rw [← hnj] at hn1 hn12 hnp hk0 hrem2 hkn b00 HT ⊢
      have CT : Hid (∀ (W : World), Tr w W g f m r ([], chainL n, (0, 0)) → Calls Tryd.prog 7 #[.pointer (some ⟨g, 0, none⟩), .agg #[.int .i64 5, .int .i64 50, .int .i64 2, .int .i64 k, .int .i64 1, .int .i64 0, .int .i64 0, .string ⟨#[]⟩, .string ⟨#[]⟩]] W fun e w' => e = .returned (.int .i64 0) ∧ ∃ r', TreeIn w' g f m r' ([], trashL n k false, (0, 0)) ∧ KeptF (tfoot g f m r) W w' ∧ Nx W r r') := fun W hT => by
        have h := apply_tr M HM.out g f m r _ (taO k) w W hT HG.out (by simp only [chain_len, List.length_nil]; omega) (show (⟨#[]⟩ : ByteArray).size ≤ 1048576 by decide) (show (⟨#[]⟩ : ByteArray).size ≤ 9223372036854775807 by decide)
        rw [ta_step M HM.out n k hn12 hkp (by omega)] at h
        exact h
      have CB : Hid (∀ (r : Option Nat) (W : World), Tr w W g f m r ([], trashL n k false, (0, 0)) → Calls Tryd.prog 7 #[.pointer (some ⟨g, 0, none⟩), .agg #[.int .i64 2, .int .i64 60, .int .i64 1, .int .i64 k, .int .i64 1, .int .i64 0, .int .i64 0, .string ⟨#[]⟩, .string ⟨#[]⟩]] W fun e w' => e = .returned (.int .i64 0) ∧ ∃ r', TreeIn w' g f m r' ([], trashL n k true, (0, 0)) ∧ KeptF (tfoot g f m r) W w' ∧ Nx W r r') := fun r W hT => by
        have h := apply_tr M HM.out g f m r _ (baO k) w W hT HG.out (by have := trash_len n k false; simp only [List.length_nil]; omega) (show (⟨#[]⟩ : ByteArray).size ≤ 1048576 by decide) (show (⟨#[]⟩ : ByteArray).size ≤ 9223372036854775807 by decide)
        rw [ba_step M HM.out n k hn12 hkp (by omega)] at h
        exact h
      clear hnj b0 hlt hjn
      go_wp2_with fail
      refine (CA.out _ _ _).mono ?_
      rintro e w2 ⟨rfl, hb2⟩
      have HT2 : Hid (Tr w w2 g f m r ([], chainL n, (0, 0))) := HT.out.on hb2
      clear hb2 HT
      go_wp2_with fail
      refine (CA.out _ _ _).mono ?_
      rintro e w3 ⟨rfl, hb3⟩
      have HT3 : Hid (Tr w w3 g f m r ([], chainL n, (0, 0))) := HT2.out.on hb3
      have CTx : Hid (Calls _ _ _ _ _) := CT.out w3 HT3.out
      clear hb3 HT2 CT
      go_wp2_with fail
      refine CTx.out.mono ?_
      rintro e w4 ⟨rfl, r', hT4, hK4, hN4⟩
      have HT4 : Hid (Tr w w4 g f m r' ([], trashL n k false, (0, 0))) := HT3.out.next hT4 hK4 hN4
      clear hT4 hK4 hN4 HT3 CTx
      cases back with
      | false =>
        obtain ⟨N, hNN⟩ : ∃ N, nodesP [] (trashL n k false) = N := ⟨_, rfl⟩
        have HNN : Hid (nodesP [] (trashL n k false) = N) := hNN
        obtain ⟨r, hr⟩ : ∃ r, r = r' := ⟨_, rfl⟩
        rw [← hr] at HT4
        have CG : Hid (∀ id W, TreeIn W g f m r ([], trashL n k false, (0, 0)) → _) := fun id W hW => get_any g f m r ([], trashL n k false, (0, 0)) id W hW (by have := trash_len n k false; simp only [List.length_nil]; omega)
        simp only [hNN] at CG
        have HTz := HT4
        clear HT4 CB hr hNN
        go_wp2_with fail
        go_loopw [12] (fun i wr => ∃ j : Nat, j ≤ n ∧ i = .int .i64 ((j : Int) + 1) ∧ Hid (Tr w wr g f m r ([], trashL n k false, (0, 0)))) (fun i _ => 14 - (intOf i).toNat)
        case atStart => exact ⟨0, by omega, rfl, HTz⟩
        case round =>
          clear HTz
          obtain ⟨j, hjn, rfl, HT⟩ := hrel
          by_cases hlt : j < n
          · have b0 : (j : Int) + 1 ≤ (n : Int) := by omega
            obtain ⟨⟨q1, q2⟩, hq⟩ : ∃ q : Int × Int, (if k ≤ j + 1 ∧ false = false then ((0, 1) : Int × Int) else (0, 0)) = q := ⟨_, rfl⟩
            have HU0 : Hid (upW N (n + 1) ((j : Int) + 1, 1) = some (q1, q2)) := by
              have h := ta_up n k (j + 1) false (by omega) (by omega) (by omega) (by omega) (by omega)
              rw [hq] at h
              rw [← HNN.out]
              exact h
            have HQ : Hid ((if k ≤ j + 1 ∧ false = false then ((0, 1) : Int × Int) else (0, 0)) = (q1, q2)) := hq
            clear hq
            go_wp2_with fail
            refine (CA.out _ _ _).mono ?_
            rintro e w5 ⟨rfl, hb5⟩
            go_wp2_with fail
            obtain ⟨W1, hW1⟩ : ∃ W1, w5.alloc (.cells #[.int .i64 ((j : Int) + 1), .int .i64 1] 23) = W1 := ⟨_, rfl⟩
            obtain ⟨hp, hhp⟩ : ∃ hp, w5.heap.size = hp := ⟨_, rfl⟩
            have HT1 : Hid (Tr w W1 g f m r ([], trashL n k false, (0, 0))) := by show Tr _ _ _ _ _ _ _; rw [← hW1]; exact (HT.out.on hb5).on (below_new _ _)
            have HK1 : Hid (Blk W1 23 hp #[.int .i64 ((j : Int) + 1), .int .i64 1]) := by show Blk _ _ _ _; rw [← hW1, ← hhp]; exact Blk.new _ _ _
            have HP : Hid (∀ k, tfoot g f m r k → k < hp) := fun k hk => by rw [← hhp]; exact (HT.out.on hb5).tree.lt hk
            have HW : Hid (w.heap.size ≤ hp) := by show _ ≤ _; rw [← hhp]; exact (HT.out.on hb5).bel.size
            rw [hW1, hhp]
            clear hW1 hhp hb5 HT
            go_loopw [14] (fun i wr => ∃ (t : Nat) (p1 p2 : Int), t ≤ n + 1 ∧ i = .int .i64 t ∧ Hid (upW N (n + 1 - t) (p1, p2) = some (q1, q2)) ∧ Hid (Blk wr 23 hp #[.int .i64 p1, .int .i64 p2]) ∧ Hid (Tr w wr g f m r ([], trashL n k false, (0, 0)))) (fun i _ => n + 1 - (intOf i).toNat)
            case atStart => exact ⟨0, (j : Int) + 1, 1, by omega, rfl, HU0, HK1, HT1⟩
            case round =>
              clear HU0 HK1 HT1
              obtain ⟨t, p1, p2, ht, rfl, HU, HK, HT⟩ := hrel
              have c0 : wr.cell? ⟨hp, 0, none⟩ = some (.int .i64 p1) := HK.out.cell 0
              have c1 : wr.cell? ⟨hp, 1, none⟩ = some (.int .i64 p2) := HK.out.cell 1
              by_cases hgo : t ≤ n ∧ 0 < p1
              · obtain ⟨htn, hp0⟩ := hgo
                have b1 : (t : Int) ≤ (n : Int) := by omega
                have hu := HU.out
                rw [show n + 1 - t = (n - t) + 1 by omega] at hu
                obtain ⟨x, hlk, hx⟩ := upW_on (show ¬ ((p1, p2) : Int × Int).1 ≤ 0 by show ¬ p1 ≤ 0; omega) hu
                have CGx : Hid (Calls _ _ _ _ _) := CG.out (p1, p2) wr HT.out.tree
                rw [hlk] at CGx
                obtain ⟨⟨y1, y2⟩, ⟨y3, y4⟩, y5, y6⟩ := x
                simp only [stampV, Option.getD_some, Option.isSome_some, nodeV, nodeA] at CGx
                have HU' : Hid (upW N (n + 1 - (t + 1)) (y3, y4) = some (q1, q2)) := by show _ = _; rw [show n + 1 - (t + 1) = n - t by omega]; exact hx
                clear hlk hu hx HU
                go_wp2_with fail
                refine CGx.out.mono ?_
                rintro e w6 ⟨rfl, hT6, hK6⟩
                have HT6 := HT.out.next hT6 hK6 (Nx.refl _ _)
                have K6 := HK.out.keptF hK6 (fun h => by have := HP.out _ h; omega)
                have X1 : Blk (w6.alloc (.cells #[.int .i64 y1, .int .i64 y2, .int .i64 y3, .int .i64 y4, .string y5, .string y6] 34)) 23 hp #[.int .i64 p1, .int .i64 p2] := K6.on (below_new _ _)
                have HT7 : Hid (Tr w (w6.alloc (.cells #[.int .i64 y1, .int .i64 y2, .int .i64 y3, .int .i64 y4, .string y5, .string y6] 34)) g f m r ([], trashL n k false, (0, 0))) := HT6.on (below_new _ _)
                clear CGx hT6 hK6 HT6 K6 HK HT c0 c1
                go_wp2_with (with_reducible refine wpList_storeBlkH rfl 23 _ _ rfl hp #[.int .i64 p1, .int .i64 p2] #[.int .i64 y3, .int .i64 y4] ?hxNfalse ?hyNfalse X1 rfl ?hiNfalse ?h1Nfalse ?_)
                try (case hxNfalse => rfl)
                try (case hyNfalse => rfl)
                try (case hiNfalse => first | kernel_rfl | (refine Option.map_eq_some_iff.1 (?_ : (Tryd.prog.info? 23).map (·.size) = some 2); kernel_rfl))
                try (case h1Nfalse => simp [Value.oneCell'])
                unfold Hid
                have HK8 := X1.setRow #[.int .i64 y3, .int .i64 y4]
                have HT8 := HT7.out.set hp HW.out HP.out #[.int .i64 y3, .int .i64 y4]
                clear X1 HT7
                go_wp2_with fail
                refine ⟨?_, ?_⟩
                · first
                  | exact ⟨t + 1, y3, y4, by omega, by go_num, HU', HK8, HT8⟩
                  | ((repeat apply Exists.intro); refine ⟨?_, rfl⟩; exact ⟨t + 1, y3, y4, by omega, by go_num, HU', HK8, HT8⟩)
                · simp [intOf] <;> omega
              · have hend : (p1, p2) = (q1, q2) := by
                  have hu := HU.out
                  by_cases h0 : p1 ≤ 0
                  · rw [upW_end N _ (p1, p2) h0] at hu; exact Option.some.inj hu
                  · have : n + 1 - t = 0 := by omega
                    rw [this] at hu; exact Option.some.inj hu
                obtain ⟨hq1, hq2⟩ : q1 = p1 ∧ q2 = p2 := ⟨(congrArg Prod.fst hend).symm, (congrArg Prod.snd hend).symm⟩
                rw [hq1, hq2] at HQ
                clear hend hq1 hq2
                have d0 : ∀ o, (wr.alloc o).cell? ⟨hp, 0, none⟩ = some (.int .i64 p1) := fun o => (HK.out.on (below_new wr o)).cell 0
                have d1 : ∀ o, (wr.alloc o).cell? ⟨hp, 1, none⟩ = some (.int .i64 p2) := fun o => (HK.out.on (below_new wr o)).cell 1
                have HTn : Hid (∀ o, Tr w (wr.alloc o) g f m r ([], trashL n k false, (0, 0))) := fun o => HT.out.on (below_new wr o)
                have hgo' : t ≤ n → ¬ 0 < p1 := fun a b => hgo ⟨a, b⟩
                clear HU HK HT hgo
                by_cases hkj : k ≤ j + 1
                · have b2 : (k : Int) ≤ (j : Int) + 1 := by omega
                  obtain ⟨rfl, rfl⟩ : p1 = 0 ∧ p2 = 1 := by
                    have h := HQ.out
                    rw [if_pos ⟨hkj, by first | rfl | trivial⟩] at h
                    exact ⟨(congrArg Prod.fst h).symm, (congrArg Prod.snd h).symm⟩
                  have hE := fun W => stampEq_is (0, 1) (0, 1) true (decide_eq_true rfl) W
                  clear hgo'
                  by_cases htn : t ≤ n
                  · have b1 : (t : Int) ≤ (n : Int) := by omega
                    go_wp2_with fail
                    refine ⟨?_, ?_⟩
                    · first
                      | exact ⟨j + 1, by omega, by go_num, HTn.out _⟩
                      | ((repeat apply Exists.intro); refine ⟨?_, rfl⟩; exact ⟨j + 1, by omega, by go_num, HTn.out _⟩)
                    · simp [intOf] <;> omega
                  · have b1 : ¬ ((t : Int) ≤ (n : Int)) := by omega
                    go_wp2_with fail
                    refine ⟨?_, ?_⟩
                    · first
                      | exact ⟨j + 1, by omega, by go_num, HTn.out _⟩
                      | ((repeat apply Exists.intro); refine ⟨?_, rfl⟩; exact ⟨j + 1, by omega, by go_num, HTn.out _⟩)
                    · simp [intOf] <;> omega
                · have b2 : ¬ ((k : Int) ≤ (j : Int) + 1) := by omega
                  obtain ⟨rfl, rfl⟩ : p1 = 0 ∧ p2 = 0 := by
                    have h := HQ.out
                    rw [if_neg (fun hh => hkj hh.1)] at h
                    exact ⟨(congrArg Prod.fst h).symm, (congrArg Prod.snd h).symm⟩
                  have hE := fun W => stampEq_is (0, 0) (0, 0) true (decide_eq_true rfl) W
                  clear hgo'
                  by_cases htn : t ≤ n
                  · have b1 : (t : Int) ≤ (n : Int) := by omega
                    go_wp2_with fail
                    refine ⟨?_, ?_⟩
                    · first
                      | exact ⟨j + 1, by omega, by go_num, HTn.out _⟩
                      | ((repeat apply Exists.intro); refine ⟨?_, rfl⟩; exact ⟨j + 1, by omega, by go_num, HTn.out _⟩)
                    · simp [intOf] <;> omega
                  · have b1 : ¬ ((t : Int) ≤ (n : Int)) := by omega
                    go_wp2_with fail
                    refine ⟨?_, ?_⟩
                    · first
                      | exact ⟨j + 1, by omega, by go_num, HTn.out _⟩
                      | ((repeat apply Exists.intro); refine ⟨?_, rfl⟩; exact ⟨j + 1, by omega, by go_num, HTn.out _⟩)
                    · simp [intOf] <;> omega
          · obtain rfl : j = n := by omega
            have b0 : ¬ ((j : Int) + 1 ≤ (j : Int)) := by omega
            have HB : Hid (Below w.heap.size w wr) := HT.out.bel
            have CWx : Hid (Calls _ _ _ _ _) := CW.out wr HB.out
            clear HT CW
            go_wp2_with fail
            refine CWx.out.mono ?_
            rintro e w5 ⟨rfl, hb5⟩
            have hB5 := below_step HB.out (Nat.le_refl _) hb5
            clear CWx hb5 HB
            go_wp2_with fail
            go_ret
            exact ⟨rfl, hB5⟩
      | true =>
        go_wp2_with fail
        refine (CA.out _ _ _).mono ?_
        rintro e w5 ⟨rfl, hb5⟩
        have HT5 : Hid (Tr w w5 g f m r' ([], trashL n k false, (0, 0))) := HT4.out.on hb5
        clear hb5 HT4
        go_wp2_with fail
        refine (CA.out _ _ _).mono ?_
        rintro e w6 ⟨rfl, hb6⟩
        have HT6 : Hid (Tr w w6 g f m r' ([], trashL n k false, (0, 0))) := HT5.out.on hb6
        have CBx : Hid (Calls _ _ _ _ _) := CB.out r' w6 HT6.out
        clear hb6 HT5 CB
        go_wp2_with fail
        refine CBx.out.mono ?_
        rintro e w7 ⟨rfl, r'', hT7, hK7, hN7⟩
        have HT7 : Hid (Tr w w7 g f m r'' ([], trashL n k true, (0, 0))) := HT6.out.next hT7 hK7 hN7
        clear hT7 hK7 hN7 HT6 CBx
        obtain ⟨N, hNN⟩ : ∃ N, nodesP [] (trashL n k true) = N := ⟨_, rfl⟩
        have HNN : Hid (nodesP [] (trashL n k true) = N) := hNN
        obtain ⟨r, hr⟩ : ∃ r, r = r'' := ⟨_, rfl⟩
        rw [← hr] at HT7
        have CG : Hid (∀ id W, TreeIn W g f m r ([], trashL n k true, (0, 0)) → _) := fun id W hW => get_any g f m r ([], trashL n k true, (0, 0)) id W hW (by have := trash_len n k true; simp only [List.length_nil]; omega)
        simp only [hNN] at CG
        have HTz := HT7
        clear HT7 hr hNN
        go_wp2_with fail
        go_loopw [12] (fun i wr => ∃ j : Nat, j ≤ n ∧ i = .int .i64 ((j : Int) + 1) ∧ Hid (Tr w wr g f m r ([], trashL n k true, (0, 0)))) (fun i _ => 14 - (intOf i).toNat)
        case atStart => exact ⟨0, by omega, rfl, HTz⟩
        case round =>
          clear HTz
          obtain ⟨j, hjn, rfl, HT⟩ := hrel
          by_cases hlt : j < n
          · have b0 : (j : Int) + 1 ≤ (n : Int) := by omega
            obtain ⟨⟨q1, q2⟩, hq⟩ : ∃ q : Int × Int, (if k ≤ j + 1 ∧ true = false then ((0, 1) : Int × Int) else (0, 0)) = q := ⟨_, rfl⟩
            have HU0 : Hid (upW N (n + 1) ((j : Int) + 1, 1) = some (q1, q2)) := by
              have h := ta_up n k (j + 1) true (by omega) (by omega) (by omega) (by omega) (by omega)
              rw [hq] at h
              rw [← HNN.out]
              exact h
            have HQ : Hid ((if k ≤ j + 1 ∧ true = false then ((0, 1) : Int × Int) else (0, 0)) = (q1, q2)) := hq
            clear hq
            go_wp2_with fail
            refine (CA.out _ _ _).mono ?_
            rintro e w5 ⟨rfl, hb5⟩
            go_wp2_with fail
            obtain ⟨W1, hW1⟩ : ∃ W1, w5.alloc (.cells #[.int .i64 ((j : Int) + 1), .int .i64 1] 23) = W1 := ⟨_, rfl⟩
            obtain ⟨hp, hhp⟩ : ∃ hp, w5.heap.size = hp := ⟨_, rfl⟩
            have HT1 : Hid (Tr w W1 g f m r ([], trashL n k true, (0, 0))) := by show Tr _ _ _ _ _ _ _; rw [← hW1]; exact (HT.out.on hb5).on (below_new _ _)
            have HK1 : Hid (Blk W1 23 hp #[.int .i64 ((j : Int) + 1), .int .i64 1]) := by show Blk _ _ _ _; rw [← hW1, ← hhp]; exact Blk.new _ _ _
            have HP : Hid (∀ k, tfoot g f m r k → k < hp) := fun k hk => by rw [← hhp]; exact (HT.out.on hb5).tree.lt hk
            have HW : Hid (w.heap.size ≤ hp) := by show _ ≤ _; rw [← hhp]; exact (HT.out.on hb5).bel.size
            rw [hW1, hhp]
            clear hW1 hhp hb5 HT
            go_loopw [14] (fun i wr => ∃ (t : Nat) (p1 p2 : Int), t ≤ n + 1 ∧ i = .int .i64 t ∧ Hid (upW N (n + 1 - t) (p1, p2) = some (q1, q2)) ∧ Hid (Blk wr 23 hp #[.int .i64 p1, .int .i64 p2]) ∧ Hid (Tr w wr g f m r ([], trashL n k true, (0, 0)))) (fun i _ => n + 1 - (intOf i).toNat)
            case atStart => exact ⟨0, (j : Int) + 1, 1, by omega, rfl, HU0, HK1, HT1⟩
            case round =>
              clear HU0 HK1 HT1
              obtain ⟨t, p1, p2, ht, rfl, HU, HK, HT⟩ := hrel
              have c0 : wr.cell? ⟨hp, 0, none⟩ = some (.int .i64 p1) := HK.out.cell 0
              have c1 : wr.cell? ⟨hp, 1, none⟩ = some (.int .i64 p2) := HK.out.cell 1
              by_cases hgo : t ≤ n ∧ 0 < p1
              · obtain ⟨htn, hp0⟩ := hgo
                have b1 : (t : Int) ≤ (n : Int) := by omega
                have hu := HU.out
                rw [show n + 1 - t = (n - t) + 1 by omega] at hu
                obtain ⟨x, hlk, hx⟩ := upW_on (show ¬ ((p1, p2) : Int × Int).1 ≤ 0 by show ¬ p1 ≤ 0; omega) hu
                have CGx : Hid (Calls _ _ _ _ _) := CG.out (p1, p2) wr HT.out.tree
                rw [hlk] at CGx
                obtain ⟨⟨y1, y2⟩, ⟨y3, y4⟩, y5, y6⟩ := x
                simp only [stampV, Option.getD_some, Option.isSome_some, nodeV, nodeA] at CGx
                have HU' : Hid (upW N (n + 1 - (t + 1)) (y3, y4) = some (q1, q2)) := by show _ = _; rw [show n + 1 - (t + 1) = n - t by omega]; exact hx
                clear hlk hu hx HU
                go_wp2_with fail
                refine CGx.out.mono ?_
                rintro e w6 ⟨rfl, hT6, hK6⟩
                have HT6 := HT.out.next hT6 hK6 (Nx.refl _ _)
                have K6 := HK.out.keptF hK6 (fun h => by have := HP.out _ h; omega)
                have X1 : Blk (w6.alloc (.cells #[.int .i64 y1, .int .i64 y2, .int .i64 y3, .int .i64 y4, .string y5, .string y6] 34)) 23 hp #[.int .i64 p1, .int .i64 p2] := K6.on (below_new _ _)
                have HT7 : Hid (Tr w (w6.alloc (.cells #[.int .i64 y1, .int .i64 y2, .int .i64 y3, .int .i64 y4, .string y5, .string y6] 34)) g f m r ([], trashL n k true, (0, 0))) := HT6.on (below_new _ _)
                clear CGx hT6 hK6 HT6 K6 HK HT c0 c1
                go_wp2_with (with_reducible refine wpList_storeBlkH rfl 23 _ _ rfl hp #[.int .i64 p1, .int .i64 p2] #[.int .i64 y3, .int .i64 y4] ?hxNtrue ?hyNtrue X1 rfl ?hiNtrue ?h1Ntrue ?_)
                try (case hxNtrue => rfl)
                try (case hyNtrue => rfl)
                try (case hiNtrue => first | kernel_rfl | (refine Option.map_eq_some_iff.1 (?_ : (Tryd.prog.info? 23).map (·.size) = some 2); kernel_rfl))
                try (case h1Ntrue => simp [Value.oneCell'])
                unfold Hid
                have HK8 := X1.setRow #[.int .i64 y3, .int .i64 y4]
                have HT8 := HT7.out.set hp HW.out HP.out #[.int .i64 y3, .int .i64 y4]
                clear X1 HT7
                go_wp2_with fail
                refine ⟨?_, ?_⟩
                · first
                  | exact ⟨t + 1, y3, y4, by omega, by go_num, HU', HK8, HT8⟩
                  | ((repeat apply Exists.intro); refine ⟨?_, rfl⟩; exact ⟨t + 1, y3, y4, by omega, by go_num, HU', HK8, HT8⟩)
                · simp [intOf] <;> omega
              · have hend : (p1, p2) = (q1, q2) := by
                  have hu := HU.out
                  by_cases h0 : p1 ≤ 0
                  · rw [upW_end N _ (p1, p2) h0] at hu; exact Option.some.inj hu
                  · have : n + 1 - t = 0 := by omega
                    rw [this] at hu; exact Option.some.inj hu
                obtain ⟨hq1, hq2⟩ : q1 = p1 ∧ q2 = p2 := ⟨(congrArg Prod.fst hend).symm, (congrArg Prod.snd hend).symm⟩
                rw [hq1, hq2] at HQ
                clear hend hq1 hq2
                have d0 : ∀ o, (wr.alloc o).cell? ⟨hp, 0, none⟩ = some (.int .i64 p1) := fun o => (HK.out.on (below_new wr o)).cell 0
                have d1 : ∀ o, (wr.alloc o).cell? ⟨hp, 1, none⟩ = some (.int .i64 p2) := fun o => (HK.out.on (below_new wr o)).cell 1
                have HTn : Hid (∀ o, Tr w (wr.alloc o) g f m r ([], trashL n k true, (0, 0))) := fun o => HT.out.on (below_new wr o)
                have hgo' : t ≤ n → ¬ 0 < p1 := fun a b => hgo ⟨a, b⟩
                clear HU HK HT hgo
                by_cases hkj : k ≤ j + 1
                · have b2 : (k : Int) ≤ (j : Int) + 1 := by omega
                  obtain ⟨rfl, rfl⟩ : p1 = 0 ∧ p2 = 0 := by
                    have h := HQ.out
                    rw [if_neg (fun hh => by cases hh.2)] at h
                    exact ⟨(congrArg Prod.fst h).symm, (congrArg Prod.snd h).symm⟩
                  have hE := fun W => stampEq_is (0, 0) (0, 0) true (decide_eq_true rfl) W
                  clear hgo'
                  by_cases htn : t ≤ n
                  · have b1 : (t : Int) ≤ (n : Int) := by omega
                    go_wp2_with fail
                    refine ⟨?_, ?_⟩
                    · first
                      | exact ⟨j + 1, by omega, by go_num, HTn.out _⟩
                      | ((repeat apply Exists.intro); refine ⟨?_, rfl⟩; exact ⟨j + 1, by omega, by go_num, HTn.out _⟩)
                    · simp [intOf] <;> omega
                  · have b1 : ¬ ((t : Int) ≤ (n : Int)) := by omega
                    go_wp2_with fail
                    refine ⟨?_, ?_⟩
                    · first
                      | exact ⟨j + 1, by omega, by go_num, HTn.out _⟩
                      | ((repeat apply Exists.intro); refine ⟨?_, rfl⟩; exact ⟨j + 1, by omega, by go_num, HTn.out _⟩)
                    · simp [intOf] <;> omega
                · have b2 : ¬ ((k : Int) ≤ (j : Int) + 1) := by omega
                  obtain ⟨rfl, rfl⟩ : p1 = 0 ∧ p2 = 0 := by
                    have h := HQ.out
                    rw [if_neg (fun hh => hkj hh.1)] at h
                    exact ⟨(congrArg Prod.fst h).symm, (congrArg Prod.snd h).symm⟩
                  have hE := fun W => stampEq_is (0, 0) (0, 0) true (decide_eq_true rfl) W
                  clear hgo'
                  by_cases htn : t ≤ n
                  · have b1 : (t : Int) ≤ (n : Int) := by omega
                    go_wp2_with fail
                    refine ⟨?_, ?_⟩
                    · first
                      | exact ⟨j + 1, by omega, by go_num, HTn.out _⟩
                      | ((repeat apply Exists.intro); refine ⟨?_, rfl⟩; exact ⟨j + 1, by omega, by go_num, HTn.out _⟩)
                    · simp [intOf] <;> omega
                  · have b1 : ¬ ((t : Int) ≤ (n : Int)) := by omega
                    go_wp2_with fail
                    refine ⟨?_, ?_⟩
                    · first
                      | exact ⟨j + 1, by omega, by go_num, HTn.out _⟩
                      | ((repeat apply Exists.intro); refine ⟨?_, rfl⟩; exact ⟨j + 1, by omega, by go_num, HTn.out _⟩)
                    · simp [intOf] <;> omega
          · obtain rfl : j = n := by omega
            have b0 : ¬ ((j : Int) + 1 ≤ (j : Int)) := by omega
            have HB : Hid (Below w.heap.size w wr) := HT.out.bel
            have CWx : Hid (Calls _ _ _ _ _) := CW.out wr HB.out
            clear HT CW
            go_wp2_with fail
            refine CWx.out.mono ?_
            rintro e w5 ⟨rfl, hb5⟩
            have hB5 := below_step HB.out (Nat.le_refl _) hb5
            clear CWx hb5 HB
            go_wp2_with fail
            go_ret
            exact ⟨rfl, hB5⟩
end Go.Proofs.YtmfckdhincffkabDoor
