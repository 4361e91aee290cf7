import Derived.Test.YtfbgofbjbfidoaaDoorShaRead
namespace Go.Proofs.YtfbgofbjbfidoaaDoor
open Go.RowKit
set_option linter.unusedSimpArgs false

theorem u32_wrap (n : Int) : IntKind.u32.wrap n = n % 4294967296 := IntKind.wrap_u32' n
theorem spread_bits (a b n m X : Nat) (ha : a < 4294967296) (hb : b < 4294967296) (hX : X < 4294967296) (hm : n = a ^^^ b ^^^ (X / m)) :
    bits .xor .u32 (bits .xor .u32 (a : Int) (b : Int)) ((X : Int) / (m : Int)) = (n : Int) := by
  have h1 := xor_lt32 a b ha hb
  have h2 : X / m < 4294967296 := Nat.lt_of_le_of_lt (Nat.div_le_self _ _) hX
  rw [u32_xor_nat a b ha hb, show ((X : Int) / (m : Int)) = ((X / m : Nat) : Int) by simp, u32_xor_nat (a ^^^ b) (X / m) h1 h2, hm]
theorem spread_val (X0 X1 X9 X14 : Nat) (l1 : X1 < 4294967296) (l14 : X14 < 4294967296) :
    IntKind.u32.wrap (IntKind.u32.wrap (IntKind.u32.wrap ((X0 : Int) + bits .xor .u32 (bits .xor .u32 ((rr X1 7 : Nat) : Int) ((rr X1 18 : Nat) : Int)) ((X1 : Int) / 8)) + (X9 : Int)) + bits .xor .u32 (bits .xor .u32 ((rr X14 17 : Nat) : Int) ((rr X14 19 : Nat) : Int)) ((X14 : Int) / 1024)) = ((nx X0 X1 X9 X14 : Nat) : Int) := by
  have e1 := spread_bits (rr X1 7) (rr X1 18) (sg0 X1) 8 X1 (rr_lt _ _ l1) (rr_lt _ _ l1) l1 rfl
  have e2 := spread_bits (rr X14 17) (rr X14 19) (sg1 X14) 1024 X14 (rr_lt _ _ l14) (rr_lt _ _ l14) l14 rfl
  have h1 := sg0_lt X1 l1
  have h2 := sg1_lt X14 l14
  rw [show ((8 : Nat) : Int) = 8 from rfl] at e1
  rw [show ((1024 : Nat) : Int) = 1024 from rfl] at e2
  rw [e1, e2]
  unfold nx
  generalize sg0 X1 = A at *
  generalize sg1 X14 = B at *
  simp only [u32_wrap]
  omega

set_option maxRecDepth 100000 in
set_option maxHeartbeats 8000000 in
theorem spread_any (b : ByteArray) (W : Nat → Nat) (w : World) (hs : b.size = 64) (hW : Spread W (bt b)) :
    Calls Tryd.prog 41 #[.string b] w fun e w' => e = .returned (.agg (vals (tabN 64 W))) ∧ Below w.heap.size w w' := by
  have HL : Hid (∀ i, W i < 4294967296) := hW.1
  have HN : Hid (∀ k, k < 48 → W (k + 16) = _) := hW.2.1
  have HF : Hid (wordsL b bsh = wT W 16) := by show _ = _; rw [wordsN_ints, wordsN_blk b hs]; exact wT_first _ _ _ (blkN_length _) hW.2.2
  clear hW
  go_enter Tryd.func41, Tryd.ntmps41
  go_wp2_with fail
  refine (big_even b _ (by omega) (by omega)).mono ?_
  rintro e w1 ⟨rfl, ho1, hb1⟩
  have hsz : b.size / 4 = 16 := by omega
  rw [HF.out, hsz] at ho1
  have a0 := ((Arr.new w 66 (tabN 64 (cutN W 0)) _ (by kernel_rfl)).alloc _).below hb1 (by simp; omega)
  have a1 := (Arr.new' _ 66 (tabN 64 (cutN W 0)) _ (w.heap.size + 1) (by simp) (by kernel_rfl)).below hb1 (by simp)
  have hB : Below w.heap.size w w1 := ((below_new w _).alloc (by simp) _).trans (hb1.mono (by simp; omega))
  have hI := ho1.ints
  have HA0 : Hid (Arr w1 66 w.heap.size _) := a0
  have HA1 : Hid (Arr w1 66 (w.heap.size + 1) _) := a1
  clear ho1 hb1 a1 a0
  simp only [World.size_alloc] at hI
  have HI : Hid (IntsAt w1 _ _ _ _) := hI
  clear hI
  go_wp2_with fail
  go_loopw [17] (fun i wr => ∃ k : Nat, k ≤ 16 ∧ i = .int .i64 k ∧ Hid (Arr wr 66 w.heap.size (tabN 64 (cutN W 0))) ∧ Hid (Arr wr 66 (w.heap.size + 1) (tabN 64 (cutN W k))) ∧ Hid (IntsAt wr .i64 (some ⟨w.heap.size + 1 + 1, 0, none⟩) 16 (wT W 16)) ∧ Below w.heap.size w wr) (fun i _ => 16 - (intOf i).toNat)
  case atStart => exact ⟨0, Nat.zero_le _, rfl, HA0, HA1, HI, hB⟩
  case round =>
    clear HA0 HA1 HI hB
    obtain ⟨k, hk, rfl, HA0, HA1, HI, hbl⟩ := hrel
    by_cases hlt : k < 16
    · obtain ⟨X, hX⟩ : ∃ x, x = W k := ⟨_, rfl⟩
      have lX : X < 4294967296 := by rw [hX]; exact HL.out k
      have c0 := HI.out.cellAt k hlt
      rw [wT_getD _ _ _ hlt, ← hX] at c0
      have c1 := HA1.out.cell k (by rw [tabN_length]; omega)
      have hf := HA1.out.free k
      have HO := HA1.out.set k X
      rw [hX, cutN_set, ← hX] at HO
      have HA0' : Hid (Arr _ 66 w.heap.size _) := HA0.out.other ⟨w.heap.size + 1, k, none⟩ (by simp) (Value.int .u32 (X : Int))
      have HI' : Hid (IntsAt _ .i64 (some ⟨w.heap.size + 1 + 1, 0, none⟩) 16 (wT W 16)) := HI.out.other ⟨w.heap.size + 1, k, none⟩ (by simp) (Value.int .u32 (X : Int))
      have HO' : Hid (Arr _ 66 (w.heap.size + 1) _) := HO
      have HBl := hbl.setCell (p := ⟨w.heap.size + 1, k, none⟩) (by simp) (Value.int .u32 (X : Int))
      have b0 : (k : Int) < 16 := by omega
      have b1 : (k : Int) < 64 := by omega
      clear hX HO HA0 HA1 HI
      go_wp2
      go_roundw
      case rel => exact ⟨k + 1, by omega, by go_num, HA0', HO', HI', HBl⟩
      case measure => simp [intOf]; omega
    · have hk' : k = 16 := by omega
      subst hk'
      clear HI
      obtain ⟨w5, h5⟩ : ∃ w5, w5 = wr := ⟨_, rfl⟩
      rw [← h5] at HA0 HA1 hbl ⊢
      clear h5 hk hlt
      go_wp2_with fail
      go_loopw [28] (fun i wr => ∃ k : Nat, k ≤ 48 ∧ i = .int .i64 k ∧ Hid (Arr wr 66 w.heap.size (tabN 64 (cutN W 0))) ∧ Hid (Arr wr 66 (w.heap.size + 1) (tabN 64 (cutN W (k + 16)))) ∧ Below w.heap.size w wr) (fun i _ => 48 - (intOf i).toNat)
      case atStart => exact ⟨0, Nat.zero_le _, rfl, HA0, HA1, hbl⟩
      case round =>
        clear HA0 HA1 hbl
        obtain ⟨k, hk, rfl, HA0, HA1, hbl⟩ := hrel
        by_cases hlt : k < 48
        · obtain ⟨p1, hp1⟩ : ∃ p, p = k + 1 := ⟨_, rfl⟩
          obtain ⟨p9, hp9⟩ : ∃ p, p = k + 9 := ⟨_, rfl⟩
          obtain ⟨p14, hp14⟩ : ∃ p, p = k + 14 := ⟨_, rfl⟩
          obtain ⟨p16, hp16⟩ : ∃ p, p = k + 16 := ⟨_, rfl⟩
          obtain ⟨X0, hX0⟩ : ∃ x, x = W k := ⟨_, rfl⟩
          obtain ⟨X1, hX1⟩ : ∃ x, x = W p1 := ⟨_, rfl⟩
          obtain ⟨X9, hX9⟩ : ∃ x, x = W p9 := ⟨_, rfl⟩
          obtain ⟨X14, hX14⟩ : ∃ x, x = W p14 := ⟨_, rfl⟩
          have gt : ∀ j, j < k + 16 → (tabN 64 (cutN W (k + 16))).getD j 0 = W j := fun j hj => by
            rw [tabN_getD _ _ _ (by omega)]; unfold cutN; rw [if_pos hj]
          have c0 := HA1.out.cell k (by rw [tabN_length]; omega)
          have c1 := HA1.out.cell p1 (by rw [tabN_length]; omega)
          have c9 := HA1.out.cell p9 (by rw [tabN_length]; omega)
          have c14 := HA1.out.cell p14 (by rw [tabN_length]; omega)
          have c16 := HA1.out.cell p16 (by rw [tabN_length]; omega)
          rw [gt k (by omega), ← hX0] at c0
          rw [gt p1 (by omega), ← hX1] at c1
          rw [gt p9 (by omega), ← hX9] at c9
          rw [gt p14 (by omega), ← hX14] at c14
          obtain ⟨V, hV⟩ : ∃ v, v = (tabN 64 (cutN W (k + 16))).getD p16 0 := ⟨_, rfl⟩
          rw [← hV] at c16
          clear hV
          have f16 := HA1.out.free p16
          have l1 : X1 < 4294967296 := by rw [hX1]; exact HL.out _
          have l14 : X14 < 4294967296 := by rw [hX14]; exact HL.out _
          obtain ⟨N, hN⟩ : ∃ n, n = nx X0 X1 X9 X14 := ⟨_, rfl⟩
          have hN' : W p16 = N := by rw [hN, hp16, HN.out k hlt, hX0, hX1, hX9, hX14, hp1, hp9, hp14]
          have HO := HA1.out.set p16 N
          rw [← hN', hp16, cutN_set, ← hp16, hN'] at HO
          have s0 := HO.cell k (by rw [tabN_length]; omega)
          have s9 := HO.cell p9 (by rw [tabN_length]; omega)
          rw [tabN_getD _ _ _ (by omega), show cutN W (p16 + 1) k = X0 by unfold cutN; rw [if_pos (by omega), hX0]] at s0
          rw [tabN_getD _ _ _ (by omega), show cutN W (p16 + 1) p9 = X9 by unfold cutN; rw [if_pos (by omega), hX9]] at s9
          have HO' : Hid (Arr (wr.setCell ⟨w.heap.size + 1, p16, none⟩ (.int .u32 (N : Int))) 66 (w.heap.size + 1) (tabN 64 (cutN W (k + 1 + 16)))) := by show Arr _ _ _ _; rw [show k + 1 + 16 = p16 + 1 by omega]; exact HO
          have HA0' : Hid (Arr _ 66 w.heap.size _) := HA0.out.other ⟨w.heap.size + 1, p16, none⟩ (by simp) (Value.int .u32 (N : Int))
          have HBl := hbl.setCell (p := ⟨w.heap.size + 1, p16, none⟩) (by simp) (Value.int .u32 (N : Int))
          have SS : Hid (_ ∧ _) := ⟨s0, s9⟩
          have NX : Hid (N = nx X0 X1 X9 X14) := hN
          have q1 : IntKind.i64.wrap ((k : Int) + 1) = (p1 : Int) := by rw [i64_small _ (by omega) (by omega)]; omega
          have q9 : IntKind.i64.wrap ((k : Int) + 9) = (p9 : Int) := by rw [i64_small _ (by omega) (by omega)]; omega
          have q14 : IntKind.i64.wrap ((k : Int) + 14) = (p14 : Int) := by rw [i64_small _ (by omega) (by omega)]; omega
          have q16 : IntKind.i64.wrap ((k : Int) + 16) = (p16 : Int) := by rw [i64_small _ (by omega) (by omega)]; omega
          have b0 : (k : Int) < 64 := by omega
          have b1 : (p1 : Int) < 64 := by omega
          have b9 : (p9 : Int) < 64 := by omega
          have b14 : (p14 : Int) < 64 := by omega
          have b16 : (p16 : Int) < 64 := by omega
          have C7 : Hid (∀ w, Calls Tryd.prog 42 #[.int .u32 X1, .int .i64 7] w _) := fun w => right_any X1 7 l1 (by decide) (by decide) w
          have C18 : Hid (∀ w, Calls Tryd.prog 42 #[.int .u32 X1, .int .i64 18] w _) := fun w => right_any X1 18 l1 (by decide) (by decide) w
          have C17 : Hid (∀ w, Calls Tryd.prog 42 #[.int .u32 X14, .int .i64 17] w _) := fun w => right_any X14 17 l14 (by decide) (by decide) w
          have C19 : Hid (∀ w, Calls Tryd.prog 42 #[.int .u32 X14, .int .i64 19] w _) := fun w => right_any X14 19 l14 (by decide) (by decide) w
          clear HO s0 s9 hN hN' hX0 hX1 hX9 hX14 gt hp1 hp9 hp14 hp16 HA0 HA1
          go_wp2
          go_quiet (fail)
          go_wp2_with fail
          clear c1 c14 b1 b14 q1 q14
          generalize hq : World.drewN wr _ = wq
          have d0 : wq.cell? ⟨w.heap.size + 1, k, none⟩ = some (.int .u32 (X0 : Int)) := by rw [← hq]; exact c0
          have d9 : wq.cell? ⟨w.heap.size + 1, p9, none⟩ = some (.int .u32 (X9 : Int)) := by rw [← hq]; exact c9
          have d16 : wq.cell? ⟨w.heap.size + 1, p16, none⟩ = some (.int .u32 (V : Int)) := by rw [← hq]; exact c16
          have df : wq.frozen? ⟨w.heap.size + 1, p16, none⟩ = false := by rw [← hq]; exact f16
          have SS' : Hid ((wq.setCell ⟨w.heap.size + 1, p16, none⟩ (.int .u32 (N : Int))).cell? ⟨w.heap.size + 1, k, none⟩ = some (.int .u32 (X0 : Int)) ∧ (wq.setCell ⟨w.heap.size + 1, p16, none⟩ (.int .u32 (N : Int))).cell? ⟨w.heap.size + 1, p9, none⟩ = some (.int .u32 (X9 : Int))) := by rw [← hq]; exact SS.out
          have HO2 : Hid (Arr (wq.setCell ⟨w.heap.size + 1, p16, none⟩ (.int .u32 (N : Int))) 66 (w.heap.size + 1) (tabN 64 (cutN W (k + 1 + 16)))) := by rw [← hq]; exact HO'.out
          have HA2 : Hid (Arr (wq.setCell ⟨w.heap.size + 1, p16, none⟩ (.int .u32 (N : Int))) 66 w.heap.size (tabN 64 (cutN W 0))) := by rw [← hq]; exact HA0'.out
          have HB2 : Hid (Below w.heap.size w (wq.setCell ⟨w.heap.size + 1, p16, none⟩ (.int .u32 (N : Int)))) := by rw [← hq]; exact below_drewN HBl _
          clear hq c0 c9 c16 f16 SS HO' HA0' HBl hbl
          refine wp_region_noPanic ?_
          refine wp_region_held_drew (S := fun w' => w'.cell? ⟨w.heap.size + 1, k, none⟩ = some (.int .u32 (X0 : Int)) ∧ w'.cell? ⟨w.heap.size + 1, p9, none⟩ = some (.int .u32 (X9 : Int))) (by kernel_rfl) (by first | exact trivial | assumption | exact ⟨by assumption, by assumption⟩) (fun hHeld => ?_)
          refine take_at (i := 0) (v := ?_) rfl rfl (by kernel_rfl) (by kernel_rfl) (by kernel_rfl) (fun _ _ _ h => h) (Or.inl ⟨by rfl, ?_⟩) (by assumption) ?_
          rotate_left
          · intro w hSw; (try dsimp only at hSw); go_simp; try with_reducible rfl
          try simp only [Act.put, List.setIfInBounds_toArray, List.set_cons_zero, List.set_cons_succ]
          refine take_at (i := 1) (v := ?_) rfl rfl (by kernel_rfl) (by kernel_rfl) (by kernel_rfl) (fun _ _ _ h => h) (Or.inl ⟨by rfl, ?_⟩) (by assumption) ?_
          rotate_left
          · intro w hSw; (try dsimp only at hSw); go_simp; try with_reducible rfl
          try simp only [Act.put, List.setIfInBounds_toArray, List.set_cons_zero, List.set_cons_succ]
          refine take_at (i := 2) (v := ?_) rfl rfl (by kernel_rfl) (by kernel_rfl) (by kernel_rfl) (fun _ _ _ h => h) (Or.inl ⟨by rfl, ?_⟩) (by assumption) ?_
          rotate_left
          · intro w hSw; (try dsimp only at hSw); go_simp; try with_reducible rfl
          try simp only [Act.put, List.setIfInBounds_toArray, List.set_cons_zero, List.set_cons_succ]
          refine take_at (i := 3) (v := ?_) rfl rfl (by kernel_rfl) (by kernel_rfl) (by kernel_rfl) (fun _ _ _ h => h) (Or.inl ⟨by rfl, ?_⟩) (by assumption) ?_
          rotate_left
          · intro w hSw; (try dsimp only at hSw); go_simp; try with_reducible rfl
          try simp only [Act.put, List.setIfInBounds_toArray, List.set_cons_zero, List.set_cons_succ]
          refine take_at (i := 4) (v := ?_) rfl rfl (by kernel_rfl) (by kernel_rfl) (by kernel_rfl) (fun _ _ _ h => h) (Or.inl ⟨by rfl, ?_⟩) (by assumption) ?_
          rotate_left
          · intro w hSw; (try dsimp only at hSw); go_simp; try with_reducible rfl
          try simp only [Act.put, List.setIfInBounds_toArray, List.set_cons_zero, List.set_cons_succ]
          refine take_at (i := 5) (v := ?_) rfl rfl (by kernel_rfl) (by kernel_rfl) (by kernel_rfl) (fun _ _ _ h => h) (Or.inl ⟨by rfl, ?_⟩) (by assumption) ?_
          rotate_left
          · intro w hSw; (try dsimp only at hSw); go_simp; try with_reducible rfl
          try simp only [Act.put, List.setIfInBounds_toArray, List.set_cons_zero, List.set_cons_succ]
          refine take_at (i := 7) (v := ?_) rfl rfl (by kernel_rfl) (by kernel_rfl) (by kernel_rfl) (fun _ _ _ h => h) (Or.inl ⟨by rfl, ?_⟩) (by assumption) ?_
          rotate_left
          · intro w hSw; (try dsimp only at hSw); go_simp; try with_reducible rfl
          try simp only [Act.put, List.setIfInBounds_toArray, List.set_cons_zero, List.set_cons_succ]
          refine take_at (i := 10) (v := ?_) rfl rfl (by kernel_rfl) (by kernel_rfl) (by kernel_rfl) (fun _ _ _ h => h) (Or.inl ⟨by rfl, ?_⟩) (by assumption) ?_
          rotate_left
          · intro w hSw; (try dsimp only at hSw); go_simp; try with_reducible rfl
          try simp only [Act.put, List.setIfInBounds_toArray, List.set_cons_zero, List.set_cons_succ]
          refine take_at (i := 11) (v := ?_) rfl rfl (by kernel_rfl) (by kernel_rfl) (by kernel_rfl) (fun _ _ _ h => h) (Or.inl ⟨by rfl, ?_⟩) (by assumption) ?_
          rotate_left
          · intro w hSw; (try dsimp only at hSw); go_simp; try with_reducible rfl
          try simp only [Act.put, List.setIfInBounds_toArray, List.set_cons_zero, List.set_cons_succ]
          refine take_at (i := 14) (v := ?_) rfl rfl (by kernel_rfl) (by kernel_rfl) (by kernel_rfl) (fun _ _ _ h => h) (Or.inl ⟨by rfl, ?_⟩) (by assumption) ?_
          rotate_left
          · intro w hSw; (try dsimp only at hSw); go_simp; try with_reducible rfl
          try simp only [Act.put, List.setIfInBounds_toArray, List.set_cons_zero, List.set_cons_succ]
          refine take_at (i := 15) (v := ?_) rfl rfl (by kernel_rfl) (by kernel_rfl) (by kernel_rfl) (fun _ _ _ h => h) (Or.inl ⟨by rfl, ?_⟩) (by assumption) ?_
          rotate_left
          · intro w hSw; (try dsimp only at hSw); go_simp; try with_reducible rfl
          try simp only [Act.put, List.setIfInBounds_toArray, List.set_cons_zero, List.set_cons_succ]
          refine take_at (i := 16) (v := ?_) rfl rfl (by kernel_rfl) (by kernel_rfl) (by kernel_rfl) (fun _ _ _ h => h) (Or.inl ⟨by rfl, ?_⟩) (by assumption) ?_
          rotate_left
          · intro w hSw; (try dsimp only at hSw); go_simp; try with_reducible rfl
          try simp only [Act.put, List.setIfInBounds_toArray, List.set_cons_zero, List.set_cons_succ]
          refine take_at (i := 17) (v := ?_) rfl rfl (by kernel_rfl) (by kernel_rfl) (by kernel_rfl) (fun _ _ _ h => h) (Or.inl ⟨by rfl, ?_⟩) (by assumption) ?_
          rotate_left
          · intro w hSw; (try dsimp only at hSw); go_simp; try with_reducible rfl
          try simp only [Act.put, List.setIfInBounds_toArray, List.set_cons_zero, List.set_cons_succ]
          refine take_at (i := 19) (v := ?_) rfl rfl (by kernel_rfl) (by kernel_rfl) (by kernel_rfl) (fun _ _ _ h => h) (Or.inl ⟨by rfl, ?_⟩) (by assumption) ?_
          rotate_left
          · intro w hSw; (try dsimp only at hSw); go_simp; try with_reducible rfl
          try simp only [Act.put, List.setIfInBounds_toArray, List.set_cons_zero, List.set_cons_succ]
          refine take_at (i := 21) (v := ?_) rfl rfl (by kernel_rfl) (by kernel_rfl) (by kernel_rfl) (fun _ _ _ h => h) (Or.inl ⟨by rfl, ?_⟩) (by assumption) ?_
          rotate_left
          · intro w hSw; (try dsimp only at hSw); go_simp; try with_reducible rfl
          try simp only [Act.put, List.setIfInBounds_toArray, List.set_cons_zero, List.set_cons_succ]
          refine take_at (i := 24) (v := ?_) rfl rfl (by kernel_rfl) (by kernel_rfl) (by kernel_rfl) (fun _ _ _ h => h) (Or.inl ⟨by rfl, ?_⟩) (by assumption) ?_
          rotate_left
          · intro w hSw; (try dsimp only at hSw); go_simp; try with_reducible rfl
          try simp only [Act.put, List.setIfInBounds_toArray, List.set_cons_zero, List.set_cons_succ]
          refine take_at (i := 25) (v := ?_) rfl rfl (by kernel_rfl) (by kernel_rfl) (by kernel_rfl) (fun _ _ _ h => h) (Or.inl ⟨by rfl, ?_⟩) (by assumption) ?_
          rotate_left
          · intro w hSw; (try dsimp only at hSw); go_simp; try with_reducible rfl
          try simp only [Act.put, List.setIfInBounds_toArray, List.set_cons_zero, List.set_cons_succ]
          refine wpAnyH_ready (rs := [6]) (by kernel_rfl) (by simp) ?_
          refine AllReadyH.cons rfl (fun K hK => ?_) AllReadyH.nil
          go_simp
          refine (C7.out _).mono ?_
          rintro e w' ⟨rfl, rfl⟩
          refine hK.out _ _ ⟨d0, d9⟩ (fun hHeld => ?_)
          clear hK K
          refine wpAnyH_ready (rs := [8]) (by kernel_rfl) (by simp) ?_
          refine AllReadyH.cons rfl (fun K hK => ?_) AllReadyH.nil
          go_simp
          refine (C18.out _).mono ?_
          rintro e w' ⟨rfl, rfl⟩
          refine hK.out _ _ ⟨d0, d9⟩ (fun hHeld => ?_)
          clear hK K
          refine take_at (i := 9) (v := ?_) rfl rfl (by kernel_rfl) (by kernel_rfl) (by kernel_rfl) (fun _ _ _ h => h) (Or.inl ⟨by rfl, ?_⟩) (by assumption) ?_
          rotate_left
          · intro w hSw; (try dsimp only at hSw); go_simp; try with_reducible rfl
          try simp only [Act.put, List.setIfInBounds_toArray, List.set_cons_zero, List.set_cons_succ]
          refine take_at (i := 12) (v := ?_) rfl rfl (by kernel_rfl) (by kernel_rfl) (by kernel_rfl) (fun _ _ _ h => h) (Or.inl ⟨by rfl, ?_⟩) (by assumption) ?_
          rotate_left
          · intro w hSw; (try dsimp only at hSw); go_simp; try with_reducible rfl
          try simp only [Act.put, List.setIfInBounds_toArray, List.set_cons_zero, List.set_cons_succ]
          refine take_at (i := 13) (v := ?_) rfl rfl (by kernel_rfl) (by kernel_rfl) (by kernel_rfl) (fun _ _ _ h => h) (Or.inl ⟨by rfl, ?_⟩) (by assumption) ?_
          rotate_left
          · intro w hSw; (try dsimp only at hSw); go_simp; try with_reducible rfl
          try simp only [Act.put, List.setIfInBounds_toArray, List.set_cons_zero, List.set_cons_succ]
          refine take_at (i := 18) (v := ?_) rfl rfl (by kernel_rfl) (by kernel_rfl) (by kernel_rfl) (fun _ _ _ h => h) (Or.inl ⟨by rfl, ?_⟩) (by assumption) ?_
          rotate_left
          · intro w hSw; (try dsimp only at hSw); go_simp; try with_reducible rfl
          try simp only [Act.put, List.setIfInBounds_toArray, List.set_cons_zero, List.set_cons_succ]
          refine wpAnyH_ready (rs := [20]) (by kernel_rfl) (by simp) ?_
          refine AllReadyH.cons rfl (fun K hK => ?_) AllReadyH.nil
          go_simp
          refine (C17.out _).mono ?_
          rintro e w' ⟨rfl, rfl⟩
          refine hK.out _ _ ⟨d0, d9⟩ (fun hHeld => ?_)
          clear hK K
          refine wpAnyH_ready (rs := [22]) (by kernel_rfl) (by simp) ?_
          refine AllReadyH.cons rfl (fun K hK => ?_) AllReadyH.nil
          go_simp
          refine (C19.out _).mono ?_
          rintro e w' ⟨rfl, rfl⟩
          refine hK.out _ _ ⟨d0, d9⟩ (fun hHeld => ?_)
          clear hK K
          refine take_at (i := 23) (v := ?_) rfl rfl (by kernel_rfl) (by kernel_rfl) (by kernel_rfl) (fun _ _ _ h => h) (Or.inl ⟨by rfl, ?_⟩) (by assumption) ?_
          rotate_left
          · intro w hSw; (try dsimp only at hSw); go_simp; try with_reducible rfl
          try simp only [Act.put, List.setIfInBounds_toArray, List.set_cons_zero, List.set_cons_succ]
          refine take_at (i := 26) (v := ?_) rfl rfl (by kernel_rfl) (by kernel_rfl) (by kernel_rfl) (fun _ _ _ h => h) (Or.inl ⟨by rfl, ?_⟩) (by assumption) ?_
          rotate_left
          · intro w hSw; (try dsimp only at hSw); go_simp; try with_reducible rfl
          try simp only [Act.put, List.setIfInBounds_toArray, List.set_cons_zero, List.set_cons_succ]
          refine take_at (i := 27) (v := ?_) rfl rfl (by kernel_rfl) (by kernel_rfl) (by kernel_rfl) (fun _ _ _ h => h) (Or.inl ⟨by rfl, ?_⟩) (by assumption) ?_
          rotate_left
          · intro w hSw; (try dsimp only at hSw); go_simp; try with_reducible rfl
          try simp only [Act.put, List.setIfInBounds_toArray, List.set_cons_zero, List.set_cons_succ]
          refine take_at (i := 28) (v := ?_) rfl rfl (by kernel_rfl) (by kernel_rfl) (by kernel_rfl) (fun _ _ _ h => h) (Or.inl ⟨by rfl, ?_⟩) (by assumption) ?_
          rotate_left
          · intro w hSw; (try dsimp only at hSw); go_simp; try with_reducible rfl
          try simp only [Act.put, List.setIfInBounds_toArray, List.set_cons_zero, List.set_cons_succ]
          refine wpAnyH_ready (rs := [29]) (by kernel_rfl) (by simp) ?_
          refine AllReadyH.cons rfl (fun K hK => ?_) AllReadyH.nil
          go_simp
          rw [spread_val X0 X1 X9 X14 l1 l14, ← NX.out]
          refine hK.out _ _ SS'.out (fun hHeld => ?_)
          clear hK K
          refine wpAnyH_done (by kernel_rfl) (NoPanic.normal ?_) _
          clear d0 d9 d16 df SS' C7 C18 C17 C19 NX
          go_wp2
          go_roundw
          case rel =>
            (repeat apply Exists.intro)
            refine ⟨?_, rfl⟩
            exact ⟨k + 1, by omega, by go_num, HA2, HO2, HB2.out.drew⟩
          case measure => simp [intOf]; omega
        · have hk' : k = 48 := by omega
          subst hk'
          have hA1 := HA1.out
          rw [cutN_all] at hA1
          have HA1' : Hid (Arr wr 66 (w.heap.size + 1) (tabN 64 W)) := hA1
          clear HA1 hA1
          go_wp2_with (first
            | (with_reducible refine wpList_loadArr rfl 66 _ rfl (w.heap.size + 1) (tabN 64 W) ?hx HA1'.out 64 39 Tryd.underlying66 ?hi ?_)
            | (with_reducible refine wpList_storeArr rfl 66 _ _ rfl w.heap.size (tabN 64 (cutN W 0)) (tabN 64 W) ?hx2 ?hy HA0.out ?hl ?hi2 ?_))
          case hx => rfl
          case hi => rw [tabN_length]; exact Tryd.arr64
          case hl => rw [tabN_length, tabN_length]
          case hi2 => rw [tabN_length]; exact Tryd.arr64
          exact bodyPost_arr rfl w.heap.size (tabN 64 W) rfl rfl (HA0.out.setRow (tabN 64 W)) 64 39 Tryd.underlying66 (by rw [tabN_length]; exact Tryd.arr64) ⟨rfl, below_setRow hbl (Nat.le_refl _) _⟩
end Go.Proofs.YtfbgofbjbfidoaaDoor
