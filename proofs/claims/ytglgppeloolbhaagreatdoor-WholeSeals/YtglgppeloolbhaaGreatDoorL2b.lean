import Derived.Test.YtglgppeloolbhaaGreatDoorG
import Derived.Test.YtglgppeloolbhaaGreatDoorL2a
import Derived.Laws.CopyOwn
namespace Go.Proofs.YtglgppeloolbhaaGreatDoor
open Go.RowKit
set_option maxRecDepth 100000
set_option linter.unusedSimpArgs false

theorem Tryz.arr8 : (Tryz.prog.info? 75).map (·.size) = some 8 := by kernel_rfl
theorem Tryz.arr64 : (Tryz.prog.info? 101).map (·.size) = some 64 := by kernel_rfl

set_option maxHeartbeats 2000000 in
theorem put_any (l : List Nat) (w : World) (hl : l.length = 8) (ho : Ok l) :
    Calls Tryz.prog 61 #[.agg (vals l)] w fun e w' => e = .returned (.string (ofN l)) ∧ Below w.heap.size w w' := by
  obtain ⟨i0, hi, hz0, hz1, hz2⟩ := info_parts Tryz.info3
  go_enter Tryz.func61, Tryz.ntmps61
  go_wp2_with (at_make; refine wpList_make_full _ rfl _ _ 47 rfl (w.heap.size + 1) 3 i0 (.int .i64 0) 1 Tryz.underlying47 hi hz0 hz1 _ _ _ _ 8 rfl rfl ?b4 ?b5 ?b1 ?b2 ?b3 ?_)
  case b1 => rw [hz2]; omega
  case b2 => unfold maxLen; omega
  case b3 => simp
  case b4 => omega
  case b5 => omega
  intro w1 hown0 hgrow
  have hown : Own w1 (w.heap.size + 1) 3 .i64 (w.heap.size + 1) 8 (tab 8 (upTo l 0)) := Own.made' _ (fun i _ => upTo_zero l i) hown0
  have hbl : Below (w.heap.size + 1) (w.alloc (.cells (vals l) 75)) w1 := (Below.refl _ _).grown hgrow (by simp) (fun k hk => by cases hk)
  have harr := (Arr.new w 75 l (vals l) rfl).below hbl (by omega)
  have HA : Hid (Arr w1 75 w.heap.size l) := harr
  have HB : Hid (Below w.heap.size w w1) := (below_new w _).trans (hbl.mono (by omega))
  have hg1 : w.heap.size + 1 ≤ w1.heap.size := by have := hbl.size; simp at this; exact this
  clear hown0 hgrow hi hz0 hz1 hz2 hbl harr
  go_wp2
  go_loopw [6] (fun i wr => ∃ k : Nat, k ≤ 8 ∧ i = .int .i64 k ∧ Own wr (w.heap.size + 1) 3 .i64 (w.heap.size + 1) 8 (tab 8 (upTo l k)) ∧ Below (w.heap.size + 1) w1 wr) (fun i _ => 8 - (intOf i).toNat)
  case atStart => exact ⟨0, Nat.zero_le _, rfl, hown, Below.refl _ _⟩
  case round =>
    clear hown
    obtain ⟨k, hk, rfl, hown, hbl⟩ := hrel
    by_cases hlt : k < 8
    · obtain ⟨X, hX⟩ : ∃ x, x = l.getD k 0 := ⟨_, rfl⟩
      have lX : X < 4294967296 := by rw [hX]; exact ho k
      have c0 := (HA.out.below hbl (by omega)).cell k (by omega)
      rw [← hX] at c0
      have hc := hown.cell k hlt
      rw [tab_getD _ _ _ hlt] at hc
      have hf := hown.free k
      have HO := hown.set k (X : Int)
      rw [upTo_set l 8 k X hX] at HO
      have HBl := hbl.setCell (p := ⟨w.heap.size + 1, k, none⟩) (Nat.le_refl _) (Value.int .i64 (X : Int))
      have b0 : (k : Int) < 8 := by omega
      clear hX
      go_wp2
      go_roundw
      case rel => exact ⟨k + 1, by omega, by go_num, HO, HBl⟩
      case measure => simp [intOf]; omega
    · have hk' : k = 8 := by omega
      subst hk'
      rw [upTo_all l 8 hl] at hown
      have HI : Hid (IntsAt wr .i64 (some ⟨w.heap.size + 1, 0, none⟩) 8 (ints l)) := hown.ints
      clear hown
      go_wp2_with fail
      refine (putBig_any _ 8 _ (ints l) _ (by omega) HI.out).mono ?_
      rintro e w6 ⟨rfl, hb6⟩
      go_wp2_with fail
      go_ret
      exact ⟨rfl, below_step (HB.out.trans (hbl.mono (by omega))) (Nat.le_refl _) hb6⟩
end Go.Proofs.YtglgppeloolbhaaGreatDoor

namespace Go.Proofs.YtglgppeloolbhaaGreatDoor
open Go.RowKit
set_option maxRecDepth 100000
set_option linter.unusedSimpArgs false

end Go.Proofs.YtglgppeloolbhaaGreatDoor

namespace Go.Proofs.YtglgppeloolbhaaGreatDoor
open Go.RowKit
set_option maxRecDepth 100000
set_option linter.unusedSimpArgs false

theorem spread_bits (a b n m X : Nat) (ha : a < 4294967296) (hb : b < 4294967296) (hX : X < 4294967296) (hm : n = a ^^^ b ^^^ (X / m)) :
    bits .xor .u32 (bits .xor .u32 (a : Int) (b : Int)) ((X : Int) / (m : Int)) = (n : Int) := by
  have h1 := xor_lt32 a b ha hb
  have h2 : X / m < 4294967296 := Nat.lt_of_le_of_lt (Nat.div_le_self _ _) hX
  rw [u32_xor_nat a b ha hb, show ((X : Int) / (m : Int)) = ((X / m : Nat) : Int) by simp, u32_xor_nat (a ^^^ b) (X / m) h1 h2, hm]
theorem spread_val (X0 X1 X9 X14 : Nat) (l1 : X1 < 4294967296) (l14 : X14 < 4294967296) :
    IntKind.u32.wrap (IntKind.u32.wrap (IntKind.u32.wrap ((X0 : Int) + bits .xor .u32 (bits .xor .u32 ((rr X1 7 : Nat) : Int) ((rr X1 18 : Nat) : Int)) ((X1 : Int) / 8)) + (X9 : Int)) + bits .xor .u32 (bits .xor .u32 ((rr X14 17 : Nat) : Int) ((rr X14 19 : Nat) : Int)) ((X14 : Int) / 1024)) = ((nx X0 X1 X9 X14 : Nat) : Int) := by
  have e1 := spread_bits (rr X1 7) (rr X1 18) (sg0 X1) 8 X1 (rr_lt _ _ l1) (rr_lt _ _ l1) l1 rfl
  have e2 := spread_bits (rr X14 17) (rr X14 19) (sg1 X14) 1024 X14 (rr_lt _ _ l14) (rr_lt _ _ l14) l14 rfl
  have h1 := sg0_lt X1 l1
  have h2 := sg1_lt X14 l14
  rw [show ((8 : Nat) : Int) = 8 from rfl] at e1
  rw [show ((1024 : Nat) : Int) = 1024 from rfl] at e2
  rw [e1, e2]
  unfold nx
  generalize sg0 X1 = A at *
  generalize sg1 X14 = B at *
  simp only [u32_wrap]
  omega

set_option maxRecDepth 100000 in
set_option maxHeartbeats 8000000 in
theorem spread_any (b : ByteArray) (W : Nat → Nat) (w : World) (hs : b.size = 64) (hW : Spread W (bt b)) :
    Calls Tryz.prog 93 #[.string b] w fun e w' => e = .returned (.agg (vals (tabN 64 W))) ∧ Below w.heap.size w w' := by
  have HL : Hid (∀ i, W i < 4294967296) := hW.1
  have HN : Hid (∀ k, k < 48 → W (k + 16) = _) := hW.2.1
  have HF : Hid (wordsL b bsh = wT W 16) := by show _ = _; rw [wordsN_ints, wordsN_blk b hs]; exact wT_first _ _ _ (blkN_length _) hW.2.2
  clear hW
  go_enter Tryz.func93, Tryz.ntmps93
  go_wp2_with fail
  refine (big_even b _ (by omega) (by omega)).mono ?_
  rintro e w1 ⟨rfl, ho1, hb1⟩
  have hsz : b.size / 4 = 16 := by omega
  rw [HF.out, hsz] at ho1
  have a0 := ((Arr.new w 101 (tabN 64 (cutN W 0)) _ (by kernel_rfl)).alloc _).below hb1 (by simp; omega)
  have a1 := (Arr.new' _ 101 (tabN 64 (cutN W 0)) _ (w.heap.size + 1) (by simp) (by kernel_rfl)).below hb1 (by simp)
  have hB : Below w.heap.size w w1 := ((below_new w _).alloc (by simp) _).trans (hb1.mono (by simp; omega))
  have hI := ho1.ints
  have HA0 : Hid (Arr w1 101 w.heap.size _) := a0
  have HA1 : Hid (Arr w1 101 (w.heap.size + 1) _) := a1
  clear ho1 hb1 a1 a0
  simp only [World.size_alloc] at hI
  have HI : Hid (IntsAt w1 _ _ _ _) := hI
  clear hI
  go_wp2_with fail
  go_loopw [17] (fun i wr => ∃ k : Nat, k ≤ 16 ∧ i = .int .i64 k ∧ Hid (Arr wr 101 w.heap.size (tabN 64 (cutN W 0))) ∧ Hid (Arr wr 101 (w.heap.size + 1) (tabN 64 (cutN W k))) ∧ Hid (IntsAt wr .i64 (some ⟨w.heap.size + 1 + 1, 0, none⟩) 16 (wT W 16)) ∧ Below w.heap.size w wr) (fun i _ => 16 - (intOf i).toNat)
  case atStart => exact ⟨0, Nat.zero_le _, rfl, HA0, HA1, HI, hB⟩
  case round =>
    clear HA0 HA1 HI hB
    obtain ⟨k, hk, rfl, HA0, HA1, HI, hbl⟩ := hrel
    by_cases hlt : k < 16
    · obtain ⟨X, hX⟩ : ∃ x, x = W k := ⟨_, rfl⟩
      have lX : X < 4294967296 := by rw [hX]; exact HL.out k
      have c0 := HI.out.cellAt k hlt
      rw [wT_getD _ _ _ hlt, ← hX] at c0
      have c1 := HA1.out.cell k (by rw [tabN_length]; omega)
      have hf := HA1.out.free k
      have HO := HA1.out.set k X
      rw [hX, cutN_set, ← hX] at HO
      have HA0' : Hid (Arr _ 101 w.heap.size _) := HA0.out.other ⟨w.heap.size + 1, k, none⟩ (by simp) (Value.int .u32 (X : Int))
      have HI' : Hid (IntsAt _ .i64 (some ⟨w.heap.size + 1 + 1, 0, none⟩) 16 (wT W 16)) := HI.out.other ⟨w.heap.size + 1, k, none⟩ (by simp) (Value.int .u32 (X : Int))
      have HO' : Hid (Arr _ 101 (w.heap.size + 1) _) := HO
      have HBl := hbl.setCell (p := ⟨w.heap.size + 1, k, none⟩) (by simp) (Value.int .u32 (X : Int))
      have b0 : (k : Int) < 16 := by omega
      have b1 : (k : Int) < 64 := by omega
      clear hX HO HA0 HA1 HI
      go_wp2
      go_roundw
      case rel => exact ⟨k + 1, by omega, by go_num, HA0', HO', HI', HBl⟩
      case measure => simp [intOf]; omega
    · have hk' : k = 16 := by omega
      subst hk'
      clear HI
      obtain ⟨w5, h5⟩ : ∃ w5, w5 = wr := ⟨_, rfl⟩
      rw [← h5] at HA0 HA1 hbl ⊢
      clear h5 hk hlt
      go_wp2_with fail
      go_loopw [28] (fun i wr => ∃ k : Nat, k ≤ 48 ∧ i = .int .i64 k ∧ Hid (Arr wr 101 w.heap.size (tabN 64 (cutN W 0))) ∧ Hid (Arr wr 101 (w.heap.size + 1) (tabN 64 (cutN W (k + 16)))) ∧ Below w.heap.size w wr) (fun i _ => 48 - (intOf i).toNat)
      case atStart => exact ⟨0, Nat.zero_le _, rfl, HA0, HA1, hbl⟩
      case round =>
        clear HA0 HA1 hbl
        obtain ⟨k, hk, rfl, HA0, HA1, hbl⟩ := hrel
        by_cases hlt : k < 48
        · obtain ⟨p1, hp1⟩ : ∃ p, p = k + 1 := ⟨_, rfl⟩
          obtain ⟨p9, hp9⟩ : ∃ p, p = k + 9 := ⟨_, rfl⟩
          obtain ⟨p14, hp14⟩ : ∃ p, p = k + 14 := ⟨_, rfl⟩
          obtain ⟨p16, hp16⟩ : ∃ p, p = k + 16 := ⟨_, rfl⟩
          obtain ⟨X0, hX0⟩ : ∃ x, x = W k := ⟨_, rfl⟩
          obtain ⟨X1, hX1⟩ : ∃ x, x = W p1 := ⟨_, rfl⟩
          obtain ⟨X9, hX9⟩ : ∃ x, x = W p9 := ⟨_, rfl⟩
          obtain ⟨X14, hX14⟩ : ∃ x, x = W p14 := ⟨_, rfl⟩
          have gt : ∀ j, j < k + 16 → (tabN 64 (cutN W (k + 16))).getD j 0 = W j := fun j hj => by
            rw [tabN_getD _ _ _ (by omega)]; unfold cutN; rw [if_pos hj]
          have c0 := HA1.out.cell k (by rw [tabN_length]; omega)
          have c1 := HA1.out.cell p1 (by rw [tabN_length]; omega)
          have c9 := HA1.out.cell p9 (by rw [tabN_length]; omega)
          have c14 := HA1.out.cell p14 (by rw [tabN_length]; omega)
          have c16 := HA1.out.cell p16 (by rw [tabN_length]; omega)
          rw [gt k (by omega), ← hX0] at c0
          rw [gt p1 (by omega), ← hX1] at c1
          rw [gt p9 (by omega), ← hX9] at c9
          rw [gt p14 (by omega), ← hX14] at c14
          obtain ⟨V, hV⟩ : ∃ v, v = (tabN 64 (cutN W (k + 16))).getD p16 0 := ⟨_, rfl⟩
          rw [← hV] at c16
          clear hV
          have f16 := HA1.out.free p16
          have l1 : X1 < 4294967296 := by rw [hX1]; exact HL.out _
          have l14 : X14 < 4294967296 := by rw [hX14]; exact HL.out _
          obtain ⟨N, hN⟩ : ∃ n, n = nx X0 X1 X9 X14 := ⟨_, rfl⟩
          have hN' : W p16 = N := by rw [hN, hp16, HN.out k hlt, hX0, hX1, hX9, hX14, hp1, hp9, hp14]
          have HO := HA1.out.set p16 N
          rw [← hN', hp16, cutN_set, ← hp16, hN'] at HO
          have s0 := HO.cell k (by rw [tabN_length]; omega)
          have s9 := HO.cell p9 (by rw [tabN_length]; omega)
          rw [tabN_getD _ _ _ (by omega), show cutN W (p16 + 1) k = X0 by unfold cutN; rw [if_pos (by omega), hX0]] at s0
          rw [tabN_getD _ _ _ (by omega), show cutN W (p16 + 1) p9 = X9 by unfold cutN; rw [if_pos (by omega), hX9]] at s9
          have HO' : Hid (Arr (wr.setCell ⟨w.heap.size + 1, p16, none⟩ (.int .u32 (N : Int))) 101 (w.heap.size + 1) (tabN 64 (cutN W (k + 1 + 16)))) := by show Arr _ _ _ _; rw [show k + 1 + 16 = p16 + 1 by omega]; exact HO
          have HA0' : Hid (Arr _ 101 w.heap.size _) := HA0.out.other ⟨w.heap.size + 1, p16, none⟩ (by simp) (Value.int .u32 (N : Int))
          have HBl := hbl.setCell (p := ⟨w.heap.size + 1, p16, none⟩) (by simp) (Value.int .u32 (N : Int))
          have SS : Hid (_ ∧ _) := ⟨s0, s9⟩
          have NX : Hid (N = nx X0 X1 X9 X14) := hN
          have q1 : IntKind.i64.wrap ((k : Int) + 1) = (p1 : Int) := by rw [i64_small _ (by omega) (by omega)]; omega
          have q9 : IntKind.i64.wrap ((k : Int) + 9) = (p9 : Int) := by rw [i64_small _ (by omega) (by omega)]; omega
          have q14 : IntKind.i64.wrap ((k : Int) + 14) = (p14 : Int) := by rw [i64_small _ (by omega) (by omega)]; omega
          have q16 : IntKind.i64.wrap ((k : Int) + 16) = (p16 : Int) := by rw [i64_small _ (by omega) (by omega)]; omega
          have b0 : (k : Int) < 64 := by omega
          have b1 : (p1 : Int) < 64 := by omega
          have b9 : (p9 : Int) < 64 := by omega
          have b14 : (p14 : Int) < 64 := by omega
          have b16 : (p16 : Int) < 64 := by omega
          have C7 : Hid (∀ w, Calls Tryz.prog 94 #[.int .u32 X1, .int .i64 7] w _) := fun w => right_any X1 7 l1 (by decide) (by decide) w
          have C18 : Hid (∀ w, Calls Tryz.prog 94 #[.int .u32 X1, .int .i64 18] w _) := fun w => right_any X1 18 l1 (by decide) (by decide) w
          have C17 : Hid (∀ w, Calls Tryz.prog 94 #[.int .u32 X14, .int .i64 17] w _) := fun w => right_any X14 17 l14 (by decide) (by decide) w
          have C19 : Hid (∀ w, Calls Tryz.prog 94 #[.int .u32 X14, .int .i64 19] w _) := fun w => right_any X14 19 l14 (by decide) (by decide) w
          clear HO s0 s9 hN hN' hX0 hX1 hX9 hX14 gt hp1 hp9 hp14 hp16 HA0 HA1
          go_wp2
          go_quiet (fail)
          go_wp2_with fail
          clear c1 c14 b1 b14 q1 q14
          generalize hq : World.drewN wr _ = wq
          have d0 : wq.cell? ⟨w.heap.size + 1, k, none⟩ = some (.int .u32 (X0 : Int)) := by rw [← hq]; exact c0
          have d9 : wq.cell? ⟨w.heap.size + 1, p9, none⟩ = some (.int .u32 (X9 : Int)) := by rw [← hq]; exact c9
          have d16 : wq.cell? ⟨w.heap.size + 1, p16, none⟩ = some (.int .u32 (V : Int)) := by rw [← hq]; exact c16
          have df : wq.frozen? ⟨w.heap.size + 1, p16, none⟩ = false := by rw [← hq]; exact f16
          have SS' : Hid ((wq.setCell ⟨w.heap.size + 1, p16, none⟩ (.int .u32 (N : Int))).cell? ⟨w.heap.size + 1, k, none⟩ = some (.int .u32 (X0 : Int)) ∧ (wq.setCell ⟨w.heap.size + 1, p16, none⟩ (.int .u32 (N : Int))).cell? ⟨w.heap.size + 1, p9, none⟩ = some (.int .u32 (X9 : Int))) := by rw [← hq]; exact SS.out
          have HO2 : Hid (Arr (wq.setCell ⟨w.heap.size + 1, p16, none⟩ (.int .u32 (N : Int))) 101 (w.heap.size + 1) (tabN 64 (cutN W (k + 1 + 16)))) := by rw [← hq]; exact HO'.out
          have HA2 : Hid (Arr (wq.setCell ⟨w.heap.size + 1, p16, none⟩ (.int .u32 (N : Int))) 101 w.heap.size (tabN 64 (cutN W 0))) := by rw [← hq]; exact HA0'.out
          have HB2 : Hid (Below w.heap.size w (wq.setCell ⟨w.heap.size + 1, p16, none⟩ (.int .u32 (N : Int)))) := by rw [← hq]; exact below_drewN HBl _
          clear hq c0 c9 c16 f16 SS HO' HA0' HBl hbl
          refine wp_region_noPanic ?_
          refine wp_region_held_drew (S := fun w' => w'.cell? ⟨w.heap.size + 1, k, none⟩ = some (.int .u32 (X0 : Int)) ∧ w'.cell? ⟨w.heap.size + 1, p9, none⟩ = some (.int .u32 (X9 : Int))) (by kernel_rfl) (by first | exact trivial | assumption | exact ⟨by assumption, by assumption⟩) (fun hHeld => ?_)
          refine take_at (i := 0) (v := ?_) rfl rfl (by kernel_rfl) (by kernel_rfl) (by kernel_rfl) (fun _ _ _ h => h) (Or.inl ⟨by rfl, ?_⟩) (by assumption) ?_
          rotate_left
          · intro w hSw; (try dsimp only at hSw); go_simp; try with_reducible rfl
          try simp only [Act.put, List.setIfInBounds_toArray, List.set_cons_zero, List.set_cons_succ]
          refine take_at (i := 1) (v := ?_) rfl rfl (by kernel_rfl) (by kernel_rfl) (by kernel_rfl) (fun _ _ _ h => h) (Or.inl ⟨by rfl, ?_⟩) (by assumption) ?_
          rotate_left
          · intro w hSw; (try dsimp only at hSw); go_simp; try with_reducible rfl
          try simp only [Act.put, List.setIfInBounds_toArray, List.set_cons_zero, List.set_cons_succ]
          refine take_at (i := 2) (v := ?_) rfl rfl (by kernel_rfl) (by kernel_rfl) (by kernel_rfl) (fun _ _ _ h => h) (Or.inl ⟨by rfl, ?_⟩) (by assumption) ?_
          rotate_left
          · intro w hSw; (try dsimp only at hSw); go_simp; try with_reducible rfl
          try simp only [Act.put, List.setIfInBounds_toArray, List.set_cons_zero, List.set_cons_succ]
          refine take_at (i := 3) (v := ?_) rfl rfl (by kernel_rfl) (by kernel_rfl) (by kernel_rfl) (fun _ _ _ h => h) (Or.inl ⟨by rfl, ?_⟩) (by assumption) ?_
          rotate_left
          · intro w hSw; (try dsimp only at hSw); go_simp; try with_reducible rfl
          try simp only [Act.put, List.setIfInBounds_toArray, List.set_cons_zero, List.set_cons_succ]
          refine take_at (i := 4) (v := ?_) rfl rfl (by kernel_rfl) (by kernel_rfl) (by kernel_rfl) (fun _ _ _ h => h) (Or.inl ⟨by rfl, ?_⟩) (by assumption) ?_
          rotate_left
          · intro w hSw; (try dsimp only at hSw); go_simp; try with_reducible rfl
          try simp only [Act.put, List.setIfInBounds_toArray, List.set_cons_zero, List.set_cons_succ]
          refine take_at (i := 5) (v := ?_) rfl rfl (by kernel_rfl) (by kernel_rfl) (by kernel_rfl) (fun _ _ _ h => h) (Or.inl ⟨by rfl, ?_⟩) (by assumption) ?_
          rotate_left
          · intro w hSw; (try dsimp only at hSw); go_simp; try with_reducible rfl
          try simp only [Act.put, List.setIfInBounds_toArray, List.set_cons_zero, List.set_cons_succ]
          refine take_at (i := 7) (v := ?_) rfl rfl (by kernel_rfl) (by kernel_rfl) (by kernel_rfl) (fun _ _ _ h => h) (Or.inl ⟨by rfl, ?_⟩) (by assumption) ?_
          rotate_left
          · intro w hSw; (try dsimp only at hSw); go_simp; try with_reducible rfl
          try simp only [Act.put, List.setIfInBounds_toArray, List.set_cons_zero, List.set_cons_succ]
          refine take_at (i := 10) (v := ?_) rfl rfl (by kernel_rfl) (by kernel_rfl) (by kernel_rfl) (fun _ _ _ h => h) (Or.inl ⟨by rfl, ?_⟩) (by assumption) ?_
          rotate_left
          · intro w hSw; (try dsimp only at hSw); go_simp; try with_reducible rfl
          try simp only [Act.put, List.setIfInBounds_toArray, List.set_cons_zero, List.set_cons_succ]
          refine take_at (i := 11) (v := ?_) rfl rfl (by kernel_rfl) (by kernel_rfl) (by kernel_rfl) (fun _ _ _ h => h) (Or.inl ⟨by rfl, ?_⟩) (by assumption) ?_
          rotate_left
          · intro w hSw; (try dsimp only at hSw); go_simp; try with_reducible rfl
          try simp only [Act.put, List.setIfInBounds_toArray, List.set_cons_zero, List.set_cons_succ]
          refine take_at (i := 14) (v := ?_) rfl rfl (by kernel_rfl) (by kernel_rfl) (by kernel_rfl) (fun _ _ _ h => h) (Or.inl ⟨by rfl, ?_⟩) (by assumption) ?_
          rotate_left
          · intro w hSw; (try dsimp only at hSw); go_simp; try with_reducible rfl
          try simp only [Act.put, List.setIfInBounds_toArray, List.set_cons_zero, List.set_cons_succ]
          refine take_at (i := 15) (v := ?_) rfl rfl (by kernel_rfl) (by kernel_rfl) (by kernel_rfl) (fun _ _ _ h => h) (Or.inl ⟨by rfl, ?_⟩) (by assumption) ?_
          rotate_left
          · intro w hSw; (try dsimp only at hSw); go_simp; try with_reducible rfl
          try simp only [Act.put, List.setIfInBounds_toArray, List.set_cons_zero, List.set_cons_succ]
          refine take_at (i := 16) (v := ?_) rfl rfl (by kernel_rfl) (by kernel_rfl) (by kernel_rfl) (fun _ _ _ h => h) (Or.inl ⟨by rfl, ?_⟩) (by assumption) ?_
          rotate_left
          · intro w hSw; (try dsimp only at hSw); go_simp; try with_reducible rfl
          try simp only [Act.put, List.setIfInBounds_toArray, List.set_cons_zero, List.set_cons_succ]
          refine take_at (i := 17) (v := ?_) rfl rfl (by kernel_rfl) (by kernel_rfl) (by kernel_rfl) (fun _ _ _ h => h) (Or.inl ⟨by rfl, ?_⟩) (by assumption) ?_
          rotate_left
          · intro w hSw; (try dsimp only at hSw); go_simp; try with_reducible rfl
          try simp only [Act.put, List.setIfInBounds_toArray, List.set_cons_zero, List.set_cons_succ]
          refine take_at (i := 19) (v := ?_) rfl rfl (by kernel_rfl) (by kernel_rfl) (by kernel_rfl) (fun _ _ _ h => h) (Or.inl ⟨by rfl, ?_⟩) (by assumption) ?_
          rotate_left
          · intro w hSw; (try dsimp only at hSw); go_simp; try with_reducible rfl
          try simp only [Act.put, List.setIfInBounds_toArray, List.set_cons_zero, List.set_cons_succ]
          refine take_at (i := 21) (v := ?_) rfl rfl (by kernel_rfl) (by kernel_rfl) (by kernel_rfl) (fun _ _ _ h => h) (Or.inl ⟨by rfl, ?_⟩) (by assumption) ?_
          rotate_left
          · intro w hSw; (try dsimp only at hSw); go_simp; try with_reducible rfl
          try simp only [Act.put, List.setIfInBounds_toArray, List.set_cons_zero, List.set_cons_succ]
          refine take_at (i := 24) (v := ?_) rfl rfl (by kernel_rfl) (by kernel_rfl) (by kernel_rfl) (fun _ _ _ h => h) (Or.inl ⟨by rfl, ?_⟩) (by assumption) ?_
          rotate_left
          · intro w hSw; (try dsimp only at hSw); go_simp; try with_reducible rfl
          try simp only [Act.put, List.setIfInBounds_toArray, List.set_cons_zero, List.set_cons_succ]
          refine take_at (i := 25) (v := ?_) rfl rfl (by kernel_rfl) (by kernel_rfl) (by kernel_rfl) (fun _ _ _ h => h) (Or.inl ⟨by rfl, ?_⟩) (by assumption) ?_
          rotate_left
          · intro w hSw; (try dsimp only at hSw); go_simp; try with_reducible rfl
          try simp only [Act.put, List.setIfInBounds_toArray, List.set_cons_zero, List.set_cons_succ]
          refine wpAnyH_ready (rs := [6]) (by kernel_rfl) (by simp) ?_
          refine AllReadyH.cons rfl (fun K hK => ?_) AllReadyH.nil
          go_simp
          refine (C7.out _).mono ?_
          rintro e w' ⟨rfl, rfl⟩
          refine hK.out _ _ ⟨d0, d9⟩ (fun hHeld => ?_)
          clear hK K
          refine wpAnyH_ready (rs := [8]) (by kernel_rfl) (by simp) ?_
          refine AllReadyH.cons rfl (fun K hK => ?_) AllReadyH.nil
          go_simp
          refine (C18.out _).mono ?_
          rintro e w' ⟨rfl, rfl⟩
          refine hK.out _ _ ⟨d0, d9⟩ (fun hHeld => ?_)
          clear hK K
          refine take_at (i := 9) (v := ?_) rfl rfl (by kernel_rfl) (by kernel_rfl) (by kernel_rfl) (fun _ _ _ h => h) (Or.inl ⟨by rfl, ?_⟩) (by assumption) ?_
          rotate_left
          · intro w hSw; (try dsimp only at hSw); go_simp; try with_reducible rfl
          try simp only [Act.put, List.setIfInBounds_toArray, List.set_cons_zero, List.set_cons_succ]
          refine take_at (i := 12) (v := ?_) rfl rfl (by kernel_rfl) (by kernel_rfl) (by kernel_rfl) (fun _ _ _ h => h) (Or.inl ⟨by rfl, ?_⟩) (by assumption) ?_
          rotate_left
          · intro w hSw; (try dsimp only at hSw); go_simp; try with_reducible rfl
          try simp only [Act.put, List.setIfInBounds_toArray, List.set_cons_zero, List.set_cons_succ]
          refine take_at (i := 13) (v := ?_) rfl rfl (by kernel_rfl) (by kernel_rfl) (by kernel_rfl) (fun _ _ _ h => h) (Or.inl ⟨by rfl, ?_⟩) (by assumption) ?_
          rotate_left
          · intro w hSw; (try dsimp only at hSw); go_simp; try with_reducible rfl
          try simp only [Act.put, List.setIfInBounds_toArray, List.set_cons_zero, List.set_cons_succ]
          refine take_at (i := 18) (v := ?_) rfl rfl (by kernel_rfl) (by kernel_rfl) (by kernel_rfl) (fun _ _ _ h => h) (Or.inl ⟨by rfl, ?_⟩) (by assumption) ?_
          rotate_left
          · intro w hSw; (try dsimp only at hSw); go_simp; try with_reducible rfl
          try simp only [Act.put, List.setIfInBounds_toArray, List.set_cons_zero, List.set_cons_succ]
          refine wpAnyH_ready (rs := [20]) (by kernel_rfl) (by simp) ?_
          refine AllReadyH.cons rfl (fun K hK => ?_) AllReadyH.nil
          go_simp
          refine (C17.out _).mono ?_
          rintro e w' ⟨rfl, rfl⟩
          refine hK.out _ _ ⟨d0, d9⟩ (fun hHeld => ?_)
          clear hK K
          refine wpAnyH_ready (rs := [22]) (by kernel_rfl) (by simp) ?_
          refine AllReadyH.cons rfl (fun K hK => ?_) AllReadyH.nil
          go_simp
          refine (C19.out _).mono ?_
          rintro e w' ⟨rfl, rfl⟩
          refine hK.out _ _ ⟨d0, d9⟩ (fun hHeld => ?_)
          clear hK K
          refine take_at (i := 23) (v := ?_) rfl rfl (by kernel_rfl) (by kernel_rfl) (by kernel_rfl) (fun _ _ _ h => h) (Or.inl ⟨by rfl, ?_⟩) (by assumption) ?_
          rotate_left
          · intro w hSw; (try dsimp only at hSw); go_simp; try with_reducible rfl
          try simp only [Act.put, List.setIfInBounds_toArray, List.set_cons_zero, List.set_cons_succ]
          refine take_at (i := 26) (v := ?_) rfl rfl (by kernel_rfl) (by kernel_rfl) (by kernel_rfl) (fun _ _ _ h => h) (Or.inl ⟨by rfl, ?_⟩) (by assumption) ?_
          rotate_left
          · intro w hSw; (try dsimp only at hSw); go_simp; try with_reducible rfl
          try simp only [Act.put, List.setIfInBounds_toArray, List.set_cons_zero, List.set_cons_succ]
          refine take_at (i := 27) (v := ?_) rfl rfl (by kernel_rfl) (by kernel_rfl) (by kernel_rfl) (fun _ _ _ h => h) (Or.inl ⟨by rfl, ?_⟩) (by assumption) ?_
          rotate_left
          · intro w hSw; (try dsimp only at hSw); go_simp; try with_reducible rfl
          try simp only [Act.put, List.setIfInBounds_toArray, List.set_cons_zero, List.set_cons_succ]
          refine take_at (i := 28) (v := ?_) rfl rfl (by kernel_rfl) (by kernel_rfl) (by kernel_rfl) (fun _ _ _ h => h) (Or.inl ⟨by rfl, ?_⟩) (by assumption) ?_
          rotate_left
          · intro w hSw; (try dsimp only at hSw); go_simp; try with_reducible rfl
          try simp only [Act.put, List.setIfInBounds_toArray, List.set_cons_zero, List.set_cons_succ]
          refine wpAnyH_ready (rs := [29]) (by kernel_rfl) (by simp) ?_
          refine AllReadyH.cons rfl (fun K hK => ?_) AllReadyH.nil
          go_simp
          rw [spread_val X0 X1 X9 X14 l1 l14, ← NX.out]
          refine hK.out _ _ SS'.out (fun hHeld => ?_)
          clear hK K
          refine wpAnyH_done (by kernel_rfl) (NoPanic.normal ?_) _
          clear d0 d9 d16 df SS' C7 C18 C17 C19 NX
          go_wp2
          go_roundw
          case rel =>
            (repeat apply Exists.intro)
            refine ⟨?_, rfl⟩
            exact ⟨k + 1, by omega, by go_num, HA2, HO2, HB2.out.drew⟩
          case measure => simp [intOf]; omega
        · have hk' : k = 48 := by omega
          subst hk'
          have hA1 := HA1.out
          rw [cutN_all] at hA1
          have HA1' : Hid (Arr wr 101 (w.heap.size + 1) (tabN 64 W)) := hA1
          clear HA1 hA1
          go_wp2_with (first
            | (with_reducible refine wpList_loadArr rfl 101 _ rfl (w.heap.size + 1) (tabN 64 W) ?hx HA1'.out 64 74 Tryz.underlying101 ?hi ?_)
            | (with_reducible refine wpList_storeArr rfl 101 _ _ rfl w.heap.size (tabN 64 (cutN W 0)) (tabN 64 W) ?hx2 ?hy HA0.out ?hl ?hi2 ?_))
          case hx => rfl
          case hi => rw [tabN_length]; exact Tryz.arr64
          case hl => rw [tabN_length, tabN_length]
          case hi2 => rw [tabN_length]; exact Tryz.arr64
          exact bodyPost_arr rfl w.heap.size (tabN 64 W) rfl rfl (HA0.out.setRow (tabN 64 W)) 64 74 Tryz.underlying101 (by rw [tabN_length]; exact Tryz.arr64) ⟨rfl, below_setRow hbl (Nat.le_refl _) _⟩
end Go.Proofs.YtglgppeloolbhaaGreatDoor

namespace Go.Proofs.YtglgppeloolbhaaGreatDoor
open Go.RowKit
set_option maxRecDepth 100000
set_option linter.unusedSimpArgs false

/-- The package's two tables, as they lie. -/
def GlobB (w : World) : Prop := ∀ j, j < 8 → w.cell? ⟨1, j, none⟩ = some (.int .u32 ((bN.getD j 0 : Nat) : Int))
def GlobK (w : World) : Prop := ∀ j, j < 64 → w.cell? ⟨3, j, none⟩ = some (.int .u32 ((kN.getD j 0 : Nat) : Int))
theorem GlobB.below {w w' : World} (h : GlobB w) (hb : Below w.heap.size w w') : GlobB w' := fun j hj => by
  have h1 := h j hj
  rw [hb.cell (p := ⟨1, j, none⟩) (World.block_lt_of_cell? w _ h1)]; exact h1
theorem GlobK.below {w w' : World} (h : GlobK w) (hb : Below w.heap.size w w') : GlobK w' := fun j hj => by
  have h1 := h j hj
  rw [hb.cell (p := ⟨3, j, none⟩) (World.block_lt_of_cell? w _ h1)]; exact h1

/-- Eight slots that hold a state. -/
def Regs (x : List Nat) (a b c d e f g h : Value) : Prop :=
  a = .int .u32 ((x.getD 0 0 : Nat) : Int) ∧ b = .int .u32 ((x.getD 1 0 : Nat) : Int) ∧ c = .int .u32 ((x.getD 2 0 : Nat) : Int) ∧ d = .int .u32 ((x.getD 3 0 : Nat) : Int) ∧
  e = .int .u32 ((x.getD 4 0 : Nat) : Int) ∧ f = .int .u32 ((x.getD 5 0 : Nat) : Int) ∧ g = .int .u32 ((x.getD 6 0 : Nat) : Int) ∧ h = .int .u32 ((x.getD 7 0 : Nat) : Int)
/-- The state put to the rounds' words, as far as k. -/
def mixN (x r : List Nat) (k j : Nat) : Nat := if j < k then (x.getD j 0 + r.getD j 0) % 4294967296 else r.getD j 0
theorem mixN_set (n : Nat) (x r : List Nat) (k : Nat) : (tabN n (mixN x r k)).set k ((x.getD k 0 + r.getD k 0) % 4294967296) = tabN n (mixN x r (k + 1)) := by
  refine tabN_set _ _ _ _ _ (by unfold mixN; rw [if_pos (by omega)]) (fun i _ hne => ?_)
  unfold mixN
  by_cases h : i < k
  · rw [if_pos h, if_pos (by omega)]
  · rw [if_neg h, if_neg (by omega)]
theorem mixN_zero (x r : List Nat) (h : r.length = 8) : tabN 8 (mixN x r 0) = r := by
  rw [tabN_congr 8 _ (fun i => r.getD i 0) (fun i _ => by unfold mixN; rw [if_neg (by omega)])]; exact tabN_of r 8 h
theorem mixN_all (x r : List Nat) : tabN 8 (mixN x r 8) = addL x r :=
  tabN_congr 8 _ _ (fun i hi => by unfold mixN; rw [if_pos hi])

theorem u32_not (E : Nat) (h : E < 4294967296) : bits .xor .u32 (if IntKind.u32.signed = true then -1 else IntKind.u32.max) (E : Int) = ((4294967295 - E : Nat) : Int) := by
  show IntKind.u32.wrap ((BitVec.ofInt 32 4294967295 ^^^ BitVec.ofInt 32 (E : Int)).toNat : Int) = _
  rw [show BitVec.ofInt 32 4294967295 = BitVec.allOnes 32 by decide, BitVec.allOnes_xor, BitVec.toNat_not, BitVec.ofInt_natCast, BitVec.toNat_ofNat, Nat.mod_eq_of_lt (show E < 2 ^ 32 by omega), u32_wrap]
  omega
theorem bt_val (E F G H Z Y : Nat) (lE : E < 4294967296) (lF : F < 4294967296) (lG : G < 4294967296) :
    (((H : Int) + bits .xor .u32 (bits .xor .u32 ((rr E 6 : Nat) : Int) ((rr E 11 : Nat) : Int)) ((rr E 25 : Nat) : Int) +
      bits .xor .u32 (bits .and .u32 (E : Int) (F : Int)) (bits .and .u32 (bits .xor .u32 (if IntKind.u32.signed = true then -1 else IntKind.u32.max) (E : Int)) (G : Int)) + (Z : Int)) % 4294967296 + (Y : Int)) % 4294967296 = ((tV E F G H Z Y : Nat) : Int) := by
  have h6 := rr_lt E 6 lE
  have h11 := rr_lt E 11 lE
  have h25 := rr_lt E 25 lE
  have hx := xor_lt32 _ _ h6 h11
  have ha := and_lt32 E F lE
  have ha' := and_lt32 (4294967295 - E) G (by omega)
  rw [u32_not E lE, u32_xor_nat (rr E 6) (rr E 11) h6 h11, u32_xor_nat (rr E 6 ^^^ rr E 11) (rr E 25) hx h25, u32_and_nat E F lE lF, u32_and_nat (4294967295 - E) G (by omega) lG, u32_xor_nat (E &&& F) ((4294967295 - E) &&& G) ha ha']
  change (((H : Int) + ((bs1 E : Nat) : Int) + ((chN E F G : Nat) : Int) + (Z : Int)) % 4294967296 + (Y : Int)) % 4294967296 = _
  unfold tV
  generalize bs1 E = P at *
  generalize chN E F G = Q at *
  omega
theorem bu_val (A B C : Nat) (lA : A < 4294967296) (lB : B < 4294967296) (lC : C < 4294967296) :
    (bits .xor .u32 (bits .xor .u32 ((rr A 2 : Nat) : Int) ((rr A 13 : Nat) : Int)) ((rr A 22 : Nat) : Int) +
      bits .xor .u32 (bits .xor .u32 (bits .and .u32 (A : Int) (B : Int)) (bits .and .u32 (A : Int) (C : Int))) (bits .and .u32 (B : Int) (C : Int))) % 4294967296 = ((uV A B C : Nat) : Int) := by
  have h6 := rr_lt A 2 lA
  have h11 := rr_lt A 13 lA
  have h25 := rr_lt A 22 lA
  have hx := xor_lt32 _ _ h6 h11
  have ha := and_lt32 A B lA
  have ha' := and_lt32 A C lA
  have ha'' := and_lt32 B C lB
  have hy := xor_lt32 _ _ ha ha'
  rw [u32_xor_nat (rr A 2) (rr A 13) h6 h11, u32_xor_nat (rr A 2 ^^^ rr A 13) (rr A 22) hx h25, u32_and_nat A B lA lB, u32_and_nat A C lA lC, u32_and_nat B C lB lC, u32_xor_nat (A &&& B) (A &&& C) ha ha', u32_xor_nat ((A &&& B) ^^^ (A &&& C)) (B &&& C) hy ha'']
  change (((bs0 A : Nat) : Int) + ((majN A B C : Nat) : Int)) % 4294967296 = _
  unfold uV
  generalize bs0 A = P at *
  generalize majN A B C = Q at *
  omega
theorem regs_mk (T U A B C D E F G : Nat) : Regs [(T + U) % 4294967296, A, B, C, (D + T) % 4294967296, E, F, G] (.int .u32 (((T : Int) + (U : Int)) % 4294967296)) (.int .u32 (A : Int)) (.int .u32 (B : Int)) (.int .u32 (C : Int)) (.int .u32 (((D : Int) + (T : Int)) % 4294967296)) (.int .u32 (E : Int)) (.int .u32 (F : Int)) (.int .u32 (G : Int)) := by
  refine ⟨?_, rfl, rfl, rfl, ?_, rfl, rfl, rfl⟩
  · show Value.int .u32 _ = Value.int .u32 ((((T + U) % 4294967296 : Nat)) : Int)
    rw [show (((T : Int) + (U : Int)) % 4294967296) = ((((T + U) % 4294967296 : Nat)) : Int) by omega]
  · show Value.int .u32 _ = Value.int .u32 ((((D + T) % 4294967296 : Nat)) : Int)
    rw [show (((D : Int) + (T : Int)) % 4294967296) = ((((D + T) % 4294967296 : Nat)) : Int) by omega]
theorem list8 (l : List Nat) (h : l.length = 8) : ∃ A B C D E F G H, l = [A, B, C, D, E, F, G, H] := by
  match l, h with
  | [A, B, C, D, E, F, G, H], _ => exact ⟨A, B, C, D, E, F, G, H, rfl⟩

set_option maxRecDepth 100000 in
set_option maxHeartbeats 16000000 in
theorem behind_walk (x : List Nat) (b : ByteArray) (W : Nat → Nat) (R : Nat → List Nat) (w : World) (hx : x.length = 8) (hb : b.size = 64) (hW : Spread W (bt b)) (hR : Rounds R W x) (hRl : ∀ k, (R k).length = 8) (hK : GlobK w) :
    Calls Tryz.prog 81 #[.agg (vals x), .string b] w fun e w' => e = .returned (.agg (vals (addL x (R 64)))) ∧ Below w.heap.size w w' := by
  have HWl : Hid (∀ i, W i < 4294967296) := hW.1
  have CS : Hid (∀ w, _) := fun w => spread_any b W w hb hW
  have HR : Hid (Rounds R W x) := hR
  have HRl : Hid (∀ k, (R k).length = 8) := hRl
  have HK : Hid (GlobK w) := hK
  clear hW hR hRl hK
  go_enter Tryz.func81, Tryz.ntmps81
  go_wp2_with fail
  refine (CS.out _).mono ?_
  rintro e w1 ⟨rfl, hb1⟩
  have a0 := ((Arr.new w 75 x _ rfl).alloc _).below hb1 (by simp; omega)
  have a1 := (Arr.new' _ 75 (tabN 8 (cutN W 0)) _ (w.heap.size + 1) (by simp) (by kernel_rfl)).below hb1 (by simp)
  have hB1 : Below w.heap.size w w1 := ((below_new w _).alloc (by simp) _).trans (hb1.mono (by simp; omega))
  have HA0 : Hid (Arr w1 75 w.heap.size _) := a0
  have HA1 : Hid (Arr w1 75 (w.heap.size + 1) _) := a1
  have hK1 : Hid (GlobK w1) := HK.out.below hB1
  clear a0 a1 hb1 CS HK
  go_wp2_with (with_reducible refine wpList_storeArr rfl 101 _ _ rfl w1.heap.size (tabN 64 (cutN W 0)) (tabN 64 W) ?hx ?hy ?ha ?hl ?hi ?_)
  case hx => rfl
  case hy => rfl
  case ha => exact Arr.new w1 101 (tabN 64 (cutN W 0)) _ (by kernel_rfl)
  case hl => rw [tabN_length, tabN_length]
  case hi => rw [tabN_length]; exact Tryz.arr64
  rw [World.setRow_alloc_new]
  simp only [Act.put]
  generalize hq : World.alloc w1 _ = w2
  have hB2 : Hid (Below w.heap.size w w2) := by rw [← hq]; exact hB1.alloc hB1.size _
  have A0 : Hid (Arr w2 75 w.heap.size x) := by rw [← hq]; exact HA0.out.alloc _
  have A1 : Hid (Arr w2 75 (w.heap.size + 1) (tabN 8 (cutN W 0))) := by rw [← hq]; exact HA1.out.alloc _
  have A5 : Hid (Arr w2 101 w1.heap.size (tabN 64 W)) := by rw [← hq]; exact Arr.new w1 101 _ _ rfl
  have K2 : Hid (GlobK w2) := hK1.out.below (by rw [← hq]; exact below_new w1 _)
  clear hq HA0 HA1 hK1 hB1
  generalize w1.heap.size = g5 at *
  clear w1
  have h0 : R 0 = x := HR.out.1
  have c0 := A0.out.cell 0 (by omega)
  have c1 := A0.out.cell 1 (by omega)
  have c2 := A0.out.cell 2 (by omega)
  have c3 := A0.out.cell 3 (by omega)
  have c4 := A0.out.cell 4 (by omega)
  have c5 := A0.out.cell 5 (by omega)
  have c6 := A0.out.cell 6 (by omega)
  have c7 := A0.out.cell 7 (by omega)
  rw [← h0] at c0 c1 c2 c3 c4 c5 c6 c7
  have H0 : Hid (R 0 = x) := h0
  clear h0
  go_quiet (fail)
  clear c0 c1 c2 c3 c4 c5 c6 c7
  go_wp2_with fail
  go_loopw [6, 7, 8, 9, 10, 11, 12, 13, 37] (fun a b c d e f g h i wr => ∃ k : Nat, k ≤ 64 ∧ i = .int .i64 k ∧ Regs (R k) a b c d e f g h ∧ Below w2.heap.size w2 wr) (fun _ _ _ _ _ _ _ _ i _ => 64 - (intOf i).toNat)
  case atStart => exact ⟨0, by omega, rfl, ⟨rfl, rfl, rfl, rfl, rfl, rfl, rfl, rfl⟩, below_drewN (Below.refl _ _) _⟩
  case round =>
    obtain ⟨k, hk, rfl, ⟨rfl, rfl, rfl, rfl, rfl, rfl, rfl, rfl⟩, hbl⟩ := hrel
    by_cases hlt : k < 64
    · have ok := HR.out.2.2 k
      have nx' := HR.out.2.1 k
      have lA := ok 0
      have lB := ok 1
      have lC := ok 2
      have lD := ok 3
      have lE := ok 4
      have lF := ok 5
      have lG := ok 6
      have lH := ok 7
      have lY := HWl.out k
      have lZ := kN_ok k
      have cY := (A5.out.below hbl A5.out.lt).cell k (by rw [tabN_length]; exact hlt)
      have cZ := K2.out.below hbl k hlt
      rw [tabN_getD _ _ _ hlt] at cY
      unfold rnd tN uN at nx'
      clear ok
      generalize (R k).getD 0 0 = A at *
      generalize (R k).getD 1 0 = B at *
      generalize (R k).getD 2 0 = C at *
      generalize (R k).getD 3 0 = D at *
      generalize (R k).getD 4 0 = E at *
      generalize (R k).getD 5 0 = F at *
      generalize (R k).getD 6 0 = G at *
      generalize (R k).getD 7 0 = H at *
      generalize kN.getD k 0 = Z at *
      generalize W k = Y at *
      have NX : Hid (R (k + 1) = _) := nx'
      clear nx'
      have b0 : (k : Int) < 64 := by omega
      have C6 : Hid (∀ w, Calls Tryz.prog 94 #[.int .u32 E, .int .i64 6] w _) := fun w => right_any E 6 lE (by decide) (by decide) w
      have C11 : Hid (∀ w, Calls Tryz.prog 94 #[.int .u32 E, .int .i64 11] w _) := fun w => right_any E 11 lE (by decide) (by decide) w
      have C25 : Hid (∀ w, Calls Tryz.prog 94 #[.int .u32 E, .int .i64 25] w _) := fun w => right_any E 25 lE (by decide) (by decide) w
      have C2 : Hid (∀ w, Calls Tryz.prog 94 #[.int .u32 A, .int .i64 2] w _) := fun w => right_any A 2 lA (by decide) (by decide) w
      have C13 : Hid (∀ w, Calls Tryz.prog 94 #[.int .u32 A, .int .i64 13] w _) := fun w => right_any A 13 lA (by decide) (by decide) w
      have C22 : Hid (∀ w, Calls Tryz.prog 94 #[.int .u32 A, .int .i64 22] w _) := fun w => right_any A 22 lA (by decide) (by decide) w
      go_wp2_with fail
      go_quiet (first
        | (go_at_call_of 94 (Value.int IntKind.i64 6); exact Calls.quiet_of_same (C6.out _))
        | (go_at_call_of 94 (Value.int IntKind.i64 11); exact Calls.quiet_of_same (C11.out _))
        | (go_at_call_of 94 (Value.int IntKind.i64 25); exact Calls.quiet_of_same (C25.out _)))
      rw [bt_val E F G H Z Y lE lF lG]
      have lT := tV_lt E F G H Z Y
      have VU : Hid (_ = _) := bu_val A B C lA lB lC
      generalize tV E F G H Z Y = T at *
      generalize uV A B C = U at *
      clear C6 C11 C25 cY cZ
      go_wp2_with fail
      refine (C2.out _).mono ?_
      rintro e w' ⟨rfl, rfl⟩
      go_wp2_with fail
      refine (C13.out _).mono ?_
      rintro e w' ⟨rfl, rfl⟩
      go_wp2_with fail
      refine (C22.out _).mono ?_
      rintro e w' ⟨rfl, rfl⟩
      clear C2 C13 C22
      go_wp2_with fail
      rw [VU.out]
      go_roundw
      case rel => exact ⟨k + 1, by omega, by go_num, by rw [NX.out]; exact regs_mk T U A B C D E F G, below_drewN hbl _⟩
      case measure => simp [intOf]; omega
    · have hk' : k = 64 := by omega
      subst hk'
      obtain ⟨A, B, C, D, E, F, G, H, hr⟩ := list8 (R 64) (HRl.out 64)
      obtain ⟨w5, h5⟩ : ∃ w5, w5 = wr := ⟨_, rfl⟩
      rw [← h5] at hbl ⊢
      have hr0 : (R 64).getD 0 0 = A := by rw [hr]; rfl
      have hr1 : (R 64).getD 1 0 = B := by rw [hr]; rfl
      have hr2 : (R 64).getD 2 0 = C := by rw [hr]; rfl
      have hr3 : (R 64).getD 3 0 = D := by rw [hr]; rfl
      have hr4 : (R 64).getD 4 0 = E := by rw [hr]; rfl
      have hr5 : (R 64).getD 5 0 = F := by rw [hr]; rfl
      have hr6 : (R 64).getD 6 0 = G := by rw [hr]; rfl
      have hr7 : (R 64).getD 7 0 = H := by rw [hr]; rfl
      rw [hr0, hr1, hr2, hr3, hr4, hr5, hr6, hr7]
      clear hr0 hr1 hr2 hr3 hr4 hr5 hr6 hr7 h5
      have Hr : Hid (R 64 = [A, B, C, D, E, F, G, H]) := hr
      have ok := HR.out.2.2 64
      rw [hr] at ok
      have okx := HR.out.2.2 0
      rw [HR.out.1] at okx
      have HOr : Hid (Ok [A, B, C, D, E, F, G, H]) := ok
      have HOx : Hid (Ok x) := okx
      have hs2 := A0.out.lt
      have hs3 := A1.out.lt
      have hs4 := hbl.size
      have hg5 : Hid (w.heap.size ≤ w5.heap.size) := by show _ ≤ _; omega
      have g0 : w.heap.size ≠ w5.heap.size := by omega
      have g1 : w.heap.size + 1 ≠ w5.heap.size := by omega
      have V0 : Hid (Arr (w5.alloc (.cells #[.int .u32 (A : Int), .int .u32 (B : Int), .int .u32 (C : Int), .int .u32 (D : Int), .int .u32 (E : Int), .int .u32 (F : Int), .int .u32 (G : Int), .int .u32 (H : Int)] 75)) 75 w5.heap.size (tabN 8 (mixN x [A, B, C, D, E, F, G, H] 0))) := by
        rw [mixN_zero x _ rfl]; exact Arr.new w5 _ _ _ rfl
      have V1 : Hid (Arr (w5.alloc (.cells #[.int .u32 (A : Int), .int .u32 (B : Int), .int .u32 (C : Int), .int .u32 (D : Int), .int .u32 (E : Int), .int .u32 (F : Int), .int .u32 (G : Int), .int .u32 (H : Int)] 75)) 75 w.heap.size x) := (A0.out.below hbl hs2).alloc _
      have V2 : Hid (Arr (w5.alloc (.cells #[.int .u32 (A : Int), .int .u32 (B : Int), .int .u32 (C : Int), .int .u32 (D : Int), .int .u32 (E : Int), .int .u32 (F : Int), .int .u32 (G : Int), .int .u32 (H : Int)] 75)) 75 (w.heap.size + 1) (tabN 8 (cutN W 0))) := (A1.out.below hbl hs3).alloc _
      have V3 : Below w.heap.size w (w5.alloc (.cells #[.int .u32 (A : Int), .int .u32 (B : Int), .int .u32 (C : Int), .int .u32 (D : Int), .int .u32 (E : Int), .int .u32 (F : Int), .int .u32 (G : Int), .int .u32 (H : Int)] 75)) := (below_step hB2.out (Nat.le_refl _) hbl).alloc (by omega) _
      generalize hrr : [A, B, C, D, E, F, G, H] = r at Hr HOr V0
      clear hr ok okx A0 A1 A5 K2 HR HRl H0 HWl hB2 hbl hs2 hs3 hs4
      go_wp2_with fail
      go_loopw [109] (fun i wr => ∃ k : Nat, k ≤ 8 ∧ i = .int .i64 k ∧ Hid (Arr wr 75 w5.heap.size (tabN 8 (mixN x r k))) ∧ Hid (Arr wr 75 w.heap.size x) ∧ Hid (Arr wr 75 (w.heap.size + 1) (tabN 8 (cutN W 0))) ∧ Below w.heap.size w wr) (fun i _ => 8 - (intOf i).toNat)
      case atStart => exact ⟨0, by omega, rfl, V0, V1, V2, V3⟩
      case round =>
        clear V0 V1 V2 V3
        obtain ⟨k, hk, rfl, V0, V1, V2, hbl⟩ := hrel
        by_cases hlt : k < 8
        · have c0 := V0.out.cell k (by rw [tabN_length]; exact hlt)
          have f0 := V0.out.free k
          have c1 := V1.out.cell k (by omega)
          rw [tabN_getD _ _ _ hlt, show mixN x r k k = r.getD k 0 by unfold mixN; rw [if_neg (by omega)]] at c0
          have lX := HOx.out k
          have lY := HOr.out k
          have HO := V0.out.set k ((x.getD k 0 + r.getD k 0) % 4294967296)
          rw [mixN_set] at HO
          generalize x.getD k 0 = X at *
          generalize r.getD k 0 = Y at *
          obtain ⟨N, hN⟩ : ∃ n, n = (X + Y) % 4294967296 := ⟨_, rfl⟩
          have VN : Hid (IntKind.u32.wrap ((Y : Int) + (X : Int)) = (N : Int)) := by show _ = _; rw [u32_wrap, hN]; omega
          rw [← hN] at HO
          have HO' : Hid (Arr (wr.setCell ⟨w5.heap.size, k, none⟩ (.int .u32 (N : Int))) 75 w5.heap.size (tabN 8 (mixN x r (k + 1)))) := HO
          have V1' : Hid (Arr (wr.setCell ⟨w5.heap.size, k, none⟩ (.int .u32 (N : Int))) 75 w.heap.size x) := V1.out.other _ g0 _
          have V2' : Hid (Arr (wr.setCell ⟨w5.heap.size, k, none⟩ (.int .u32 (N : Int))) 75 (w.heap.size + 1) (tabN 8 (cutN W 0))) := V2.out.other _ g1 _
          have HB' : Hid (Below w.heap.size w (wr.setCell ⟨w5.heap.size, k, none⟩ (.int .u32 (N : Int)))) := hbl.setCell (p := ⟨w5.heap.size, k, none⟩) hg5.out _
          have SS : Hid ((wr.setCell ⟨w5.heap.size, k, none⟩ (.int .u32 (N : Int))).cell? ⟨w.heap.size, k, none⟩ = some (.int .u32 (X : Int))) := by
            show _ = _
            rw [World.cell?_setCell_far _ _ _ _ (fun h => g0 h.symm)]; exact c1
          have b0 : (k : Int) < 8 := by omega
          clear HO hN V0 V1 V2 hbl
          go_wp2_with fail
          refine wp_region_noPanic ?_
          refine wp_region_held_drew (S := fun w' => w'.cell? ⟨w.heap.size, k, none⟩ = some (.int .u32 (X : Int))) (by kernel_rfl) (by first | exact trivial | assumption | exact ⟨by assumption, by assumption⟩) (fun hHeld => ?_)
          refine take_at (i := 0) (v := ?_) rfl rfl (by kernel_rfl) (by kernel_rfl) (by kernel_rfl) (fun _ _ _ h => h) (Or.inl ⟨by rfl, ?_⟩) (by assumption) ?_
          rotate_left
          · intro w hSw; (try dsimp only at hSw); go_simp; try with_reducible rfl
          try simp only [Act.put, List.setIfInBounds_toArray, List.set_cons_zero, List.set_cons_succ]
          refine take_at (i := 1) (v := ?_) rfl rfl (by kernel_rfl) (by kernel_rfl) (by kernel_rfl) (fun _ _ _ h => h) (Or.inl ⟨by rfl, ?_⟩) (by assumption) ?_
          rotate_left
          · intro w hSw; (try dsimp only at hSw); go_simp; try with_reducible rfl
          try simp only [Act.put, List.setIfInBounds_toArray, List.set_cons_zero, List.set_cons_succ]
          refine take_at (i := 3) (v := ?_) rfl rfl (by kernel_rfl) (by kernel_rfl) (by kernel_rfl) (fun _ _ _ h => h) (Or.inl ⟨by rfl, ?_⟩) (by assumption) ?_
          rotate_left
          · intro w hSw; (try dsimp only at hSw); go_simp; try with_reducible rfl
          try simp only [Act.put, List.setIfInBounds_toArray, List.set_cons_zero, List.set_cons_succ]
          refine take_at (i := 4) (v := ?_) rfl rfl (by kernel_rfl) (by kernel_rfl) (by kernel_rfl) (fun _ _ _ h => h) (Or.inl ⟨by rfl, ?_⟩) (by assumption) ?_
          rotate_left
          · intro w hSw; (try dsimp only at hSw); go_simp; try with_reducible rfl
          try simp only [Act.put, List.setIfInBounds_toArray, List.set_cons_zero, List.set_cons_succ]
          refine take_at (i := 5) (v := ?_) rfl rfl (by kernel_rfl) (by kernel_rfl) (by kernel_rfl) (fun _ _ _ h => h) (Or.inl ⟨by rfl, ?_⟩) (by assumption) ?_
          rotate_left
          · intro w hSw; (try dsimp only at hSw); go_simp; try with_reducible rfl
          try simp only [Act.put, List.setIfInBounds_toArray, List.set_cons_zero, List.set_cons_succ]
          refine wpAnyH_ready (rs := [2]) (by kernel_rfl) (by simp) ?_
          refine AllReadyH.cons rfl (fun K hK => ?_) AllReadyH.nil
          go_simp
          refine hK.out _ _ c1 (fun hHeld => ?_)
          clear hK K
          refine take_at (i := 6) (v := ?_) rfl rfl (by kernel_rfl) (by kernel_rfl) (by kernel_rfl) (fun _ _ _ h => h) (Or.inl ⟨by rfl, ?_⟩) (by assumption) ?_
          rotate_left
          · intro w hSw; (try dsimp only at hSw); go_simp; try with_reducible rfl
          try simp only [Act.put, List.setIfInBounds_toArray, List.set_cons_zero, List.set_cons_succ]
          refine take_at (i := 7) (v := ?_) rfl rfl (by kernel_rfl) (by kernel_rfl) (by kernel_rfl) (fun _ _ _ h => h) (Or.inl ⟨by rfl, ?_⟩) (by assumption) ?_
          rotate_left
          · intro w hSw; (try dsimp only at hSw); go_simp; try with_reducible rfl
          try simp only [Act.put, List.setIfInBounds_toArray, List.set_cons_zero, List.set_cons_succ]
          refine wpAnyH_ready (rs := [8]) (by kernel_rfl) (by simp) ?_
          refine AllReadyH.cons rfl (fun K hK => ?_) AllReadyH.nil
          go_simp
          rw [VN.out]
          refine hK.out _ _ SS.out (fun hHeld => ?_)
          clear hK K
          refine wpAnyH_done (by kernel_rfl) (NoPanic.normal ?_) _
          clear c0 c1 f0 SS VN
          go_wp2
          go_roundw
          case rel =>
            (repeat apply Exists.intro)
            refine ⟨?_, rfl⟩
            exact ⟨k + 1, by omega, by go_num, HO', V1', V2', HB'.out.drew⟩
          case measure => simp [intOf]; omega
        · have hk8 : k = 8 := by omega
          subst hk8
          have hv := V0.out
          rw [mixN_all] at hv
          have HV : Hid (Arr wr 75 w5.heap.size (addL x r)) := hv
          clear V0 hv
          go_wp2_with (first
            | (with_reducible refine wpList_loadArr rfl 75 _ rfl w5.heap.size (addL x r) ?hx HV.out 8 74 Tryz.underlying75 ?hi ?_)
            | (with_reducible refine wpList_storeArr rfl 75 _ _ rfl (w.heap.size + 1) (tabN 8 (cutN W 0)) (addL x r) ?hx2 ?hy V2.out ?hl ?hi2 ?_))
          case hx => rfl
          case hi => rw [addL_length]; exact Tryz.arr8
          case hl => rw [tabN_length, addL_length]
          case hi2 => rw [tabN_length]; exact Tryz.arr8
          rw [Hr.out]
          exact bodyPost_arr rfl (w.heap.size + 1) (addL x r) rfl rfl (V2.out.setRow (addL x r)) 8 74 Tryz.underlying75 (by rw [addL_length]; exact Tryz.arr8) ⟨rfl, below_setRow hbl (by omega) _⟩

theorem behind_any (x : List Nat) (b : ByteArray) (w : World) (hx : x.length = 8) (ho : Ok x) (hb : b.size = 64) (hK : GlobK w) :
    Calls Tryz.prog 81 #[.agg (vals x), .string b] w fun e w' => e = .returned (.agg (vals (behindN x (bt b)))) ∧ Below w.heap.size w w' :=
  behind_walk x b (wS (blkN (bt b))) (runN (blkN (bt b)) x) w hx hb (spread_wS (bt b) (bt_lt b)) ⟨rfl, fun _ => rfl, runN_ok _ _ ho⟩ (runN_length _ _ hx) hK
end Go.Proofs.YtglgppeloolbhaaGreatDoor
