import Derived.Test.YtfbgofbjbfidoaaDoorMacSumsWalk
import Derived.Test.YtfbgofbjbfidoaaDoorL3
import Derived.Deep.DeepCutAuto
namespace Go.Proofs.YtfbgofbjbfidoaaDoor
open Go.RowKit
set_option linter.unusedSimpArgs false

def cells64 : Array Value := madeCells #[Value.int .u8 0] 64
theorem make64 (w : World) : (Instr.makeSlice 26 (.int .i64 64) (.int .i64 64)).run Tryd.prog w = .ok (.slice (some ⟨w.heap.size, 0, none⟩) 64 64) (w.alloc (.cells cells64 5)) := by
  obtain ⟨i0, hi, hz0, hz1, hz2⟩ := info_parts Tryd.info5
  have hr := run_make (P := Tryd.prog) w 26 5 i0 (.int .u8 0) Tryd.underlying26 hi hz0 .i64 .i64 64 64 (by omega) (Int.le_refl _) (by rw [hz2]; omega) (by omega)
  rw [hz1] at hr
  exact hr
theorem row64 (w : World) (f : Nat → Nat) : Row8 (w.alloc (.cells cells64 5)) w.heap.size 64 (cutN f 0) := (Row8.made w _ 64).cast (cutN_nil f)
theorem row64' (w : World) (f : Nat → Nat) (o : Obj) : Row8 ((w.alloc o).alloc (.cells cells64 5)) (w.heap.size + 1) 64 (cutN f 0) := by
  have := row64 (w.alloc o) f
  simpa using this

set_option maxRecDepth 100000 in
set_option maxHeartbeats 4000000 in
theorem hmacParts_short (key s : ByteArray) (w : World) (hk : key.size ≤ 64) (hs : s.size ≤ 1024) (hB : GlobB w) (hK : GlobK w) :
    Calls Tryd.prog 6 #[.string key, .string s] w fun e w' => e = .returned (.bool true) ∧ Below w.heap.size w w' := by
  have HB : Hid (GlobB w) := hB
  have HK : Hid (GlobK w) := hK
  have g0 : decide ((64 : Int) < (key.size : Int)) = false := by simp; omega
  have g1 : decide ((1024 : Int) < (s.size : Int)) = false := by simp; omega
  have hmk := make64
  obtain ⟨fa, Ha⟩ : ∃ f : Nat → Nat, Hid (f = fun i => bt key i ^^^ 54) := ⟨_, rfl⟩
  obtain ⟨fb, Hb⟩ : ∃ f : Nat → Nat, Hid (f = fun i => bt key i ^^^ 92) := ⟨_, rfl⟩
  clear hB hK
  go_enter Tryd.func6, Tryd.ntmps6
  go_wp2_with fail
  go_cut [5, 6] (fun u v wx => ∃ g h : Nat, u = .slice (some ⟨g, 0, none⟩) 64 64 ∧ v = .slice (some ⟨h, 0, none⟩) 64 64 ∧ g ≠ h ∧ w.heap.size ≤ g ∧ w.heap.size ≤ h ∧ Row8 wx g 64 (cutN fa 0) ∧ Row8 wx h 64 (cutN fb 0) ∧ Below w.heap.size w wx)
  case first =>
    go_region
    all_goals go_wp2_with fail
    all_goals go_meet
    case rel => exact ⟨w.heap.size, w.heap.size + 1, rfl, rfl, by omega, by omega, by omega, (row64 w fa).alloc _, row64' w fb _, ((below_new w _).alloc (by simp) _).drew⟩
    case rel => exact ⟨w.heap.size + 1, w.heap.size, rfl, rfl, by omega, by omega, by omega, row64' w fa _, (row64 w fb).alloc _, ((below_new w _).alloc (by simp) _).drew⟩
  case rest =>
    obtain ⟨g, q, rfl, rfl, hgq, hg, hq, A0, A1, A2⟩ := hcut
    clear hmk
    go_wp2_with fail
    go_loopw [7] (fun i wr => ∃ k : Nat, k ≤ 64 ∧ i = .int .i64 k ∧ Hid (Row8 wr g 64 (cutN fa k)) ∧ Hid (Row8 wr q 64 (cutN fb k)) ∧ Below w.heap.size w wr) (fun i _ => 64 - (intOf i).toNat)
    case atStart => exact ⟨0, Nat.zero_le _, rfl, A0, A1, A2⟩
    case round =>
      clear A0 A1 A2
      obtain ⟨k, hk64, rfl, V0, V1, hbl⟩ := hrel
      by_cases hlt : k < 64
      · have c0 := V0.out.cell k hlt
        have f0 := V0.out.free k hlt
        obtain ⟨X, HX⟩ : ∃ X, Hid (X = fa k) := ⟨_, rfl⟩
        obtain ⟨Y, HY⟩ : ∃ Y, Hid (Y = fb k) := ⟨_, rfl⟩
        have W0 := (V0.out.set k X).other ⟨q, k, none⟩ hgq (.int .u8 (Y : Int))
        have v1 := V1.out.other ⟨g, k, none⟩ (fun e => hgq e.symm) (.int .u8 (X : Int))
        have c1 := v1.cell k hlt
        have f1 := v1.free k hlt
        have W1 := v1.set k Y
        rw [HX.out, cutN_put, ← HX.out] at W0
        rw [HY.out, cutN_put, ← HY.out] at W1
        have hB3 := (hbl.setCell (p := ⟨g, k, none⟩) hg (Value.int .u8 (X : Int))).setCell (p := ⟨q, k, none⟩) hq (Value.int .u8 (Y : Int))
        have HW0 : Hid (Row8 _ g 64 _) := W0
        have HW1 : Hid (Row8 _ q 64 _) := W1
        have b0 : (k : Int) < 64 := by omega
        by_cases hin : k < key.size
        · have x0 : bits .xor .u8 (key[k].toNat : Int) 54 = (X : Int) := by
            rw [HX.out, Ha.out, bt_get key k hin]; exact u8_xor_nat (bt key k) 54 (bt_lt _ _) (by decide)
          have x1 : bits .xor .u8 (key[k].toNat : Int) 92 = (Y : Int) := by
            rw [HY.out, Hb.out, bt_get key k hin]; exact u8_xor_nat (bt key k) 92 (bt_lt _ _) (by decide)
          clear W0 W1 v1 V0 V1
          go_wp2_with fail
          go_roundw
          case rel => exact ⟨k + 1, by omega, by go_num, HW0, HW1, hB3⟩
          case measure => simp [intOf]; omega
        · have z : bt key k = 0 := bt_out key k (by omega)
          have x0 : bits .xor .u8 0 54 = (X : Int) := by
            rw [HX.out, Ha.out, show (fun i => bt key i ^^^ 54) k = bt key k ^^^ 54 from rfl, z]; rfl
          have x1 : bits .xor .u8 0 92 = (Y : Int) := by
            rw [HY.out, Hb.out, show (fun i => bt key i ^^^ 92) k = bt key k ^^^ 92 from rfl, z]; rfl
          clear W0 W1 v1 V0 V1 z
          go_wp2_with fail
          go_roundw
          case rel => exact ⟨k + 1, by omega, by go_num, HW0, HW1, hB3⟩
          case measure => simp [intOf]; omega
      · have hk' : k = 64 := by omega
        subst hk'
        have ha : ∀ i, cutN fa 64 i < 256 := by
          intro i; unfold cutN
          by_cases e : i < 64
          · rw [if_pos e, Ha.out]; exact xor_lt8 _ _ (bt_lt _ _) (by decide)
          · rw [if_neg e]; decide
        have hb : ∀ i, cutN fb 64 i < 256 := by
          intro i; unfold cutN
          by_cases e : i < 64
          · rw [if_pos e, Hb.out]; exact xor_lt8 _ _ (bt_lt _ _) (by decide)
          · rw [if_neg e]; decide
        have KA : Hid (∀ w', Row8 w' g 64 (cutN fa 64) → _) := fun w' h => Row8.conv (P := Tryd.prog) h ha 64 64 (by omega) 26 9 Tryd.underlying26 Tryd.underlying5 Tryd.underlying9
        have KB : Hid (∀ w', Row8 w' q 64 (cutN fb 64) → _) := fun w' h => Row8.conv (P := Tryd.prog) h hb 64 64 (by omega) 26 9 Tryd.underlying26 Tryd.underlying5 Tryd.underlying9
        obtain ⟨A, HA⟩ : ∃ A, Hid (A = turnB (bt key) 92) := ⟨_, rfl⟩
        obtain ⟨I, HI⟩ : ∃ I, Hid (I = turnB (bt key) 54) := ⟨_, rfl⟩
        have eI : (⟨(bytesOf 64 (cutN fa 64)).toArray⟩ : ByteArray) = I := by rw [HI.out, bytesOf_cut, Ha.out]; rfl
        have eA : (⟨(bytesOf 64 (cutN fb 64)).toArray⟩ : ByteArray) = A := by rw [HA.out, bytesOf_cut, Hb.out]; rfl
        rw [eI] at KA
        rw [eA] at KB
        have hAs : A.size = 64 := by rw [HA.out]; exact turnB_size _ _
        have hIs : I.size = 64 := by rw [HI.out]; exact turnB_size _ _
        obtain ⟨M, HM⟩ : ∃ M, Hid (M = ofN (sumN (I ++ s))) := ⟨_, rfl⟩
        have hMs : M.size = 32 := by rw [HM.out]; exact sumB_size _
        have C3 : Hid (∀ w, GlobB w → GlobK w → _) := fun w => sum_any (I ++ s) w (by rw [ByteArray.size_append]; omega)
        have C4 : Hid (∀ w, GlobB w → GlobK w → _) := fun w => sum_any (A ++ M) w (by rw [ByteArray.size_append]; omega)
        have C1 : Hid (∀ w, GlobB w → GlobK w → _) := fun w => mac_any key s w (by omega) (by omega)
        rw [← HM.out] at C3
        have HZ : macB key s = ofN (sumN (A ++ M)) := by rw [HM.out, HA.out, HI.out]; unfold macB; rw [keyOf_short key hk]
        rw [← HZ] at C4
        generalize macB key s = Z at *
        have hsum1 : ¬ (9223372036854775807 < I.size + s.size) := by omega
        have hsum2 : ¬ (9223372036854775807 < A.size + M.size) := by omega
        have R0 := V0.out
        have R1 := V1.out
        have Hbl : Hid (Below w.heap.size w wr) := hbl
        have hgl := R0.lt
        have hql := R1.lt
        clear HZ HM HA HI eI eA hAs hIs hMs ha hb V0 V1 hbl
        go_wp2_with fail
        refine wp_region_noPanic ?_
        refine wp_region_held_drew (S := fun w' => Row8 w' g 64 (cutN fa 64) ∧ Row8 w' q 64 (cutN fb 64)) (by kernel_rfl) (by first | exact trivial | assumption | exact ⟨by assumption, by assumption⟩) (fun hHeld => ?_)
        refine take_at (i := 0) (v := ?_) rfl rfl (by kernel_rfl) (by kernel_rfl) (by kernel_rfl) (fun _ _ _ h => h) (Or.inl ⟨by rfl, ?_⟩) (by assumption) ?_
        rotate_left
        · intro w hSw; (try dsimp only at hSw); go_simp; try with_reducible rfl
        try simp only [Act.put, List.setIfInBounds_toArray, List.set_cons_zero, List.set_cons_succ]
        refine take_at (i := 1) (v := ?_) rfl rfl (by kernel_rfl) (by kernel_rfl) (by kernel_rfl) (fun _ _ _ h => h) (Or.inl ⟨by rfl, ?_⟩) (by assumption) ?_
        rotate_left
        · intro w hSw; (try dsimp only at hSw); go_simp; try with_reducible rfl
        try simp only [Act.put, List.setIfInBounds_toArray, List.set_cons_zero, List.set_cons_succ]
        refine take_at (i := 3) (v := ?_) rfl rfl (by kernel_rfl) (by kernel_rfl) (by kernel_rfl) (fun _ _ _ h => h) (Or.inl ⟨by rfl, ?_⟩) (by assumption) ?_
        rotate_left
        · intro w hSw; (try dsimp only at hSw); go_simp; try with_reducible rfl
        try simp only [Act.put, List.setIfInBounds_toArray, List.set_cons_zero, List.set_cons_succ]
        refine take_at (i := 4) (v := .string A) rfl rfl (by kernel_rfl) (by kernel_rfl) (by kernel_rfl) (fun _ _ _ h => h) (Or.inl ⟨by rfl, ?_⟩) (by exact ⟨R0, R1⟩) ?_
        · intro w' hSw
          have hcv := KB.out w' hSw.2
          clear hSw
          go_simp
        try simp only [Act.put, List.setIfInBounds_toArray, List.set_cons_zero, List.set_cons_succ]
        refine take_at (i := 5) (v := ?_) rfl rfl (by kernel_rfl) (by kernel_rfl) (by kernel_rfl) (fun _ _ _ h => h) (Or.inl ⟨by rfl, ?_⟩) (by assumption) ?_
        rotate_left
        · intro w hSw; (try dsimp only at hSw); go_simp; try with_reducible rfl
        try simp only [Act.put, List.setIfInBounds_toArray, List.set_cons_zero, List.set_cons_succ]
        refine take_at (i := 6) (v := .string I) rfl rfl (by kernel_rfl) (by kernel_rfl) (by kernel_rfl) (fun _ _ _ h => h) (Or.inl ⟨by rfl, ?_⟩) (by exact ⟨R0, R1⟩) ?_
        · intro w' hSw
          have hcv := KA.out w' hSw.1
          clear hSw
          go_simp
        try simp only [Act.put, List.setIfInBounds_toArray, List.set_cons_zero, List.set_cons_succ]
        refine take_at (i := 7) (v := ?_) rfl rfl (by kernel_rfl) (by kernel_rfl) (by kernel_rfl) (fun _ _ _ h => h) (Or.inl ⟨by rfl, ?_⟩) (by assumption) ?_
        rotate_left
        · intro w hSw; (try dsimp only at hSw); go_simp; try with_reducible rfl
        try simp only [Act.put, List.setIfInBounds_toArray, List.set_cons_zero, List.set_cons_succ]
        refine take_at (i := 8) (v := ?_) rfl rfl (by kernel_rfl) (by kernel_rfl) (by kernel_rfl) (fun _ _ _ h => h) (Or.inl ⟨by rfl, ?_⟩) (by assumption) ?_
        rotate_left
        · intro w hSw; (try dsimp only at hSw); go_simp; try with_reducible rfl
        try simp only [Act.put, List.setIfInBounds_toArray, List.set_cons_zero, List.set_cons_succ]
        refine wpAnyH_ready (rs := [2]) (by kernel_rfl) (by simp) ?_
        refine AllReadyH.cons rfl (fun K hK => ?_) AllReadyH.nil
        go_simp
        refine (C1.out _ (HB.out.below Hbl.out.drew) (HK.out.below Hbl.out.drew)).mono ?_
        rintro e w3 ⟨rfl, hb3⟩
        have R03 : Row8 w3 g 64 (cutN fa 64) := Row8.below (w := wr.drew) R0 hb3 hgl
        have R13 : Row8 w3 q 64 (cutN fb 64) := Row8.below (w := wr.drew) R1 hb3 hql
        have hB3 : Hid (Below w.heap.size w w3) := below_step Hbl.out.drew (Nat.le_refl _) hb3
        have hg3 := R03.lt
        have hq3 := R13.lt
        clear hb3 C1
        refine hK.out _ _ ⟨R03, R13⟩ (fun hHeld => ?_)
        clear hK K
        refine wpAnyH_ready (rs := [9]) (by kernel_rfl) (by simp) ?_
        refine AllReadyH.cons rfl (fun K hK => ?_) AllReadyH.nil
        go_simp
        refine (C3.out _ (HB.out.below hB3.out) (HK.out.below hB3.out)).mono ?_
        rintro e w4 ⟨rfl, hb4⟩
        have R04 := R03.below hb4 hg3
        have R14 := R13.below hb4 hq3
        have hB4 : Hid (Below w.heap.size w w4) := below_step hB3.out (Nat.le_refl _) hb4
        have hg4 := R04.lt
        have hq4 := R14.lt
        clear hb4 C3 R03 R13 hB3 hg3 hq3
        refine hK.out _ _ ⟨R04, R14⟩ (fun hHeld => ?_)
        clear hK K
        refine take_at (i := 10) (v := ?_) rfl rfl (by kernel_rfl) (by kernel_rfl) (by kernel_rfl) (fun _ _ _ h => h) (Or.inl ⟨by rfl, ?_⟩) (by assumption) ?_
        rotate_left
        · intro w hSw; (try dsimp only at hSw); go_simp; try with_reducible rfl
        try simp only [Act.put, List.setIfInBounds_toArray, List.set_cons_zero, List.set_cons_succ]
        refine wpAnyH_ready (rs := [11]) (by kernel_rfl) (by simp) ?_
        refine AllReadyH.cons rfl (fun K hK => ?_) AllReadyH.nil
        go_simp
        refine (C4.out _ (HB.out.below hB4.out) (HK.out.below hB4.out)).mono ?_
        rintro e w5 ⟨rfl, hb5⟩
        have R05 := R04.below hb5 hg4
        have R15 := R14.below hb5 hq4
        have hB5 : Hid (Below w.heap.size w w5) := below_step hB4.out (Nat.le_refl _) hb5
        have hg5 := R05.lt
        have hq5 := R15.lt
        clear hb5 C4 R04 R14 hB4 hg4 hq4
        refine hK.out _ _ ⟨R05, R15⟩ (fun hHeld => ?_)
        clear hK K
        refine take_at (i := 12) (v := ?_) rfl rfl (by kernel_rfl) (by kernel_rfl) (by kernel_rfl) (fun _ _ _ h => h) (Or.inl ⟨by rfl, ?_⟩) (by assumption) ?_
        rotate_left
        · intro w hSw; (try dsimp only at hSw); go_simp; try with_reducible rfl
        try simp only [Act.put, List.setIfInBounds_toArray, List.set_cons_zero, List.set_cons_succ]
        refine take_at (i := 13) (v := ?_) rfl rfl (by kernel_rfl) (by kernel_rfl) (by kernel_rfl) (fun _ _ _ h => h) (Or.inl ⟨by rfl, ?_⟩) (by assumption) ?_
        rotate_left
        · intro w hSw; (try dsimp only at hSw); go_simp; try with_reducible rfl
        try simp only [Act.put, List.setIfInBounds_toArray, List.set_cons_zero, List.set_cons_succ]
        refine wpAnyH_ready (rs := [14]) (by kernel_rfl) (by simp) ?_
        refine AllReadyH.cons rfl (fun K hK => ?_) AllReadyH.nil
        go_simp
        refine (jefe_any _ (HB.out.below hB5.out) (HK.out.below hB5.out)).mono ?_
        rintro e w6 ⟨rfl, hb6⟩
        have R06 := R05.below hb6 hg5
        have R16 := R15.below hb6 hq5
        have hB6 : Hid (Below w.heap.size w w6) := below_step hB5.out (Nat.le_refl _) hb6
        clear hb6 R05 R15 hB5 hg5 hq5
        refine hK.out _ _ ⟨R06, R16⟩ (fun hHeld => ?_)
        clear hK K
        refine take_at (i := 15) (v := ?_) rfl rfl (by kernel_rfl) (by kernel_rfl) (by kernel_rfl) (fun _ _ _ h => h) (Or.inl ⟨by rfl, ?_⟩) (by assumption) ?_
        rotate_left
        · intro w hSw; (try dsimp only at hSw); go_simp; try with_reducible rfl
        try simp only [Act.put, List.setIfInBounds_toArray, List.set_cons_zero, List.set_cons_succ]
        refine take_at (i := 16) (v := ?_) rfl rfl (by kernel_rfl) (by kernel_rfl) (by kernel_rfl) (fun _ _ _ h => h) (Or.inl ⟨by rfl, ?_⟩) (by assumption) ?_
        rotate_left
        · intro w hSw; (try dsimp only at hSw); go_simp; try with_reducible rfl
        try simp only [Act.put, List.setIfInBounds_toArray, List.set_cons_zero, List.set_cons_succ]
        refine wpAnyH_done (by kernel_rfl) (NoPanic.normal ?_) _
        go_wp2_with fail
        go_ret
        exact ⟨rfl, hB6.out⟩

set_option maxHeartbeats 4000000 in
theorem hmacParts_walk (key s : ByteArray) (w : World) (hB : GlobB w) (hK : GlobK w) :
    Calls Tryd.prog 6 #[.string key, .string s] w fun e w' => e = .returned (.bool true) ∧ Below w.heap.size w w' := by
  have HB : Hid (GlobB w) := hB
  have HK : Hid (GlobK w) := hK
  clear hB hK
  by_cases h0 : key.size ≤ 64
  · by_cases h1 : s.size ≤ 1024
    · exact hmacParts_short key s w h0 h1 HB.out HK.out
    · have g0 : decide ((64 : Int) < (key.size : Int)) = false := by simp; omega
      have g1 : decide ((1024 : Int) < (s.size : Int)) = true := by simp; omega
      clear h0 h1
      go_enter Tryd.func6, Tryd.ntmps6
      go_wp2_with fail
      refine (jefe_any _ HB.out HK.out).mono ?_
      rintro e w3 ⟨rfl, hb3⟩
      go_wp2_with fail
      go_ret
      exact ⟨rfl, hb3⟩
  · have g0 : decide ((64 : Int) < (key.size : Int)) = true := by simp; omega
    clear h0
    go_enter Tryd.func6, Tryd.ntmps6
    go_wp2_with fail
    refine (jefe_any _ HB.out HK.out).mono ?_
    rintro e w3 ⟨rfl, hb3⟩
    go_wp2_with fail
    go_ret
    exact ⟨rfl, hb3⟩
end Go.Proofs.YtfbgofbjbfidoaaDoor
