/- The program's times. -/
import Derived.Test.YtmegllddjlippaaDoorPyC
namespace Go.Proofs.YtmegllddjlippaaDoor
open Go.RowKit
set_option linter.unusedSimpArgs false

set_option maxRecDepth 100000 in
set_option maxHeartbeats 4000000 in
theorem times_any (a r : Nat) (w : World) (ha : ∀ i, limF a i ≤ 4294967295) (ha4 : limF a 4 ≤ 15) (hr : Clamped r) :
    Calls Tryd.prog 16 #[.agg (v64 (limN a)), .agg (v64 (limN r))] w fun e w' => e = .returned (.agg (v64 (limN (stepR (val5 (prodL a r)))))) ∧ Below w.heap.size w w' := by
  obtain ⟨V, HV⟩ : ∃ V, Hid (V = val5 (prodL a r)) := ⟨_, rfl⟩
  have hV : V < 2 ^ 161 := by rw [HV.out]; exact prod_lt a r ha ha4 hr
  have CF : Hid (∀ w, _) := fun w => folded_any V w (Nat.lt_trans hV (by decide))
  have CC' := fun w => carried_any (prodL a r) w (prodL_length a r) (prodL_small a r ha hr)
  rw [← HV.out] at CC'
  have HM : Hid (∀ i j m, i < 5 → midP (limF a) (limF r) i j m ≤ 7205759403792793600) := fun i j m hi => midP_le _ _ ha hr.1 i j m hi
  have HRs : Hid (∀ i, limF r i ≤ 268435455) := hr.1
  have HT : Hid (∀ i j, termT (limF a) (limF r) i j ≤ 1441151880758558720) := termT_le _ _ ha hr.1
  have HH : Hid (∀ i j, i < 5 → j < 4 → midP (limF a) (limF r) i (j + 1) (posT i j) = midP (limF a) (limF r) i j (posT i j) + termT (limF a) (limF r) i j) := fun i j hi hj => midP_here _ _ i j hi hj
  have HSet : Hid (∀ i j, i < 5 → j < 4 → (tabN 5 (midP (limF a) (limF r) i j)).set (posT i j) (midP (limF a) (limF r) i (j + 1) (posT i j)) = tabN 5 (midP (limF a) (limF r) i (j + 1))) := fun i j hi hj => midP_set _ _ i j hi hj
  rw [← HV.out]
  unfold prodL at CC'
  unfold limN at *
  obtain ⟨A, HA⟩ : ∃ A, Hid (A = limF a) := ⟨_, rfl⟩
  obtain ⟨R, HR⟩ : ∃ R, Hid (R = limF r) := ⟨_, rfl⟩
  rw [← HA.out, ← HR.out] at HM HT HH HSet CC'
  rw [← HR.out] at HRs
  rw [← HA.out, ← HR.out]
  obtain ⟨E, HE⟩ : ∃ E, Hid (E = tabN 5 (limF (stepR V))) := ⟨_, rfl⟩
  obtain ⟨S, HS⟩ : ∃ S, Hid (S = tabN 5 (limF V)) := ⟨_, rfl⟩
  have hE5 : E.length = 5 := by rw [HE.out]; exact tabN_length _ _
  rw [← HE.out] at CF
  rw [← HE.out]
  rw [← HS.out] at CF CC'
  have CC : Hid (∀ w, _) := CC'
  clear CC' HE HS HV hV HA HR ha ha4 hr
  generalize hh : w.heap.size = h at *
  have B0 : Hid (Lim _ h (tabN 5 A)) := ((((Lim.new' w (tabN 5 A) _ h hh rfl).alloc (.cells (v64 (tabN 5 R)) 35)).alloc (.cells (v64 (List.replicate 5 0)) 35)).alloc (.cells (v64 (List.replicate 5 0)) 35))
  have B1 : Hid (Lim _ (h + 1) (tabN 5 R)) := ((Lim.new' (w.alloc (.cells (v64 (tabN 5 A)) 35)) (tabN 5 R) _ (h + 1) (by simp [hh]) rfl).alloc (.cells (v64 (List.replicate 5 0)) 35)).alloc (.cells (v64 (List.replicate 5 0)) 35)
  have B2 : Hid (Lim _ (h + 2) (List.replicate 5 0)) := (Lim.new' ((w.alloc (.cells (v64 (tabN 5 A)) 35)).alloc (.cells (v64 (tabN 5 R)) 35)) (List.replicate 5 0) _ (h + 2) (by simp [hh]) rfl).alloc (.cells (v64 (List.replicate 5 0)) 35)
  have B3 : Hid (Lim _ (h + 3) (List.replicate 5 0)) := Lim.new' (((w.alloc (.cells (v64 (tabN 5 A)) 35)).alloc (.cells (v64 (tabN 5 R)) 35)).alloc (.cells (v64 (List.replicate 5 0)) 35)) (List.replicate 5 0) _ (h + 3) (by simp [hh]) rfl
  have BB : Below h w ((((w.alloc (.cells (v64 (tabN 5 A)) 35)).alloc (.cells (v64 (tabN 5 R)) 35)).alloc (.cells (v64 (List.replicate 5 0)) 35)).alloc (.cells (v64 (List.replicate 5 0)) 35)) := by
    rw [← hh]
    exact (((below_new w _).alloc (by simp) _).alloc (by simp; omega) _).alloc (by simp; omega) _
  go_enter Tryd.func16, Tryd.ntmps16
  go_wp2_with fail
  go_loopw [8] (fun i wr => ∃ k : Nat, k ≤ 5 ∧ i = .int .i64 k ∧ Hid (Lim wr h (tabN 5 A)) ∧ Hid (Lim wr (h + 1) (tabN 5 R)) ∧ Hid (Lim wr (h + 2) (List.replicate 5 0)) ∧ Hid (Lim wr (h + 3) (tabN 5 (rowP A R k))) ∧ Below h w wr) (fun i _ => 5 - (intOf i).toNat)
  case atStart => exact ⟨0, Nat.zero_le _, rfl, B0, B1, B2, B3, BB⟩
  case round =>
    clear B0 B1 B2 B3 BB
    obtain ⟨i, hi5, rfl, A0, A1, A2, A3, hbl⟩ := hrel
    by_cases hi : i < 5
    · have kA : (i : Int) < 5 := by omega
      rw [← midP_zero] at A3
      go_wp2_with fail
      go_loopw [11] (fun j wr => ∃ k : Nat, k ≤ 4 ∧ j = .int .i64 k ∧ Hid (Lim wr h (tabN 5 A)) ∧ Hid (Lim wr (h + 1) (tabN 5 R)) ∧ Hid (Lim wr (h + 2) (List.replicate 5 0)) ∧ Hid (Lim wr (h + 3) (tabN 5 (midP A R i k))) ∧ Below h w wr) (fun j _ => 4 - (intOf j).toNat)
      case atStart => exact ⟨0, Nat.zero_le _, rfl, A0, A1, A2, A3, hbl⟩
      case round =>
        clear A0 A1 A2 A3 hbl
        obtain ⟨j, hj4, rfl, A0, A1, A2, A3, hbl⟩ := hrel
        by_cases hj : j < 4
        · by_cases hc : i + j < 4
          · have hor : i + j < 4 ∨ j = 0 := Or.inl hc
            have hp : posT i j = i + j := by unfold posT; rw [if_pos hor]
            have ht : termT A R i j = A i * R j := by unfold termT; rw [if_pos hor]
            have hp5 : posT i j < 5 := posT_lt ⟨i, hi⟩ ⟨j, hj⟩
            have cP := A3.out.cell (posT i j) (by rw [tabN_length]; exact hp5)
            rw [tabN_getD _ _ _ hp5] at cP
            have fP := A3.out.free (posT i j)
            have cA := A0.out.cell i (by rw [tabN_length]; exact hi)
            rw [tabN_getD _ _ _ hi] at cA
            have cR := A1.out.cell j (by rw [tabN_length]; omega)
            rw [tabN_getD _ _ _ (by omega)] at cR
            have lP := HM.out i j (posT i j) hi
            have hst := HH.out i j hi hj
            have lT := HT.out i j
            obtain ⟨Z, hZ⟩ : ∃ Z, Z = midP A R i (j + 1) (posT i j) := ⟨_, rfl⟩
            have hset := HSet.out i j hi hj
            rw [← hZ] at hset hst
            obtain ⟨w1, hw1⟩ : ∃ v, Hid (v = wr.setCell ⟨h + 3, posT i j, none⟩ (.int .u64 (Z : Int))) := ⟨_, rfl⟩
            have N0 : Hid (Lim w1 h (tabN 5 A)) := by rw [hw1.out]; exact A0.out.other _ (by simp) _
            have N1 : Hid (Lim w1 (h + 1) (tabN 5 R)) := by rw [hw1.out]; exact A1.out.other _ (by simp) _
            have N2 : Hid (Lim w1 (h + 2) (List.replicate 5 0)) := by rw [hw1.out]; exact A2.out.other _ (by simp) _
            have N3 : Hid (Lim w1 (h + 3) (tabN 5 (midP A R i (j + 1)))) := by rw [hw1.out, ← hset]; exact A3.out.set _ Z
            have NB : Below h w w1 := by rw [hw1.out]; exact hbl.setCell (p := ⟨h + 3, posT i j, none⟩) (by simp) _
            have SS : Hid ((wr.setCell ⟨h + 3, posT i j, none⟩ (.int .u64 (Z : Int))).cell? ⟨h, i, none⟩ = some (.int .u64 ((A i : Nat) : Int)) ∧ (wr.setCell ⟨h + 3, posT i j, none⟩ (.int .u64 (Z : Int))).cell? ⟨h + 1, j, none⟩ = some (.int .u64 ((R j : Nat) : Int))) :=
              ⟨by rw [World.cell?_setCell_far _ _ _ _ (by simp)]; exact cA, by rw [World.cell?_setCell_far _ _ _ _ (by simp)]; exact cR⟩
            clear hset A0 A1 A2 A3 hbl hZ
            rw [ht] at hst lT
            rw [hp] at *
            generalize midP A R i j (i + j) = X at *
            generalize A i = a0 at *
            generalize R j = r0 at *
            have VM : IntKind.u64.wrap ((a0 : Int) * (r0 : Int)) = ((a0 * r0 : Nat) : Int) := by rw [← Int.natCast_mul, u64_small _ (by omega) (by omega)]
            generalize a0 * r0 = T at *
            have VN : Hid (IntKind.u64.wrap ((X : Int) + (T : Int)) = (Z : Int)) := by show _ = _; rw [u64_small _ (by omega) (by omega)]; omega
            have VI : IntKind.i64.wrap ((i : Int) + (j : Int)) = (i : Int) + (j : Int) := i64_small _ (by omega) (by omega)
            have t1 : ((i : Int) + (j : Int)).toNat = i + j := by omega
            have t2 : (0 : Int) ≤ (i : Int) + (j : Int) := by omega
            have t3 : (i : Int) + (j : Int) < 5 := by omega
            have t4 : (i : Int) < 5 := by omega
            have t5 : (j : Int) < 4 := by omega
            have t6 : (j : Int) < 5 := by omega
            clear hst lT lP hor hp ht
            have g1 : decide ((i : Int) + (j : Int) < 4) = true := by simp; omega
            go_wp2_with fail
            refine wp_region_noPanic ?_
            refine wp_region_held_drew (S := fun w' => w'.cell? ⟨h, i, none⟩ = some (.int .u64 (a0 : Int)) ∧ w'.cell? ⟨h + 1, j, none⟩ = some (.int .u64 (r0 : Int))) (by kernel_rfl) (by first | exact trivial | assumption | exact ⟨by assumption, by assumption⟩) (fun hHeld => ?_)
            refine take_at (i := 0) (v := ?_) rfl rfl (by kernel_rfl) (by kernel_rfl) (by kernel_rfl) (fun _ _ _ h => h) (Or.inl ⟨by rfl, ?_⟩) (by assumption) ?_
            rotate_left
            · intro w hSw; (try dsimp only at hSw); go_simp; try with_reducible rfl
            try simp only [Act.put, List.setIfInBounds_toArray, List.set_cons_zero, List.set_cons_succ]
            refine take_at (i := 1) (v := ?_) rfl rfl (by kernel_rfl) (by kernel_rfl) (by kernel_rfl) (fun _ _ _ h => h) (Or.inl ⟨by rfl, ?_⟩) (by assumption) ?_
            rotate_left
            · intro w hSw; (try dsimp only at hSw); go_simp; try with_reducible rfl
            try simp only [Act.put, List.setIfInBounds_toArray, List.set_cons_zero, List.set_cons_succ]
            refine take_at (i := 2) (v := ?_) rfl rfl (by kernel_rfl) (by kernel_rfl) (by kernel_rfl) (fun _ _ _ h => h) (Or.inl ⟨by rfl, ?_⟩) (by assumption) ?_
            rotate_left
            · intro w hSw; (try dsimp only at hSw); go_simp; try with_reducible rfl
            try simp only [Act.put, List.setIfInBounds_toArray, List.set_cons_zero, List.set_cons_succ]
            refine take_at (i := 3) (v := ?_) rfl rfl (by kernel_rfl) (by kernel_rfl) (by kernel_rfl) (fun _ _ _ h => h) (Or.inl ⟨by rfl, ?_⟩) (by assumption) ?_
            rotate_left
            · intro w hSw; (try dsimp only at hSw); go_simp; try with_reducible rfl
            try simp only [Act.put, List.setIfInBounds_toArray, List.set_cons_zero, List.set_cons_succ]
            refine take_at (i := 5) (v := ?_) rfl rfl (by kernel_rfl) (by kernel_rfl) (by kernel_rfl) (fun _ _ _ h => h) (Or.inl ⟨by rfl, ?_⟩) (by assumption) ?_
            rotate_left
            · intro w hSw; (try dsimp only at hSw); go_simp; try with_reducible rfl
            try simp only [Act.put, List.setIfInBounds_toArray, List.set_cons_zero, List.set_cons_succ]
            refine take_at (i := 6) (v := ?_) rfl rfl (by kernel_rfl) (by kernel_rfl) (by kernel_rfl) (fun _ _ _ h => h) (Or.inl ⟨by rfl, ?_⟩) (by assumption) ?_
            rotate_left
            · intro w hSw; (try dsimp only at hSw); go_simp; try with_reducible rfl
            try simp only [Act.put, List.setIfInBounds_toArray, List.set_cons_zero, List.set_cons_succ]
            refine take_at (i := 7) (v := ?_) rfl rfl (by kernel_rfl) (by kernel_rfl) (by kernel_rfl) (fun _ _ _ h => h) (Or.inl ⟨by rfl, ?_⟩) (by assumption) ?_
            rotate_left
            · intro w hSw; (try dsimp only at hSw); go_simp; try with_reducible rfl
            try simp only [Act.put, List.setIfInBounds_toArray, List.set_cons_zero, List.set_cons_succ]
            refine take_at (i := 8) (v := ?_) rfl rfl (by kernel_rfl) (by kernel_rfl) (by kernel_rfl) (fun _ _ _ h => h) (Or.inl ⟨by rfl, ?_⟩) (by assumption) ?_
            rotate_left
            · intro w hSw; (try dsimp only at hSw); go_simp; try with_reducible rfl
            try simp only [Act.put, List.setIfInBounds_toArray, List.set_cons_zero, List.set_cons_succ]
            refine take_at (i := 9) (v := ?_) rfl rfl (by kernel_rfl) (by kernel_rfl) (by kernel_rfl) (fun _ _ _ h => h) (Or.inl ⟨by rfl, ?_⟩) (by assumption) ?_
            rotate_left
            · intro w hSw; (try dsimp only at hSw); go_simp; try with_reducible rfl
            try simp only [Act.put, List.setIfInBounds_toArray, List.set_cons_zero, List.set_cons_succ]
            refine take_at (i := 10) (v := ?_) rfl rfl (by kernel_rfl) (by kernel_rfl) (by kernel_rfl) (fun _ _ _ h => h) (Or.inl ⟨by rfl, ?_⟩) (by assumption) ?_
            rotate_left
            · intro w hSw; (try dsimp only at hSw); go_simp; try with_reducible rfl
            try simp only [Act.put, List.setIfInBounds_toArray, List.set_cons_zero, List.set_cons_succ]
            refine take_at (i := 11) (v := ?_) rfl rfl (by kernel_rfl) (by kernel_rfl) (by kernel_rfl) (fun _ _ _ h => h) (Or.inl ⟨by rfl, ?_⟩) (by assumption) ?_
            rotate_left
            · intro w hSw; (try dsimp only at hSw); go_simp; try with_reducible rfl
            try simp only [Act.put, List.setIfInBounds_toArray, List.set_cons_zero, List.set_cons_succ]
            refine wpAnyH_ready (rs := [4]) (by kernel_rfl) (by simp) ?_
            refine AllReadyH.cons rfl (fun K hK => ?_) AllReadyH.nil
            go_simp
            refine hK.out _ _ (by assumption) (fun hHeld => ?_)
            clear hK K
            refine take_at (i := 12) (v := ?_) rfl rfl (by kernel_rfl) (by kernel_rfl) (by kernel_rfl) (fun _ _ _ h => h) (Or.inl ⟨by rfl, ?_⟩) (by assumption) ?_
            rotate_left
            · intro w hSw; (try dsimp only at hSw); go_simp; try with_reducible rfl
            try simp only [Act.put, List.setIfInBounds_toArray, List.set_cons_zero, List.set_cons_succ]
            refine take_at (i := 13) (v := ?_) rfl rfl (by kernel_rfl) (by kernel_rfl) (by kernel_rfl) (fun _ _ _ h => h) (Or.inl ⟨by rfl, ?_⟩) (by assumption) ?_
            rotate_left
            · intro w hSw; (try dsimp only at hSw); go_simp; try with_reducible rfl
            try simp only [Act.put, List.setIfInBounds_toArray, List.set_cons_zero, List.set_cons_succ]
            refine wpAnyH_ready (rs := [14]) (by kernel_rfl) (by simp) ?_
            refine AllReadyH.cons rfl (fun K hK => ?_) AllReadyH.nil
            go_simp
            rw [VN.out]
            refine hK.out _ _ SS.out (fun hHeld => ?_)
            clear hK K
            refine wpAnyH_done (by kernel_rfl) (NoPanic.normal ?_) _
            rw [← hw1.out]
            clear cA cR cP fP VN SS hw1
            go_wp2
            go_roundw
            case rel => exact ⟨j + 1, by omega, by go_num, N0, N1, N2, N3, NB.drew⟩
            case measure => simp [intOf]; omega
          · by_cases hj0 : j = 0
            · have hor : i + j < 4 ∨ j = 0 := Or.inr hj0
              have hp : posT i j = i + j := by unfold posT; rw [if_pos hor]
              have ht : termT A R i j = A i * R j := by unfold termT; rw [if_pos hor]
              have hp5 : posT i j < 5 := posT_lt ⟨i, hi⟩ ⟨j, hj⟩
              have cP := A3.out.cell (posT i j) (by rw [tabN_length]; exact hp5)
              rw [tabN_getD _ _ _ hp5] at cP
              have fP := A3.out.free (posT i j)
              have cA := A0.out.cell i (by rw [tabN_length]; exact hi)
              rw [tabN_getD _ _ _ hi] at cA
              have cR := A1.out.cell j (by rw [tabN_length]; omega)
              rw [tabN_getD _ _ _ (by omega)] at cR
              have lP := HM.out i j (posT i j) hi
              have hst := HH.out i j hi hj
              have lT := HT.out i j
              obtain ⟨Z, hZ⟩ : ∃ Z, Z = midP A R i (j + 1) (posT i j) := ⟨_, rfl⟩
              have hset := HSet.out i j hi hj
              rw [← hZ] at hset hst
              obtain ⟨w1, hw1⟩ : ∃ v, Hid (v = wr.setCell ⟨h + 3, posT i j, none⟩ (.int .u64 (Z : Int))) := ⟨_, rfl⟩
              have N0 : Hid (Lim w1 h (tabN 5 A)) := by rw [hw1.out]; exact A0.out.other _ (by simp) _
              have N1 : Hid (Lim w1 (h + 1) (tabN 5 R)) := by rw [hw1.out]; exact A1.out.other _ (by simp) _
              have N2 : Hid (Lim w1 (h + 2) (List.replicate 5 0)) := by rw [hw1.out]; exact A2.out.other _ (by simp) _
              have N3 : Hid (Lim w1 (h + 3) (tabN 5 (midP A R i (j + 1)))) := by rw [hw1.out, ← hset]; exact A3.out.set _ Z
              have NB : Below h w w1 := by rw [hw1.out]; exact hbl.setCell (p := ⟨h + 3, posT i j, none⟩) (by simp) _
              have SS : Hid ((wr.setCell ⟨h + 3, posT i j, none⟩ (.int .u64 (Z : Int))).cell? ⟨h, i, none⟩ = some (.int .u64 ((A i : Nat) : Int)) ∧ (wr.setCell ⟨h + 3, posT i j, none⟩ (.int .u64 (Z : Int))).cell? ⟨h + 1, j, none⟩ = some (.int .u64 ((R j : Nat) : Int))) :=
                ⟨by rw [World.cell?_setCell_far _ _ _ _ (by simp)]; exact cA, by rw [World.cell?_setCell_far _ _ _ _ (by simp)]; exact cR⟩
              clear hset A0 A1 A2 A3 hbl hZ
              rw [ht] at hst lT
              rw [hp] at *
              generalize midP A R i j (i + j) = X at *
              generalize A i = a0 at *
              generalize R j = r0 at *
              have VM : IntKind.u64.wrap ((a0 : Int) * (r0 : Int)) = ((a0 * r0 : Nat) : Int) := by rw [← Int.natCast_mul, u64_small _ (by omega) (by omega)]
              generalize a0 * r0 = T at *
              have VN : Hid (IntKind.u64.wrap ((X : Int) + (T : Int)) = (Z : Int)) := by show _ = _; rw [u64_small _ (by omega) (by omega)]; omega
              have VI : IntKind.i64.wrap ((i : Int) + (j : Int)) = (i : Int) + (j : Int) := i64_small _ (by omega) (by omega)
              have t1 : ((i : Int) + (j : Int)).toNat = i + j := by omega
              have t2 : (0 : Int) ≤ (i : Int) + (j : Int) := by omega
              have t3 : (i : Int) + (j : Int) < 5 := by omega
              have t4 : (i : Int) < 5 := by omega
              have t5 : (j : Int) < 4 := by omega
              have t6 : (j : Int) < 5 := by omega
              clear hst lT lP hor hp ht
              have g1 : decide ((i : Int) + (j : Int) < 4) = false := by simp; omega
              have g2 : ((j : Int) == 0) = true := by simp; exact hj0
              clear hj0 hc
              go_wp2_with fail
              refine wp_region_noPanic ?_
              refine wp_region_held_drew (S := fun w' => w'.cell? ⟨h, i, none⟩ = some (.int .u64 (a0 : Int)) ∧ w'.cell? ⟨h + 1, j, none⟩ = some (.int .u64 (r0 : Int))) (by kernel_rfl) (by first | exact trivial | assumption | exact ⟨by assumption, by assumption⟩) (fun hHeld => ?_)
              refine take_at (i := 0) (v := ?_) rfl rfl (by kernel_rfl) (by kernel_rfl) (by kernel_rfl) (fun _ _ _ h => h) (Or.inl ⟨by rfl, ?_⟩) (by assumption) ?_
              rotate_left
              · intro w hSw; (try dsimp only at hSw); go_simp; try with_reducible rfl
              try simp only [Act.put, List.setIfInBounds_toArray, List.set_cons_zero, List.set_cons_succ]
              refine take_at (i := 1) (v := ?_) rfl rfl (by kernel_rfl) (by kernel_rfl) (by kernel_rfl) (fun _ _ _ h => h) (Or.inl ⟨by rfl, ?_⟩) (by assumption) ?_
              rotate_left
              · intro w hSw; (try dsimp only at hSw); go_simp; try with_reducible rfl
              try simp only [Act.put, List.setIfInBounds_toArray, List.set_cons_zero, List.set_cons_succ]
              refine take_at (i := 2) (v := ?_) rfl rfl (by kernel_rfl) (by kernel_rfl) (by kernel_rfl) (fun _ _ _ h => h) (Or.inl ⟨by rfl, ?_⟩) (by assumption) ?_
              rotate_left
              · intro w hSw; (try dsimp only at hSw); go_simp; try with_reducible rfl
              try simp only [Act.put, List.setIfInBounds_toArray, List.set_cons_zero, List.set_cons_succ]
              refine take_at (i := 3) (v := ?_) rfl rfl (by kernel_rfl) (by kernel_rfl) (by kernel_rfl) (fun _ _ _ h => h) (Or.inl ⟨by rfl, ?_⟩) (by assumption) ?_
              rotate_left
              · intro w hSw; (try dsimp only at hSw); go_simp; try with_reducible rfl
              try simp only [Act.put, List.setIfInBounds_toArray, List.set_cons_zero, List.set_cons_succ]
              refine take_at (i := 5) (v := ?_) rfl rfl (by kernel_rfl) (by kernel_rfl) (by kernel_rfl) (fun _ _ _ h => h) (Or.inl ⟨by rfl, ?_⟩) (by assumption) ?_
              rotate_left
              · intro w hSw; (try dsimp only at hSw); go_simp; try with_reducible rfl
              try simp only [Act.put, List.setIfInBounds_toArray, List.set_cons_zero, List.set_cons_succ]
              refine take_at (i := 6) (v := ?_) rfl rfl (by kernel_rfl) (by kernel_rfl) (by kernel_rfl) (fun _ _ _ h => h) (Or.inl ⟨by rfl, ?_⟩) (by assumption) ?_
              rotate_left
              · intro w hSw; (try dsimp only at hSw); go_simp; try with_reducible rfl
              try simp only [Act.put, List.setIfInBounds_toArray, List.set_cons_zero, List.set_cons_succ]
              refine take_at (i := 7) (v := ?_) rfl rfl (by kernel_rfl) (by kernel_rfl) (by kernel_rfl) (fun _ _ _ h => h) (Or.inl ⟨by rfl, ?_⟩) (by assumption) ?_
              rotate_left
              · intro w hSw; (try dsimp only at hSw); go_simp; try with_reducible rfl
              try simp only [Act.put, List.setIfInBounds_toArray, List.set_cons_zero, List.set_cons_succ]
              refine take_at (i := 8) (v := ?_) rfl rfl (by kernel_rfl) (by kernel_rfl) (by kernel_rfl) (fun _ _ _ h => h) (Or.inl ⟨by rfl, ?_⟩) (by assumption) ?_
              rotate_left
              · intro w hSw; (try dsimp only at hSw); go_simp; try with_reducible rfl
              try simp only [Act.put, List.setIfInBounds_toArray, List.set_cons_zero, List.set_cons_succ]
              refine take_at (i := 9) (v := ?_) rfl rfl (by kernel_rfl) (by kernel_rfl) (by kernel_rfl) (fun _ _ _ h => h) (Or.inl ⟨by rfl, ?_⟩) (by assumption) ?_
              rotate_left
              · intro w hSw; (try dsimp only at hSw); go_simp; try with_reducible rfl
              try simp only [Act.put, List.setIfInBounds_toArray, List.set_cons_zero, List.set_cons_succ]
              refine take_at (i := 10) (v := ?_) rfl rfl (by kernel_rfl) (by kernel_rfl) (by kernel_rfl) (fun _ _ _ h => h) (Or.inl ⟨by rfl, ?_⟩) (by assumption) ?_
              rotate_left
              · intro w hSw; (try dsimp only at hSw); go_simp; try with_reducible rfl
              try simp only [Act.put, List.setIfInBounds_toArray, List.set_cons_zero, List.set_cons_succ]
              refine take_at (i := 11) (v := ?_) rfl rfl (by kernel_rfl) (by kernel_rfl) (by kernel_rfl) (fun _ _ _ h => h) (Or.inl ⟨by rfl, ?_⟩) (by assumption) ?_
              rotate_left
              · intro w hSw; (try dsimp only at hSw); go_simp; try with_reducible rfl
              try simp only [Act.put, List.setIfInBounds_toArray, List.set_cons_zero, List.set_cons_succ]
              refine wpAnyH_ready (rs := [4]) (by kernel_rfl) (by simp) ?_
              refine AllReadyH.cons rfl (fun K hK => ?_) AllReadyH.nil
              go_simp
              refine hK.out _ _ (by assumption) (fun hHeld => ?_)
              clear hK K
              refine take_at (i := 12) (v := ?_) rfl rfl (by kernel_rfl) (by kernel_rfl) (by kernel_rfl) (fun _ _ _ h => h) (Or.inl ⟨by rfl, ?_⟩) (by assumption) ?_
              rotate_left
              · intro w hSw; (try dsimp only at hSw); go_simp; try with_reducible rfl
              try simp only [Act.put, List.setIfInBounds_toArray, List.set_cons_zero, List.set_cons_succ]
              refine take_at (i := 13) (v := ?_) rfl rfl (by kernel_rfl) (by kernel_rfl) (by kernel_rfl) (fun _ _ _ h => h) (Or.inl ⟨by rfl, ?_⟩) (by assumption) ?_
              rotate_left
              · intro w hSw; (try dsimp only at hSw); go_simp; try with_reducible rfl
              try simp only [Act.put, List.setIfInBounds_toArray, List.set_cons_zero, List.set_cons_succ]
              refine wpAnyH_ready (rs := [14]) (by kernel_rfl) (by simp) ?_
              refine AllReadyH.cons rfl (fun K hK => ?_) AllReadyH.nil
              go_simp
              rw [VN.out]
              refine hK.out _ _ SS.out (fun hHeld => ?_)
              clear hK K
              refine wpAnyH_done (by kernel_rfl) (NoPanic.normal ?_) _
              rw [← hw1.out]
              clear cA cR cP fP VN SS hw1
              go_wp2
              go_roundw
              case rel => exact ⟨j + 1, by omega, by go_num, N0, N1, N2, N3, NB.drew⟩
              case measure => simp [intOf]; omega
            · have hne := hj0
              have hnor : ¬ (i + j < 4 ∨ j = 0) := by omega
              have hp : posT i j = i + j - 4 := by unfold posT; rw [if_neg hnor]
              have ht : termT A R i j = A i * (R j / 4 * 5) := by unfold termT; rw [if_neg hnor]
              have hp5 : posT i j < 5 := posT_lt ⟨i, hi⟩ ⟨j, hj⟩
              have cP := A3.out.cell (posT i j) (by rw [tabN_length]; exact hp5)
              rw [tabN_getD _ _ _ hp5] at cP
              have fP := A3.out.free (posT i j)
              have cA := A0.out.cell i (by rw [tabN_length]; exact hi)
              rw [tabN_getD _ _ _ hi] at cA
              have cR := A1.out.cell j (by rw [tabN_length]; omega)
              rw [tabN_getD _ _ _ (by omega)] at cR
              have lP := HM.out i j (posT i j) hi
              have hst := HH.out i j hi hj
              have lT := HT.out i j
              obtain ⟨Z, hZ⟩ : ∃ Z, Z = midP A R i (j + 1) (posT i j) := ⟨_, rfl⟩
              have hset := HSet.out i j hi hj
              rw [← hZ] at hset hst
              obtain ⟨w1, hw1⟩ : ∃ v, Hid (v = wr.setCell ⟨h + 3, posT i j, none⟩ (.int .u64 (Z : Int))) := ⟨_, rfl⟩
              have N0 : Hid (Lim w1 h (tabN 5 A)) := by rw [hw1.out]; exact A0.out.other _ (by simp) _
              have N1 : Hid (Lim w1 (h + 1) (tabN 5 R)) := by rw [hw1.out]; exact A1.out.other _ (by simp) _
              have N2 : Hid (Lim w1 (h + 2) (List.replicate 5 0)) := by rw [hw1.out]; exact A2.out.other _ (by simp) _
              have N3 : Hid (Lim w1 (h + 3) (tabN 5 (midP A R i (j + 1)))) := by rw [hw1.out, ← hset]; exact A3.out.set _ Z
              have NB : Below h w w1 := by rw [hw1.out]; exact hbl.setCell (p := ⟨h + 3, posT i j, none⟩) (by simp) _
              have SS : Hid ((wr.setCell ⟨h + 3, posT i j, none⟩ (.int .u64 (Z : Int))).cell? ⟨h, i, none⟩ = some (.int .u64 ((A i : Nat) : Int)) ∧ (wr.setCell ⟨h + 3, posT i j, none⟩ (.int .u64 (Z : Int))).cell? ⟨h + 1, j, none⟩ = some (.int .u64 ((R j : Nat) : Int))) :=
                ⟨by rw [World.cell?_setCell_far _ _ _ _ (by simp)]; exact cA, by rw [World.cell?_setCell_far _ _ _ _ (by simp)]; exact cR⟩
              clear hset A0 A1 A2 A3 hbl hZ
              rw [ht] at hst lT
              rw [hp] at *
              generalize midP A R i j (i + j - 4) = X at *
              have lR := HRs.out j
              generalize A i = a0 at *
              generalize R j = r0 at *
              have V1 : IntKind.u64.wrap ((r0 : Int) / 4) = ((r0 / 4 : Nat) : Int) := by rw [u64_small _ (by omega) (by omega)]; omega
              have V2 : IntKind.u64.wrap (((r0 / 4 : Nat) : Int) * 5) = ((r0 / 4 * 5 : Nat) : Int) := by rw [u64_small _ (by omega) (by omega)]; omega
              have V3 : IntKind.u64.wrap ((a0 : Int) * ((r0 / 4 * 5 : Nat) : Int)) = ((a0 * (r0 / 4 * 5) : Nat) : Int) := by rw [← Int.natCast_mul, u64_small _ (by omega) (by omega)]
              generalize a0 * (r0 / 4 * 5) = T at *
              generalize r0 / 4 * 5 = F at *
              generalize hQ : r0 / 4 = Q at *
              have VN : Hid (IntKind.u64.wrap ((X : Int) + (T : Int)) = (Z : Int)) := by show _ = _; rw [u64_small _ (by omega) (by omega)]; omega
              have VI : IntKind.i64.wrap ((i : Int) + (j : Int)) = (i : Int) + (j : Int) := i64_small _ (by omega) (by omega)
              have VJ : IntKind.i64.wrap ((i : Int) + (j : Int) - 4) = (i : Int) + (j : Int) - 4 := i64_small _ (by omega) (by omega)
              have t1 : ((i : Int) + (j : Int) - 4).toNat = i + j - 4 := by omega
              have t2 : (0 : Int) ≤ (i : Int) + (j : Int) - 4 := by omega
              have t3 : (i : Int) + (j : Int) - 4 < 5 := by omega
              have t7 : (4 : Int) ≤ (i : Int) + (j : Int) := by omega
              have t4 : (i : Int) < 5 := by omega
              have t5 : (j : Int) < 4 := by omega
              have t6 : (j : Int) < 5 := by omega
              have g1 : decide ((i : Int) + (j : Int) < 4) = false := by simp; omega
              have g2 : ((j : Int) == 0) = false := by rw [beq_eq_false_iff_ne]; omega
              clear hst lT lP hnor hp ht hQ hj0 hne hc lR
              go_wp2_with fail
              refine wp_region_noPanic ?_
              refine wp_region_held_drew (S := fun w' => w'.cell? ⟨h, i, none⟩ = some (.int .u64 (a0 : Int)) ∧ w'.cell? ⟨h + 1, j, none⟩ = some (.int .u64 (r0 : Int))) (by kernel_rfl) (by first | exact trivial | assumption | exact ⟨by assumption, by assumption⟩) (fun hHeld => ?_)
              refine take_at (i := 0) (v := ?_) rfl rfl (by kernel_rfl) (by kernel_rfl) (by kernel_rfl) (fun _ _ _ h => h) (Or.inl ⟨by rfl, ?_⟩) (by assumption) ?_
              rotate_left
              · intro w hSw; (try dsimp only at hSw); go_simp; try with_reducible rfl
              try simp only [Act.put, List.setIfInBounds_toArray, List.set_cons_zero, List.set_cons_succ]
              refine take_at (i := 1) (v := ?_) rfl rfl (by kernel_rfl) (by kernel_rfl) (by kernel_rfl) (fun _ _ _ h => h) (Or.inl ⟨by rfl, ?_⟩) (by assumption) ?_
              rotate_left
              · intro w hSw; (try dsimp only at hSw); go_simp; try with_reducible rfl
              try simp only [Act.put, List.setIfInBounds_toArray, List.set_cons_zero, List.set_cons_succ]
              refine take_at (i := 2) (v := ?_) rfl rfl (by kernel_rfl) (by kernel_rfl) (by kernel_rfl) (fun _ _ _ h => h) (Or.inl ⟨by rfl, ?_⟩) (by assumption) ?_
              rotate_left
              · intro w hSw; (try dsimp only at hSw); go_simp; try with_reducible rfl
              try simp only [Act.put, List.setIfInBounds_toArray, List.set_cons_zero, List.set_cons_succ]
              refine take_at (i := 3) (v := ?_) rfl rfl (by kernel_rfl) (by kernel_rfl) (by kernel_rfl) (fun _ _ _ h => h) (Or.inl ⟨by rfl, ?_⟩) (by assumption) ?_
              rotate_left
              · intro w hSw; (try dsimp only at hSw); go_simp; try with_reducible rfl
              try simp only [Act.put, List.setIfInBounds_toArray, List.set_cons_zero, List.set_cons_succ]
              refine take_at (i := 4) (v := ?_) rfl rfl (by kernel_rfl) (by kernel_rfl) (by kernel_rfl) (fun _ _ _ h => h) (Or.inl ⟨by rfl, ?_⟩) (by assumption) ?_
              rotate_left
              · intro w hSw; (try dsimp only at hSw); go_simp; try with_reducible rfl
              try simp only [Act.put, List.setIfInBounds_toArray, List.set_cons_zero, List.set_cons_succ]
              refine take_at (i := 6) (v := ?_) rfl rfl (by kernel_rfl) (by kernel_rfl) (by kernel_rfl) (fun _ _ _ h => h) (Or.inl ⟨by rfl, ?_⟩) (by assumption) ?_
              rotate_left
              · intro w hSw; (try dsimp only at hSw); go_simp; try with_reducible rfl
              try simp only [Act.put, List.setIfInBounds_toArray, List.set_cons_zero, List.set_cons_succ]
              refine take_at (i := 7) (v := ?_) rfl rfl (by kernel_rfl) (by kernel_rfl) (by kernel_rfl) (fun _ _ _ h => h) (Or.inl ⟨by rfl, ?_⟩) (by assumption) ?_
              rotate_left
              · intro w hSw; (try dsimp only at hSw); go_simp; try with_reducible rfl
              try simp only [Act.put, List.setIfInBounds_toArray, List.set_cons_zero, List.set_cons_succ]
              refine take_at (i := 8) (v := ?_) rfl rfl (by kernel_rfl) (by kernel_rfl) (by kernel_rfl) (fun _ _ _ h => h) (Or.inl ⟨by rfl, ?_⟩) (by assumption) ?_
              rotate_left
              · intro w hSw; (try dsimp only at hSw); go_simp; try with_reducible rfl
              try simp only [Act.put, List.setIfInBounds_toArray, List.set_cons_zero, List.set_cons_succ]
              refine take_at (i := 9) (v := ?_) rfl rfl (by kernel_rfl) (by kernel_rfl) (by kernel_rfl) (fun _ _ _ h => h) (Or.inl ⟨by rfl, ?_⟩) (by assumption) ?_
              rotate_left
              · intro w hSw; (try dsimp only at hSw); go_simp; try with_reducible rfl
              try simp only [Act.put, List.setIfInBounds_toArray, List.set_cons_zero, List.set_cons_succ]
              refine take_at (i := 10) (v := ?_) rfl rfl (by kernel_rfl) (by kernel_rfl) (by kernel_rfl) (fun _ _ _ h => h) (Or.inl ⟨by rfl, ?_⟩) (by assumption) ?_
              rotate_left
              · intro w hSw; (try dsimp only at hSw); go_simp; try with_reducible rfl
              try simp only [Act.put, List.setIfInBounds_toArray, List.set_cons_zero, List.set_cons_succ]
              refine take_at (i := 11) (v := ?_) rfl rfl (by kernel_rfl) (by kernel_rfl) (by kernel_rfl) (fun _ _ _ h => h) (Or.inl ⟨by rfl, ?_⟩) (by assumption) ?_
              rotate_left
              · intro w hSw; (try dsimp only at hSw); go_simp; try with_reducible rfl
              try simp only [Act.put, List.setIfInBounds_toArray, List.set_cons_zero, List.set_cons_succ]
              refine take_at (i := 12) (v := ?_) rfl rfl (by kernel_rfl) (by kernel_rfl) (by kernel_rfl) (fun _ _ _ h => h) (Or.inl ⟨by rfl, ?_⟩) (by assumption) ?_
              rotate_left
              · intro w hSw; (try dsimp only at hSw); go_simp; try with_reducible rfl
              try simp only [Act.put, List.setIfInBounds_toArray, List.set_cons_zero, List.set_cons_succ]
              refine take_at (i := 13) (v := ?_) rfl rfl (by kernel_rfl) (by kernel_rfl) (by kernel_rfl) (fun _ _ _ h => h) (Or.inl ⟨by rfl, ?_⟩) (by assumption) ?_
              rotate_left
              · intro w hSw; (try dsimp only at hSw); go_simp; try with_reducible rfl
              try simp only [Act.put, List.setIfInBounds_toArray, List.set_cons_zero, List.set_cons_succ]
              refine take_at (i := 14) (v := ?_) rfl rfl (by kernel_rfl) (by kernel_rfl) (by kernel_rfl) (fun _ _ _ h => h) (Or.inl ⟨by rfl, ?_⟩) (by assumption) ?_
              rotate_left
              · intro w hSw; (try dsimp only at hSw); go_simp; try with_reducible rfl
              try simp only [Act.put, List.setIfInBounds_toArray, List.set_cons_zero, List.set_cons_succ]
              refine wpAnyH_ready (rs := [5]) (by kernel_rfl) (by simp) ?_
              refine AllReadyH.cons rfl (fun K hK => ?_) AllReadyH.nil
              go_simp
              refine hK.out _ _ (by assumption) (fun hHeld => ?_)
              clear hK K
              refine take_at (i := 15) (v := ?_) rfl rfl (by kernel_rfl) (by kernel_rfl) (by kernel_rfl) (fun _ _ _ h => h) (Or.inl ⟨by rfl, ?_⟩) (by assumption) ?_
              rotate_left
              · intro w hSw; (try dsimp only at hSw); go_simp; try with_reducible rfl
              try simp only [Act.put, List.setIfInBounds_toArray, List.set_cons_zero, List.set_cons_succ]
              refine take_at (i := 16) (v := ?_) rfl rfl (by kernel_rfl) (by kernel_rfl) (by kernel_rfl) (fun _ _ _ h => h) (Or.inl ⟨by rfl, ?_⟩) (by assumption) ?_
              rotate_left
              · intro w hSw; (try dsimp only at hSw); go_simp; try with_reducible rfl
              try simp only [Act.put, List.setIfInBounds_toArray, List.set_cons_zero, List.set_cons_succ]
              refine wpAnyH_ready (rs := [17]) (by kernel_rfl) (by simp) ?_
              refine AllReadyH.cons rfl (fun K hK => ?_) AllReadyH.nil
              go_simp
              rw [VN.out]
              refine hK.out _ _ SS.out (fun hHeld => ?_)
              clear hK K
              refine wpAnyH_done (by kernel_rfl) (NoPanic.normal ?_) _
              rw [← hw1.out]
              clear cA cR cP fP VN SS hw1
              go_wp2
              go_roundw
              case rel => exact ⟨j + 1, by omega, by go_num, N0, N1, N2, N3, NB.drew⟩
              case measure => simp [intOf]; omega
        · have hk' : j = 4 := by omega
          subst hk'
          rw [midP_all] at A3
          go_wp2
          refine ⟨⟨i + 1, by omega, by go_num, A0, A1, A2, A3, hbl⟩, ?_⟩
          simp [intOf]; omega
    · have hk' : i = 5 := by omega
      subst hk'
      have hS5 : (tabN 5 (rowP A R 5)).length = 5 := tabN_length _ _
      go_wp2_with (with_reducible refine wpList_loadLim rfl _ rfl (h + 3) (tabN 5 (rowP A R 5)) ?hx A3.out hS5 ?_)
      try (case hx => rfl)
      refine (CC.out _).mono ?_
      rintro e w2 ⟨rfl, hb2⟩
      have D2 : Hid (Lim w2 (h + 2) (List.replicate 5 0)) := A2.out.on hb2
      have hB2 := below_step hbl (by have := hbl.size; omega) hb2
      clear A0 A1 A2 A3 hbl hb2 CC
      go_wp2_with fail
      refine (CF.out _).mono ?_
      rintro e w3 ⟨rfl, hb3⟩
      have D3 : Hid (Lim w3 (h + 2) (List.replicate 5 0)) := D2.out.on hb3
      have hB3 := below_step hB2 (by have := hB2.size; omega) hb3
      clear D2 hB2 hb3 CF
      go_wp2_with (with_reducible refine wpList_storeLim rfl _ _ rfl (h + 2) (List.replicate 5 0) E ?hx2 ?hy D3.out rfl hE5 ?_)
      try (case hx2 => rfl)
      try (case hy => rfl)
      exact bodyPost_lim rfl (h + 2) E rfl rfl (D3.out.setRow E) hE5 ⟨rfl, below_setRow hB3 (by omega) _⟩
end Go.Proofs.YtmegllddjlippaaDoor
