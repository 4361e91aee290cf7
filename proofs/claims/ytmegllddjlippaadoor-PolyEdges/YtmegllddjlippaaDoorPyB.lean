/- The program's plus. -/
import Derived.Test.YtmegllddjlippaaDoorPyA
namespace Go.Proofs.YtmegllddjlippaaDoor
open Go.RowKit
set_option linter.unusedSimpArgs false

set_option maxRecDepth 100000 in
set_option maxHeartbeats 4000000 in
theorem plus_any (l m : List Nat) (w : World) (hl : l.length = 5) (hm : m.length = 5) (hb : ∀ i, l.getD i 0 + m.getD i 0 < 9223372036854775808) :
    Calls Tryd.prog 17 #[.agg (v64 l), .agg (v64 m)] w fun e w' => e = .returned (.agg (v64 (limN (val5 l + val5 m)))) ∧ Below w.heap.size w w' := by
  have Hb : Hid (∀ i, l.getD i 0 + m.getD i 0 < 9223372036854775808) := hb
  obtain ⟨E, HE⟩ : ∃ E, Hid (E = limN (val5 l + val5 m)) := ⟨_, rfl⟩
  have hE5 : E.length = 5 := by rw [HE.out]; exact limN_length _
  obtain ⟨S, HS⟩ : ∃ S, Hid (S = tabN 5 (addF l m 5)) := ⟨_, rfl⟩
  have hS5 : S.length = 5 := by rw [HS.out]; exact tabN_length _ _
  have CC : Hid (∀ w, _) := fun w => carried_any S w hS5 (fun i => by
    rw [HS.out]
    by_cases hi : i < 5
    · rw [tabN_getD _ _ _ hi]; unfold addF; rw [if_pos hi]; exact hb i
    · rw [List.getD_eq_getElem?_getD, List.getElem?_eq_none (by rw [tabN_length]; omega)]; decide)
  have e1 : limN (val5 S) = E := by rw [HS.out, HE.out, addF_val]
  rw [e1] at CC
  rw [← HE.out]
  clear e1 HE hb
  go_enter Tryd.func17, Tryd.ntmps17
  have A0 : Hid (Lim _ w.heap.size l) := ((Lim.new w l _ rfl).alloc (.cells (v64 m) 35)).alloc (.cells (v64 (List.replicate 5 0)) 35)
  have A1 : Hid (Lim _ (w.heap.size + 1) m) := (Lim.new' (w.alloc (.cells (v64 l) 35)) m _ (w.heap.size + 1) (by simp) rfl).alloc (.cells (v64 (List.replicate 5 0)) 35)
  have A2 : Hid (Lim _ (w.heap.size + 2) (List.replicate 5 0)) := Lim.new' ((w.alloc (.cells (v64 l) 35)).alloc (.cells (v64 m) 35)) (List.replicate 5 0) _ (w.heap.size + 2) (by simp) rfl
  have hB : Below w.heap.size w (((w.alloc (.cells (v64 l) 35)).alloc (.cells (v64 m) 35)).alloc (.cells (v64 (List.replicate 5 0)) 35)) := ((below_new w _).alloc (by simp) _).alloc (by simp; omega) _
  go_wp2_with fail
  go_loopw [6] (fun i wr => ∃ k : Nat, k ≤ 5 ∧ i = .int .i64 k ∧ Hid (Lim wr w.heap.size (tabN 5 (addF l m k))) ∧ Hid (Lim wr (w.heap.size + 1) m) ∧ Hid (Lim wr (w.heap.size + 2) (List.replicate 5 0)) ∧ Below w.heap.size w wr) (fun i _ => 5 - (intOf i).toNat)
  case atStart => exact ⟨0, Nat.zero_le _, rfl, by rw [addF_zero l m hl]; exact A0, A1, A2, hB⟩
  case round =>
    clear A0 A1 A2 hB
    obtain ⟨k, hk, rfl, A0, A1, A2, hbl⟩ := hrel
    by_cases hlt : k < 5
    · have cX := A0.out.cell k (by rw [tabN_length]; omega)
      rw [tabN_getD _ _ _ hlt, addF_here] at cX
      have fX := A0.out.free k
      have cY := A1.out.cell k (by omega)
      have lXY := Hb.out k
      have N0 : Hid (Lim (wr.setCell ⟨w.heap.size, k, none⟩ (.int .u64 ((l.getD k 0 + m.getD k 0 : Nat) : Int))) w.heap.size (tabN 5 (addF l m (k + 1)))) := by
        show Lim _ _ _; rw [← addF_set]; exact A0.out.set k _
      have N1 : Hid (Lim (wr.setCell ⟨w.heap.size, k, none⟩ (.int .u64 ((l.getD k 0 + m.getD k 0 : Nat) : Int))) (w.heap.size + 1) m) := A1.out.other _ (by simp) _
      have N2 : Hid (Lim (wr.setCell ⟨w.heap.size, k, none⟩ (.int .u64 ((l.getD k 0 + m.getD k 0 : Nat) : Int))) (w.heap.size + 2) (List.replicate 5 0)) := A2.out.other _ (by simp) _
      have BN := hbl.setCell (p := ⟨w.heap.size, k, none⟩) (Nat.le_refl _) (.int .u64 ((l.getD k 0 + m.getD k 0 : Nat) : Int))
      have SS' := N1.out.cell k (by omega)
      generalize l.getD k 0 = X at *
      generalize m.getD k 0 = Y at *
      obtain ⟨Z, hZ⟩ : ∃ Z, Z = X + Y := ⟨_, rfl⟩
      rw [← hZ] at N0 N1 N2 BN SS'
      have VN : Hid (IntKind.u64.wrap ((X : Int) + (Y : Int)) = (Z : Int)) := by show _ = _; rw [u64_small _ (by omega) (by omega)]; omega
      have SS : Hid ((wr.setCell ⟨w.heap.size, k, none⟩ (.int .u64 (Z : Int))).cell? ⟨w.heap.size + 1, k, none⟩ = some (.int .u64 (Y : Int))) := SS'
      obtain ⟨w1, hw1⟩ : ∃ v, Hid (v = wr.setCell ⟨w.heap.size, k, none⟩ (.int .u64 (Z : Int))) := ⟨_, rfl⟩
      rw [← hw1.out] at N0 N1 N2 BN
      have b0 : (k : Int) < 5 := by omega
      clear A0 A1 A2 hbl hZ SS'
      go_wp2_with fail
      refine wp_region_noPanic ?_
      refine wp_region_held_drew (S := fun w' => w'.cell? ⟨w.heap.size + 1, k, none⟩ = some (.int .u64 (Y : Int))) (by kernel_rfl) (by first | exact trivial | assumption | exact ⟨by assumption, by assumption⟩) (fun hHeld => ?_)
      refine take_at (i := 0) (v := ?_) rfl rfl (by kernel_rfl) (by kernel_rfl) (by kernel_rfl) (fun _ _ _ h => h) (Or.inl ⟨by rfl, ?_⟩) (by assumption) ?_
      rotate_left
      · intro w hSw; (try dsimp only at hSw); go_simp; try with_reducible rfl
      try simp only [Act.put, List.setIfInBounds_toArray, List.set_cons_zero, List.set_cons_succ]
      refine take_at (i := 1) (v := ?_) rfl rfl (by kernel_rfl) (by kernel_rfl) (by kernel_rfl) (fun _ _ _ h => h) (Or.inl ⟨by rfl, ?_⟩) (by assumption) ?_
      rotate_left
      · intro w hSw; (try dsimp only at hSw); go_simp; try with_reducible rfl
      try simp only [Act.put, List.setIfInBounds_toArray, List.set_cons_zero, List.set_cons_succ]
      refine take_at (i := 3) (v := ?_) rfl rfl (by kernel_rfl) (by kernel_rfl) (by kernel_rfl) (fun _ _ _ h => h) (Or.inl ⟨by rfl, ?_⟩) (by assumption) ?_
      rotate_left
      · intro w hSw; (try dsimp only at hSw); go_simp; try with_reducible rfl
      try simp only [Act.put, List.setIfInBounds_toArray, List.set_cons_zero, List.set_cons_succ]
      refine take_at (i := 4) (v := ?_) rfl rfl (by kernel_rfl) (by kernel_rfl) (by kernel_rfl) (fun _ _ _ h => h) (Or.inl ⟨by rfl, ?_⟩) (by assumption) ?_
      rotate_left
      · intro w hSw; (try dsimp only at hSw); go_simp; try with_reducible rfl
      try simp only [Act.put, List.setIfInBounds_toArray, List.set_cons_zero, List.set_cons_succ]
      refine take_at (i := 5) (v := ?_) rfl rfl (by kernel_rfl) (by kernel_rfl) (by kernel_rfl) (fun _ _ _ h => h) (Or.inl ⟨by rfl, ?_⟩) (by assumption) ?_
      rotate_left
      · intro w hSw; (try dsimp only at hSw); go_simp; try with_reducible rfl
      try simp only [Act.put, List.setIfInBounds_toArray, List.set_cons_zero, List.set_cons_succ]
      refine wpAnyH_ready (rs := [2]) (by kernel_rfl) (by simp) ?_
      refine AllReadyH.cons rfl (fun K hK => ?_) AllReadyH.nil
      go_simp
      refine hK.out _ _ (by assumption) (fun hHeld => ?_)
      clear hK K
      refine take_at (i := 6) (v := ?_) rfl rfl (by kernel_rfl) (by kernel_rfl) (by kernel_rfl) (fun _ _ _ h => h) (Or.inl ⟨by rfl, ?_⟩) (by assumption) ?_
      rotate_left
      · intro w hSw; (try dsimp only at hSw); go_simp; try with_reducible rfl
      try simp only [Act.put, List.setIfInBounds_toArray, List.set_cons_zero, List.set_cons_succ]
      refine take_at (i := 7) (v := ?_) rfl rfl (by kernel_rfl) (by kernel_rfl) (by kernel_rfl) (fun _ _ _ h => h) (Or.inl ⟨by rfl, ?_⟩) (by assumption) ?_
      rotate_left
      · intro w hSw; (try dsimp only at hSw); go_simp; try with_reducible rfl
      try simp only [Act.put, List.setIfInBounds_toArray, List.set_cons_zero, List.set_cons_succ]
      refine wpAnyH_ready (rs := [8]) (by kernel_rfl) (by simp) ?_
      refine AllReadyH.cons rfl (fun K hK => ?_) AllReadyH.nil
      go_simp
      rw [VN.out]
      refine hK.out _ _ SS.out (fun hHeld => ?_)
      clear hK K
      refine wpAnyH_done (by kernel_rfl) (NoPanic.normal ?_) _
      rw [← hw1.out]
      clear cX cY fX VN SS hw1
      go_wp2
      go_roundw
      case rel => exact ⟨k + 1, by omega, by go_num, N0, N1, N2, BN.drew⟩
      case measure => simp [intOf]; omega
    · have hk' : k = 5 := by omega
      subst hk'
      rw [← HS.out] at A0
      go_wp2_with (with_reducible refine wpList_loadLim rfl _ rfl w.heap.size S ?hx A0.out hS5 ?_)
      case hx => rfl
      refine (CC.out _).mono ?_
      rintro e w2 ⟨rfl, hb2⟩
      have D2 : Hid (Lim w2 (w.heap.size + 2) (List.replicate 5 0)) := A2.out.on hb2
      have hB2 := below_step hbl (Nat.le_refl _) hb2
      clear A0 A1 A2 hbl hb2 CC
      go_wp2_with (with_reducible refine wpList_storeLim rfl _ _ rfl (w.heap.size + 2) (List.replicate 5 0) E ?hx2 ?hy D2.out rfl hE5 ?_)
      case hx2 => rfl
      case hy => rfl
      exact bodyPost_lim rfl (w.heap.size + 2) E rfl rfl (D2.out.setRow E) hE5 ⟨rfl, below_setRow hB2 (by omega) _⟩

/-- Limbs of numbers, and of a small number alone. -/
def oneL (x : Nat) : List Nat := [x, 0, 0, 0, 0]
theorem val5_oneL (x : Nat) : val5 (oneL x) = x := by simp [val5, oneL]
theorem oneL_getD (x i : Nat) : (oneL x).getD i 0 ≤ x := by
  match i with
  | 0 => exact Nat.le_refl _
  | 1 => exact Nat.zero_le _
  | 2 => exact Nat.zero_le _
  | 3 => exact Nat.zero_le _
  | 4 => exact Nat.zero_le _
  | n + 5 => rw [List.getD_eq_getElem?_getD, List.getElem?_eq_none (by show 5 ≤ _; omega)]; exact Nat.zero_le _
theorem limN_le (v B : Nat) (h : v < 340282366920938463463374607431768211456 * B) (hB : 4294967296 ≤ B) (i : Nat) : (limN v).getD i 0 < B := by
  by_cases hi : i < 5
  · rw [limN_getD _ _ hi]
    unfold limF
    split
    · exact Nat.lt_of_lt_of_le (Nat.mod_lt _ (by decide)) hB
    · exact Nat.div_lt_of_lt_mul h
  · rw [List.getD_eq_getElem?_getD, List.getElem?_eq_none (by rw [limN_length]; omega)]
    show 0 < B; omega
theorem lim_lt (v : Nat) (h : v < 2 ^ 190) (i : Nat) : (limN v).getD i 0 < 4611686018427387904 := limN_le v _ (Nat.lt_of_lt_of_le h (by decide)) (by decide) i

/-- Of two numbers. -/
theorem plus_num (a b : Nat) (w : World) (ha : a < 2 ^ 190) (hb : b < 2 ^ 190) :
    Calls Tryd.prog 17 #[.agg (v64 (limN a)), .agg (v64 (limN b))] w fun e w' => e = .returned (.agg (v64 (limN (a + b)))) ∧ Below w.heap.size w w' := by
  have h := plus_any (limN a) (limN b) w (limN_length a) (limN_length b) (fun i => by have h1 := lim_lt a ha i; have h2 := lim_lt b hb i; omega)
  rw [val5_limN, val5_limN] at h
  exact h
/-- Of a number and a small one. -/
theorem plus_one (l : List Nat) (x : Nat) (w : World) (hl : l.length = 5) (hb : ∀ i, l.getD i 0 < 4611686018427387904) (hx : x < 4611686018427387904) :
    Calls Tryd.prog 17 #[.agg (v64 l), .agg (v64 (oneL x))] w fun e w' => e = .returned (.agg (v64 (limN (val5 l + x)))) ∧ Below w.heap.size w w' := by
  have h := plus_any l (oneL x) w hl rfl (fun i => by have h1 := hb i; have h2 := oneL_getD x i; omega)
  rw [val5_oneL] at h
  exact h

/-- The limbs of what lies below 2^130, and what lies above, five times. -/
theorem fold_val (v : Nat) : val5 ((limN v).set 4 (limF v 4 % 4)) + 5 * (limF v 4 / 4) = stepR v := by
  rw [limN_eq, limF_4]
  unfold val5 stepR
  simp only [List.set_cons_succ, List.set_cons_zero, List.getD_cons_zero, List.getD_cons_succ]
  rw [two130]
  omega

set_option maxRecDepth 100000 in
set_option maxHeartbeats 4000000 in
theorem folded_any (v : Nat) (w : World) (hv : v < 2 ^ 180) :
    Calls Tryd.prog 26 #[.agg (v64 (limN v))] w fun e w' => e = .returned (.agg (v64 (limN (stepR v)))) ∧ Below w.heap.size w w' := by
  obtain ⟨E, HE⟩ : ∃ E, Hid (E = limN (stepR v)) := ⟨_, rfl⟩
  have hE5 : E.length = 5 := by rw [HE.out]; exact limN_length _
  obtain ⟨l, Hl⟩ : ∃ l, Hid (l = limN v) := ⟨_, rfl⟩
  have hl5 : l.length = 5 := by rw [Hl.out]; exact limN_length _
  obtain ⟨X, HX⟩ : ∃ X, Hid (X = limF v 4) := ⟨_, rfl⟩
  have hX : X < 4503599627370496 := by
    rw [HX.out, limF_4]
    exact Nat.div_lt_of_lt_mul (Nat.lt_of_lt_of_le hv (by decide))
  have hXl : l.getD 4 0 = X := by rw [Hl.out, HX.out]; exact limN_getD v 4 (by decide)
  have hb : ∀ i, (l.set 4 (X % 4)).getD i 0 < 4611686018427387904 := fun i => by
    by_cases hi : 4 = i
    · subst hi; rw [getD_set_eq _ _ _ (by omega)]; omega
    · rw [getD_set_ne _ _ _ _ hi, Hl.out]; exact lim_lt v (Nat.lt_trans hv (by decide)) i
  have CP : Hid (∀ w, _) := fun w => plus_one (l.set 4 (X % 4)) (5 * (X / 4)) w (by rw [List.length_set]; exact hl5) hb (by omega)
  have e1 : limN (val5 (l.set 4 (X % 4)) + 5 * (X / 4)) = E := by rw [HE.out, Hl.out, HX.out, fold_val]
  rw [e1] at CP
  rw [← HE.out, ← Hl.out]
  have VM := u64_mask2 X (by omega)
  have VN : IntKind.u64.wrap (5 * ((X : Int) / 4)) = ((5 * (X / 4) : Nat) : Int) := by rw [u64_small _ (by omega) (by omega)]; omega
  clear e1 HE Hl HX hb hv
  generalize X % 4 = M at *
  generalize 5 * (X / 4) = F at *
  have A0 : Lim ((w.alloc (.cells (v64 l) 35)).alloc (.cells #[.int .u64 0, .int .u64 0, .int .u64 0, .int .u64 0, .int .u64 0] 35)) w.heap.size l := (Lim.new w l _ rfl).alloc _
  have A1 : Lim ((w.alloc (.cells (v64 l) 35)).alloc (.cells #[.int .u64 0, .int .u64 0, .int .u64 0, .int .u64 0, .int .u64 0] 35)) (w.heap.size + 1) (List.replicate 5 0) := Lim.new' (w.alloc (.cells (v64 l) 35)) (List.replicate 5 0) _ (w.heap.size + 1) (by simp) rfl
  have hB : Below w.heap.size w ((w.alloc (.cells (v64 l) 35)).alloc (.cells #[.int .u64 0, .int .u64 0, .int .u64 0, .int .u64 0, .int .u64 0] 35)) := (below_new w _).alloc (by simp) _
  have c4 := A0.cell 4 (by omega)
  rw [hXl] at c4
  have f4 := A0.free 4
  have D0 : Hid (Lim ((w.alloc (.cells ((v64 l).setIfInBounds 4 (.int .u64 (M : Int))) 35)).alloc (.cells #[.int .u64 0, .int .u64 0, .int .u64 0, .int .u64 0, .int .u64 0] 35)) w.heap.size (l.set 4 M)) := (Lim.new w (l.set 4 M) _ (v64_set l 4 M).symm).alloc _
  have D1 : Hid (Lim ((w.alloc (.cells ((v64 l).setIfInBounds 4 (.int .u64 (M : Int))) 35)).alloc (.cells #[.int .u64 0, .int .u64 0, .int .u64 0, .int .u64 0, .int .u64 0] 35)) (w.heap.size + 1) (List.replicate 5 0)) := Lim.new' (w.alloc (.cells ((v64 l).setIfInBounds 4 (.int .u64 (M : Int))) 35)) (List.replicate 5 0) _ (w.heap.size + 1) (by simp) rfl
  have D2 : Below w.heap.size w ((w.alloc (.cells ((v64 l).setIfInBounds 4 (.int .u64 (M : Int))) 35)).alloc (.cells #[.int .u64 0, .int .u64 0, .int .u64 0, .int .u64 0, .int .u64 0] 35)) := (below_new w _).alloc (by simp) _
  have hlM : (l.set 4 M).length = 5 := by rw [List.length_set]; exact hl5
  clear A0 A1 hB hXl
  go_enter Tryd.func26, Tryd.ntmps26
  go_wp2_with (with_reducible refine wpList_loadLim rfl _ rfl w.heap.size (l.set 4 M) ?hx D0.out hlM ?_)
  case hx => rfl
  refine (CP.out _).mono ?_
  rintro e w2 ⟨rfl, hb2⟩
  have E2 : Hid (Lim w2 (w.heap.size + 1) (List.replicate 5 0)) := D1.out.on hb2
  have hB2 := below_step D2 (Nat.le_refl _) hb2
  clear D0 D1 D2 hb2 CP c4 f4
  go_wp2_with (with_reducible refine wpList_storeLim rfl _ _ rfl (w.heap.size + 1) (List.replicate 5 0) E ?hx2 ?hy E2.out rfl hE5 ?_)
  case hx2 => rfl
  case hy => rfl
  exact bodyPost_lim rfl (w.heap.size + 1) E rfl rfl (E2.out.setRow E) hE5 ⟨rfl, below_setRow hB2 (by omega) _⟩
end Go.Proofs.YtmegllddjlippaaDoor
