import Derived.Test.YtfbgofbjbfidoaaDoorShaAll
namespace Go.Proofs.YtfbgofbjbfidoaaDoor
open Go.RowKit
set_option linter.unusedSimpArgs false

section
variable {P : Program} {ops : Array Oper} {o : Oper} {a : Act} {w : World} {K' : Act → World → Prop} {Q : Exit → Act → World → Prop} {E : Prop}
/-- Words that lie somewhere, read as a whole at a step of a region that draws its order. -/
theorem step_loadCells {d : Tmp} (hgd : o.guard = none) (hd : o.dst = some d) (t : TypeId) (x : Operand) (ho : o.op = .load t x) (g : Nat) (l : List Nat) (hx : a.eval x = .pointer (some ⟨g, 0, none⟩)) (h : ∀ j, j < l.length → w.cell? ⟨g, j, none⟩ = some (.int .u32 ((l.getD j 0 : Nat) : Int)))
    (n : Nat) (e : TypeId) (hu : P.underlying t = some (.array n e)) (hi : (P.info? t).map (·.size) = some l.length) (hk : K' (a.put (some d) (.agg (vals l))) w) :
    if Region.wanted o (yielded ops a.tmps) = true then Oper.wp P o a w K' Q else E := by
  rw [if_pos (by simp [Region.wanted, hgd])]
  refine wp_load_mid t x ho g 0 hx (vals l).toList _ (fun j v hv => ?_) hu rfl ?_ ?_
  · rw [Nat.zero_add]
    have hj : j < l.length := by
      have := (List.getElem?_eq_some_iff.1 hv).1
      simpa [vals_size] using this
    rw [h j hj, ← vals_get l j hj, ← hv]; simp
  · rw [hi]; simp [vals_size]
  · rw [hd]; simpa using hk
end

theorem fullF_left (s : ByteArray) (j : Nat) (h : j < s.size) : fullF s j = bt s j := by unfold fullF; rw [if_pos h]
theorem fullF_right (s : ByteArray) (j : Nat) : fullF s (s.size + j) = bt (padB s.size) j := by
  unfold fullF
  rw [if_neg (by omega), show s.size + j - s.size = j by omega]
  rfl
theorem full_bt (s : ByteArray) (j : Nat) : bt (s ++ padB s.size) j = fullF s j := by
  by_cases h : j < s.size
  · rw [bt_append_left _ _ _ h, fullF_left _ _ h]
  · obtain ⟨i, rfl⟩ : ∃ i, j = s.size + i := ⟨j - s.size, by omega⟩
    rw [bt_append_right, fullF_right]
theorem sum_split (s : ByteArray) (W : Nat) (hW : W = 64 * (s.size / 64)) (T : ByteArray) (hT : T = s.extract W s.size) :
    foldN (bt (T ++ padB s.size)) (foldN (bt (s.extract 0 W)) bN (W / 64)) ((T ++ padB s.size).size / 64) = sumN s := by
  have hTs : T.size = s.size - W := by rw [hT, ByteArray.size_extract]; omega
  have hWs : W ≤ s.size := by omega
  have hP := padB_size s.size
  unfold sumN
  rw [ByteArray.size_append, hTs, hP]
  have e : (s.size + 9 + zerosN s.size) / 64 = W / 64 + (s.size - W + (9 + zerosN s.size)) / 64 := by omega
  rw [e, foldN_add]
  rw [foldN_congr (bt (s.extract 0 W)) (fullF s) bN (W / 64) (fun j hj => by
    rw [bt_extract s 0 W j (by omega) hWs, fullF_left s j (by omega), Nat.zero_add])]
  refine foldN_congr _ _ _ _ (fun j hj => ?_)
  by_cases h : j < T.size
  · rw [bt_append_left _ _ _ h, hT, bt_extract s W s.size j (by omega) (Nat.le_refl _), fullF_left s _ (by omega), show 64 * (W / 64) + j = W + j by omega]
  · obtain ⟨i, rfl⟩ : ∃ i, j = T.size + i := ⟨j - T.size, by omega⟩
    rw [bt_append_right, show 64 * (W / 64) + (T.size + i) = s.size + i by omega, fullF_right]

set_option maxRecDepth 100000 in
set_option maxHeartbeats 4000000 in
theorem sum_any (s : ByteArray) (w : World) (hs : s.size ≤ 65536) (hB : GlobB w) (hK : GlobK w) :
    Calls Tryd.prog 12 #[.string s] w fun e w' => e = .returned (.string (ofN (sumN s))) ∧ Below w.heap.size w w' := by
  have HB : Hid (GlobB w) := hB
  have HK : Hid (GlobK w) := hK
  have CP : Hid (∀ w, _) := fun w => pad_ok s.size w (by omega)
  obtain ⟨P, HP⟩ : ∃ P : ByteArray, Hid (P = padB s.size) := ⟨_, rfl⟩
  rw [← HP.out] at CP
  have hPs : P.size ≤ 72 := by rw [HP.out, padB_size]; have := zerosN_le s.size; omega
  obtain ⟨W, hW⟩ : ∃ W, W = 64 * (s.size / 64) := ⟨_, rfl⟩
  have eW : (s.size : Int) - (s.size : Int) % 64 = (W : Int) := by omega
  have bW : (W : Int) ≤ (s.size : Int) := by omega
  have HW : Hid (W = 64 * (s.size / 64)) := hW
  clear hB hK hW
  go_enter Tryd.func12, Tryd.ntmps12
  go_wp2_with fail
  refine (CP.out _).mono ?_
  rintro e w1 ⟨rfl, hb1⟩
  have HB1 : Hid (∀ j, j < bN.length → w1.cell? ⟨0, j, none⟩ = some (.int .u32 ((bN.getD j 0 : Nat) : Int))) := HB.out.below hb1
  have HK1 : Hid (GlobK w1) := HK.out.below hb1
  go_wp2_with fail
  have hsum : ¬ (9223372036854775807 < s.size - W + P.size) := by omega
  obtain ⟨T, HT⟩ : ∃ T, Hid (T = s.extract W s.size) := ⟨_, rfl⟩
  have hs1 : (s.extract 0 W).size = W := by rw [ByteArray.size_extract]; omega
  have hs2 : (T ++ P).size ≤ 1048576 := by rw [ByteArray.size_append, HT.out, ByteArray.size_extract]; omega
  obtain ⟨y, Hy⟩ : ∃ y, Hid (y = foldN (bt (s.extract 0 W)) bN (W / 64)) := ⟨_, rfl⟩
  have hyl : Hid (y.length = 8) := by show _ = _; rw [Hy.out]; exact foldN_length _ _ rfl _
  have hyo : Hid (Ok y) := by show Ok y; rw [Hy.out]; exact foldN_ok _ _ bN_ok _
  have C1 : Hid (∀ w, GlobK w → Calls Tryd.prog 20 #[.agg (vals bN), .string (s.extract 0 W)] w fun e w' => e = .returned (.agg (vals y)) ∧ Below w.heap.size w w') := by
    rw [Hy.out]
    have := fun w h => behindAll_any bN (s.extract 0 W) w rfl bN_ok (by omega) h
    rw [hs1] at this
    exact this
  have HS : Hid (foldN (bt (T ++ P)) y ((T ++ P).size / 64) = sumN s) := by
    show _ = _
    rw [Hy.out, HP.out]; exact sum_split s W HW.out T HT.out
  obtain ⟨z, Hz⟩ : ∃ z, Hid (z = sumN s) := ⟨_, rfl⟩
  rw [← Hz.out] at HS
  have hzl : Hid (z.length = 8) := by show _ = _; rw [← HS.out]; exact foldN_length _ _ hyl.out _
  have hzo : Hid (Ok z) := by show Ok z; rw [← HS.out]; exact foldN_ok _ _ hyo.out _
  have C2 : Hid (∀ w, GlobK w → Calls Tryd.prog 20 #[.agg (vals y), .string (s.extract W s.size ++ P)] w fun e w' => e = .returned (.agg (vals z)) ∧ Below w.heap.size w w') := by
    have := fun w h => behindAll_any y (T ++ P) w hyl.out hyo.out hs2 h
    rw [HS.out, HT.out] at this
    exact this
  clear hs1 hs2
  refine wp_region_noPanic ?_
  refine wp_region_held_drew (S := fun _ => True) (by kernel_rfl) (by first | exact trivial | assumption | exact ⟨by assumption, by assumption⟩) (fun hHeld => ?_)
  refine take_at (i := 1) (v := ?_) rfl rfl (by kernel_rfl) (by kernel_rfl) (by kernel_rfl) (fun _ _ _ h => h) (Or.inl ⟨by rfl, ?_⟩) (by assumption) ?_
  rotate_left
  · intro w hSw; (try dsimp only at hSw); go_simp; try with_reducible rfl
  try simp only [Act.put, List.setIfInBounds_toArray, List.set_cons_zero, List.set_cons_succ]
  refine take_at (i := 2) (v := ?_) rfl rfl (by kernel_rfl) (by kernel_rfl) (by kernel_rfl) (fun _ _ _ h => h) (Or.inl ⟨by rfl, ?_⟩) (by assumption) ?_
  rotate_left
  · intro w hSw; (try dsimp only at hSw); go_simp; try with_reducible rfl
  try simp only [Act.put, List.setIfInBounds_toArray, List.set_cons_zero, List.set_cons_succ]
  refine take_at (i := 3) (v := ?_) rfl rfl (by kernel_rfl) (by kernel_rfl) (by kernel_rfl) (fun _ _ _ h => h) (Or.inl ⟨by rfl, ?_⟩) (by assumption) ?_
  rotate_left
  · intro w hSw; (try dsimp only at hSw); go_simp; try with_reducible rfl
  try simp only [Act.put, List.setIfInBounds_toArray, List.set_cons_zero, List.set_cons_succ]
  refine take_at (i := 5) (v := ?_) rfl rfl (by kernel_rfl) (by kernel_rfl) (by kernel_rfl) (fun _ _ _ h => h) (Or.inl ⟨by rfl, ?_⟩) (by assumption) ?_
  rotate_left
  · intro w hSw; (try dsimp only at hSw); go_simp; try with_reducible rfl
  try simp only [Act.put, List.setIfInBounds_toArray, List.set_cons_zero, List.set_cons_succ]
  refine take_at (i := 6) (v := ?_) rfl rfl (by kernel_rfl) (by kernel_rfl) (by kernel_rfl) (fun _ _ _ h => h) (Or.inl ⟨by rfl, ?_⟩) (by assumption) ?_
  rotate_left
  · intro w hSw; (try dsimp only at hSw); go_simp; try with_reducible rfl
  try simp only [Act.put, List.setIfInBounds_toArray, List.set_cons_zero, List.set_cons_succ]
  refine take_at (i := 7) (v := ?_) rfl rfl (by kernel_rfl) (by kernel_rfl) (by kernel_rfl) (fun _ _ _ h => h) (Or.inl ⟨by rfl, ?_⟩) (by assumption) ?_
  rotate_left
  · intro w hSw; (try dsimp only at hSw); go_simp; try with_reducible rfl
  try simp only [Act.put, List.setIfInBounds_toArray, List.set_cons_zero, List.set_cons_succ]
  refine take_at (i := 8) (v := ?_) rfl rfl (by kernel_rfl) (by kernel_rfl) (by kernel_rfl) (fun _ _ _ h => h) (Or.inl ⟨by rfl, ?_⟩) (by assumption) ?_
  rotate_left
  · intro w hSw; (try dsimp only at hSw); go_simp; try with_reducible rfl
  try simp only [Act.put, List.setIfInBounds_toArray, List.set_cons_zero, List.set_cons_succ]
  refine take_at (i := 9) (v := ?_) rfl rfl (by kernel_rfl) (by kernel_rfl) (by kernel_rfl) (fun _ _ _ h => h) (Or.inl ⟨by rfl, ?_⟩) (by assumption) ?_
  rotate_left
  · intro w hSw; (try dsimp only at hSw); go_simp; try with_reducible rfl
  try simp only [Act.put, List.setIfInBounds_toArray, List.set_cons_zero, List.set_cons_succ]
  refine wpAnyH_ready (rs := [0]) (by kernel_rfl) (by simp) ?_
  refine AllReadyH.cons rfl (fun K hK => ?_) AllReadyH.nil
  refine step_loadCells rfl rfl 40 _ rfl 0 bN rfl HB1.out 8 39 Tryd.underlying40 Tryd.arr8 ?_
  refine hK.out _ _ trivial (fun hHeld => ?_)
  clear hK K
  refine wpAnyH_ready (rs := [4]) (by kernel_rfl) (by simp) ?_
  refine AllReadyH.cons rfl (fun K hK => ?_) AllReadyH.nil
  go_simp
  refine (C1.out w1.drew HK1.out).mono ?_
  rintro e w2 ⟨rfl, hb2⟩
  have hb2' := below_step hb1.drew (Nat.le_refl _) hb2
  have HK2 : Hid (GlobK w2) := HK.out.below hb2'
  refine hK.out _ _ trivial (fun hHeld => ?_)
  clear hK K
  refine wpAnyH_ready (rs := [10]) (by kernel_rfl) (by simp) ?_
  refine AllReadyH.cons rfl (fun K hK => ?_) AllReadyH.nil
  go_simp
  refine (C2.out w2 HK2.out).mono ?_
  rintro e w3 ⟨rfl, hb3⟩
  have hb3' := below_step hb2' (Nat.le_refl _) hb3
  refine hK.out _ _ trivial (fun hHeld => ?_)
  clear hK K
  refine wpAnyH_ready (rs := [11]) (by kernel_rfl) (by simp) ?_
  refine AllReadyH.cons rfl (fun K hK => ?_) AllReadyH.nil
  go_simp
  refine (put_any z w3 hzl.out hzo.out).mono ?_
  rintro e w4 ⟨rfl, hb4⟩
  have hb4' := below_step hb3' (Nat.le_refl _) hb4
  rw [Hz.out]
  refine hK.out _ _ trivial (fun hHeld => ?_)
  clear hK K
  refine take_at (i := 12) (v := ?_) rfl rfl (by kernel_rfl) (by kernel_rfl) (by kernel_rfl) (fun _ _ _ h => h) (Or.inl ⟨by rfl, ?_⟩) (by assumption) ?_
  rotate_left
  · intro w hSw; (try dsimp only at hSw); go_simp; try with_reducible rfl
  try simp only [Act.put, List.setIfInBounds_toArray, List.set_cons_zero, List.set_cons_succ]
  refine wpAnyH_done (by kernel_rfl) (NoPanic.normal ?_) _
  go_wp2
  go_ret
  exact ⟨rfl, hb4'⟩
end Go.Proofs.YtfbgofbjbfidoaaDoor
