import Derived.Test.YtfbgofbjbfidoaaDoorHmKey
import Derived.Test.YtfbgofbjbfidoaaDoorRTurned
import Derived.Test.YtfbgofbjbfidoaaDoorSame
namespace Go.Proofs.YtfbgofbjbfidoaaDoor
open Go.RowKit
set_option linter.unusedSimpArgs false

theorem exec_loadBrr {P : Program} {o : Oper} {ρ : Operand → Value} {w : World} (t : TypeId) (x : Operand) (ho : o.op = .load t x) (g : Nat) (l : List Nat) (hx : ρ x = .pointer (some ⟨g, 0, none⟩)) (h : Brr w t g l)
    (n : Nat) (e : TypeId) (hu : P.underlying t = some (.array n e)) (hi : (P.info? t).map (·.size) = some l.length) : (execOp ρ o).run P w = .ok (.value (.agg (bvals l))) w := by
  unfold execOp
  simp only [ho, hx, Instr.loadAt, Instr.sureAddr, Sem.run_bind, Sem.run_pure, Result.andThen_ok, run_loadBrr t g l h n e hu hi]

set_option maxRecDepth 100000 in
set_option maxHeartbeats 4000000 in
theorem mac_any (key s : ByteArray) (w : World) (hk : key.size ≤ 65536) (hs : s.size ≤ 65472) (hB : GlobB w) (hK : GlobK w) :
    Calls Tryd.prog 8 #[.string key, .string s] w fun e w' => e = .returned (.string (macB key s)) ∧ Below w.heap.size w w' := by
  have HB : Hid (GlobB w) := hB
  have HK : Hid (GlobK w) := hK
  have C0 : Hid (Calls _ _ _ _ _) := keyBlock_any key w hk hB hK
  obtain ⟨f, Hf⟩ : ∃ f, Hid (f = bt (keyOf key)) := ⟨_, rfl⟩
  have hf : Hid (∀ i, f i < 256) := by show ∀ i, _; rw [Hf.out]; exact bt_lt _
  rw [← Hf.out] at C0
  have C1 : Hid (∀ w, _) := fun w => turned_any f 92 w hf.out (by decide)
  have C2 : Hid (∀ w, _) := fun w => turned_any f 54 w hf.out (by decide)
  obtain ⟨A, HA⟩ : ∃ A, Hid (A = turnB f 92) := ⟨_, rfl⟩
  obtain ⟨I, HI⟩ : ∃ I, Hid (I = turnB f 54) := ⟨_, rfl⟩
  have hAs : A.size = 64 := by rw [HA.out]; exact turnB_size _ _
  have hIs : I.size = 64 := by rw [HI.out]; exact turnB_size _ _
  rw [← HA.out] at C1
  rw [← HI.out] at C2
  obtain ⟨M, HM⟩ : ∃ M, Hid (M = ofN (sumN (I ++ s))) := ⟨_, rfl⟩
  have hMs : M.size = 32 := by rw [HM.out]; exact sumB_size _
  have C3 : Hid (∀ w, GlobB w → GlobK w → _) := fun w => sum_any (I ++ s) w (by rw [ByteArray.size_append]; omega)
  have C4 : Hid (∀ w, GlobB w → GlobK w → _) := fun w => sum_any (A ++ M) w (by rw [ByteArray.size_append]; omega)
  rw [← HM.out] at C3
  have HZ : Hid (macB key s = ofN (sumN (A ++ M))) := by show _ = _; rw [HM.out, HA.out, HI.out, Hf.out]; rfl
  obtain ⟨Z, hZ⟩ : ∃ Z, Z = ofN (sumN (A ++ M)) := ⟨_, rfl⟩
  rw [← hZ] at C4 HZ
  have hsum1 : ¬ (9223372036854775807 < I.size + s.size) := by omega
  have hsum2 : ¬ (9223372036854775807 < A.size + M.size) := by omega
  clear hB hK hZ HA HI HM Hf hf hAs hIs hMs
  go_enter Tryd.func8, Tryd.ntmps8
  go_wp2_with fail
  refine C0.out.mono ?_
  rintro e w1 ⟨rfl, hb1⟩
  clear C0
  go_wp2_with (with_reducible refine wpList_storeBrr rfl 31 _ _ rfl w1.heap.size (tabN 64 (cutN f 0)) (tabN 64 f) ?hx ?hy ?ha ?hl ?hi ?_)
  case hx => rfl
  case hy => rfl
  case ha => exact Brr.new w1 _ _ _ (by kernel_rfl)
  case hl => rw [tabN_length, tabN_length]
  case hi => rw [tabN_length]; exact Tryd.brr64
  rw [World.setRow_alloc_new]
  simp only [Act.put]
  generalize hq : World.alloc w1 _ = w2
  have V0 : Brr w2 31 w1.heap.size (tabN 64 f) := by rw [← hq]; exact Brr.new w1 31 _ _ rfl
  have hB2 : Hid (Below w.heap.size w w2) := by rw [← hq]; exact hb1.alloc hb1.size _
  have hg2 : w1.heap.size < w2.heap.size := V0.lt
  clear hq
  obtain ⟨g, hg⟩ : ∃ g, g = w1.heap.size := ⟨_, rfl⟩
  rw [← hg] at V0 hg2 ⊢
  clear hb1 hg
  go_wp2_with fail
  refine wp_region_noPanic ?_
  refine wp_region_held_drew (S := fun w' => Brr w' 31 g (tabN 64 f)) (by kernel_rfl) (by first | exact trivial | assumption | exact ⟨by assumption, by assumption⟩) (fun hHeld => ?_)
  refine take_at (i := 0) (v := .agg (bvals (tabN 64 f))) rfl rfl (by kernel_rfl) (by kernel_rfl) (by kernel_rfl) (fun _ _ _ h => h) (Or.inl ⟨by rfl, ?_⟩) (by assumption) ?_
  · intro w' hSw
    exact exec_loadBrr 31 _ rfl g (tabN 64 f) rfl hSw 64 5 Tryd.underlying31 (by rw [tabN_length]; exact Tryd.brr64)
  try simp only [Act.put, List.setIfInBounds_toArray, List.set_cons_zero, List.set_cons_succ]
  refine take_at (i := 2) (v := .agg (bvals (tabN 64 f))) rfl rfl (by kernel_rfl) (by kernel_rfl) (by kernel_rfl) (fun _ _ _ h => h) (Or.inl ⟨by rfl, ?_⟩) (by assumption) ?_
  · intro w' hSw
    exact exec_loadBrr 31 _ rfl g (tabN 64 f) rfl hSw 64 5 Tryd.underlying31 (by rw [tabN_length]; exact Tryd.brr64)
  try simp only [Act.put, List.setIfInBounds_toArray, List.set_cons_zero, List.set_cons_succ]
  refine take_at (i := 4) (v := ?_) rfl rfl (by kernel_rfl) (by kernel_rfl) (by kernel_rfl) (fun _ _ _ h => h) (Or.inl ⟨by rfl, ?_⟩) (by assumption) ?_
  rotate_left
  · intro w hSw; (try dsimp only at hSw); go_simp; try with_reducible rfl
  try simp only [Act.put, List.setIfInBounds_toArray, List.set_cons_zero, List.set_cons_succ]
  refine wpAnyH_ready (rs := [1]) (by kernel_rfl) (by simp) ?_
  refine AllReadyH.cons rfl (fun K hK => ?_) AllReadyH.nil
  go_simp
  refine (C1.out _).mono ?_
  rintro e w3 ⟨rfl, hb3⟩
  have V3 : Brr w3 31 g (tabN 64 f) := Brr.below (w := w2.drew) V0 hb3 hg2
  have hB3 : Hid (Below w.heap.size w w3) := below_step hB2.out.drew (Nat.le_refl _) hb3
  have hg3 : g < w3.heap.size := V3.lt
  clear hb3 C1
  refine hK.out _ _ V3 (fun hHeld => ?_)
  clear hK K
  refine wpAnyH_ready (rs := [3]) (by kernel_rfl) (by simp) ?_
  refine AllReadyH.cons rfl (fun K hK => ?_) AllReadyH.nil
  go_simp
  refine (C2.out _).mono ?_
  rintro e w4 ⟨rfl, hb4⟩
  have V4 := V3.below hb4 hg3
  have hB4 : Hid (Below w.heap.size w w4) := below_step hB3.out (Nat.le_refl _) hb4
  have hg4 : g < w4.heap.size := V4.lt
  clear hb4 C2 V3 hB3 hg3 V0 hB2 hg2
  refine hK.out _ _ V4 (fun hHeld => ?_)
  clear hK K
  refine take_at (i := 5) (v := ?_) rfl rfl (by kernel_rfl) (by kernel_rfl) (by kernel_rfl) (fun _ _ _ h => h) (Or.inl ⟨by rfl, ?_⟩) (by assumption) ?_
  rotate_left
  · intro w hSw; (try dsimp only at hSw); go_simp; try with_reducible rfl
  try simp only [Act.put, List.setIfInBounds_toArray, List.set_cons_zero, List.set_cons_succ]
  refine wpAnyH_ready (rs := [6]) (by kernel_rfl) (by simp) ?_
  refine AllReadyH.cons rfl (fun K hK => ?_) AllReadyH.nil
  go_simp
  refine (C3.out _ (HB.out.below hB4.out) (HK.out.below hB4.out)).mono ?_
  rintro e w5 ⟨rfl, hb5⟩
  have V5 := V4.below hb5 hg4
  have hB5 : Hid (Below w.heap.size w w5) := below_step hB4.out (Nat.le_refl _) hb5
  have hg5 : g < w5.heap.size := V5.lt
  clear hb5 C3 V4 hB4 hg4
  refine hK.out _ _ V5 (fun hHeld => ?_)
  clear hK K
  refine take_at (i := 7) (v := ?_) rfl rfl (by kernel_rfl) (by kernel_rfl) (by kernel_rfl) (fun _ _ _ h => h) (Or.inl ⟨by rfl, ?_⟩) (by assumption) ?_
  rotate_left
  · intro w hSw; (try dsimp only at hSw); go_simp; try with_reducible rfl
  try simp only [Act.put, List.setIfInBounds_toArray, List.set_cons_zero, List.set_cons_succ]
  refine wpAnyH_ready (rs := [8]) (by kernel_rfl) (by simp) ?_
  refine AllReadyH.cons rfl (fun K hK => ?_) AllReadyH.nil
  go_simp
  refine (C4.out _ (HB.out.below hB5.out) (HK.out.below hB5.out)).mono ?_
  rintro e w6 ⟨rfl, hb6⟩
  have V6 := V5.below hb6 hg5
  have hB6 : Hid (Below w.heap.size w w6) := below_step hB5.out (Nat.le_refl _) hb6
  clear hb6 C4 V5 hB5 hg5
  refine hK.out _ _ V6 (fun hHeld => ?_)
  clear hK K
  refine take_at (i := 9) (v := ?_) rfl rfl (by kernel_rfl) (by kernel_rfl) (by kernel_rfl) (fun _ _ _ h => h) (Or.inl ⟨by rfl, ?_⟩) (by assumption) ?_
  rotate_left
  · intro w hSw; (try dsimp only at hSw); go_simp; try with_reducible rfl
  try simp only [Act.put, List.setIfInBounds_toArray, List.set_cons_zero, List.set_cons_succ]
  refine wpAnyH_done (by kernel_rfl) (NoPanic.normal ?_) _
  go_wp2_with fail
  go_ret
  exact ⟨by rw [HZ.out]; rfl, hB6.out⟩

set_option maxRecDepth 100000 in
set_option maxHeartbeats 4000000 in
theorem rmac_any (key s : ByteArray) (w : World) (hk : key.size ≤ 65536) (hs : s.size ≤ 65472) :
    Calls Tryd.prog 9 #[.string key, .string s] w fun e w' => e = .returned (.string (macB key s)) ∧ Below w.heap.size w w' := by
  have C1 : Hid (∀ w, _) := fun w => rturned_any key 92 w hk (by decide)
  have C2 : Hid (∀ w, _) := fun w => rturned_any key 54 w hk (by decide)
  obtain ⟨A, HA⟩ : ∃ A, Hid (A = turnB (bt (keyOf key)) 92) := ⟨_, rfl⟩
  obtain ⟨I, HI⟩ : ∃ I, Hid (I = turnB (bt (keyOf key)) 54) := ⟨_, rfl⟩
  have hAs : A.size = 64 := by rw [HA.out]; exact turnB_size _ _
  have hIs : I.size = 64 := by rw [HI.out]; exact turnB_size _ _
  rw [← HA.out] at C1
  rw [← HI.out] at C2
  obtain ⟨M, HM⟩ : ∃ M, Hid (M = ofN (sumN (I ++ s))) := ⟨_, rfl⟩
  have hMs : M.size = 32 := by rw [HM.out]; exact sumB_size _
  have C3 : Hid (∀ w, _) := fun w => rsum_any (I ++ s) w (by rw [ByteArray.size_append]; omega)
  have C4 : Hid (∀ w, _) := fun w => rsum_any (A ++ M) w (by rw [ByteArray.size_append]; omega)
  rw [← HM.out] at C3
  have HZ : Hid (macB key s = ofN (sumN (A ++ M))) := by show _ = _; rw [HM.out, HA.out, HI.out]; rfl
  obtain ⟨Z, hZ⟩ : ∃ Z, Z = ofN (sumN (A ++ M)) := ⟨_, rfl⟩
  rw [← hZ] at C4 HZ
  have hsum1 : ¬ (9223372036854775807 < I.size + s.size) := by omega
  have hsum2 : ¬ (9223372036854775807 < A.size + M.size) := by omega
  clear hZ HA HI HM hAs hIs hMs
  go_enter Tryd.func9, Tryd.ntmps9
  go_wp2_with fail
  refine (C1.out _).mono ?_
  rintro e w1 ⟨rfl, hb1⟩
  go_wp2_with fail
  refine (C2.out _).mono ?_
  rintro e w2 ⟨rfl, hb2⟩
  have hB2 := below_step hb1 (Nat.le_refl _) hb2
  go_wp2_with fail
  refine (C3.out _).mono ?_
  rintro e w3 ⟨rfl, hb3⟩
  have hB3 := below_step hB2 (Nat.le_refl _) hb3
  go_wp2_with fail
  refine (C4.out _).mono ?_
  rintro e w4 ⟨rfl, hb4⟩
  have hB4 := below_step hB3 (Nat.le_refl _) hb4
  go_wp2_with fail
  go_ret
  exact ⟨by rw [HZ.out]; rfl, hB4⟩

set_option maxHeartbeats 4000000 in
theorem check_any (key s mac : ByteArray) (w : World) (hk : key.size ≤ 65536) (hs : s.size ≤ 65472) (hB : GlobB w) (hK : GlobK w) :
    Calls Tryd.prog 10 #[.string key, .string s, .string mac] w fun e w' => e = .returned (.bool ((macB key s).toList == mac.toList)) ∧ Below w.heap.size w w' := by
  have C1 : Hid (Calls _ _ _ _ _) := mac_any key s w hk hs hB hK
  have C2 : Hid (∀ w, _) := fun w => same_any (macB key s) mac w (by rw [macB_size]; unfold maxLen; omega)
  generalize macB key s = M at *
  generalize (M.toList == mac.toList) = t at *
  clear hB hK
  go_enter Tryd.func10, Tryd.ntmps10
  go_wp2_with fail
  refine C1.out.mono ?_
  rintro e w1 ⟨rfl, hb1⟩
  go_wp2_with fail
  refine (C2.out _).mono ?_
  rintro e w2 ⟨rfl, hb2⟩
  have hB2 := below_step hb1 (Nat.le_refl _) hb2
  go_wp2_with fail
  go_ret
  exact ⟨rfl, hB2⟩

set_option maxHeartbeats 4000000 in
theorem rcheck_any (key s mac : ByteArray) (w : World) (hk : key.size ≤ 65536) (hs : s.size ≤ 65472) :
    Calls Tryd.prog 11 #[.string key, .string s, .string mac] w fun e w' => e = .returned (.bool ((macB key s).toList == mac.toList)) ∧ Below w.heap.size w w' := by
  have C1 : Hid (Calls _ _ _ _ _) := rmac_any key s w hk hs
  generalize macB key s = M at *
  go_enter Tryd.func11, Tryd.ntmps11
  go_wp2_with fail
  refine C1.out.mono ?_
  rintro e w1 ⟨rfl, hb1⟩
  go_wp2_with fail
  go_ret
  exact ⟨rfl, hb1⟩
end Go.Proofs.YtfbgofbjbfidoaaDoor
