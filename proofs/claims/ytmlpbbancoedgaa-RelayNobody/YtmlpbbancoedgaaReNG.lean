/- Layer 21, the code: answer, to a frame of one kind. -/
import Derived.Test.YtmlpbbancoedgaaReN
namespace Go.Proofs.Ytmlpbbancoedgaa
open Go.RowKit
set_option maxRecDepth 100000
set_option linter.unusedSimpArgs false
set_option linter.unusedVariables false






set_option maxHeartbeats 8000000 in
theorem answerG_any (g : Nat) (v : Value) (X : RlT) (N : Nat) (hX : RlOk N X) (hN : N ≤ 4611686018427387000) (s : ByteArray) (hs : s.size ≤ 1048576) (w : World) (h : RlAt w g v X) (h0 : (takeFC s).2 = 0) (hG : (takeFC s).1.2.1 ≠ X.1) :
    Calls Try.prog 35 #[.pointer (some ⟨g, 0, none⟩), .string s] w (DoTo w g v (hearF X s).1 (hearF X s).2) := by
  have HR0 : Hid (RlAt w g v X) := h
  have HK : Hid (RlOk N X ∧ N ≤ 4611686018427387000) := ⟨hX, hN⟩
  have hX0 : Blk (w.alloc (.cells zeroF 39)) 39 w.heap.size zeroF := Blk.new _ _ _
  have CT : Hid (Calls _ _ _ _ _) := takeF_any s (w.alloc (.cells zeroF 39)) hs
  have HO0 : Hid (Blk (w.alloc (.cells zeroF 39)) 39 w.heap.size zeroF) := hX0
  have HB0 : Hid (Below w.heap.size w (w.alloc (.cells zeroF 39))) := below_new w _
  have HF : Hid (FrOk (takeFC s).1) := takeFC_ok s
  have hfc : (takeFC s).2 = 0 ∨ (takeFC s).2 = 190 := by
    unfold takeFC
    split
    · exact .inr rfl
    · exact .inl rfl
  obtain ⟨R, hR⟩ : ∃ R, hearF X s = R := ⟨_, rfl⟩
  rw [hR]
  unfold hearF at hR
  obtain ⟨⟨F, E⟩, hFE⟩ : ∃ p, takeFC s = p := ⟨_, rfl⟩
  rw [hFE] at CT HF hfc hR h0 hG
  simp only at hfc hR h0 hG
  simp only [zeroF] at CT HO0 HB0
  obtain ⟨w0, hw0⟩ : ∃ w0, w.alloc (.cells #[.int .i64 0, .int .i64 0, .int .i64 0, .int .i64 0, .int .i64 0, .string ⟨#[]⟩, .slice none 0 0, .int .i64 0] 39) = w0 := ⟨_, rfl⟩
  rw [hw0] at CT HO0 HB0
  clear h hX hN hX0 hFE
  obtain ⟨Xg, hXg⟩ : ∃ Xg, X.1 = Xg := ⟨_, rfl⟩
  have HXG : Hid (X.1 = Xg) := hXg
  obtain ⟨Kd, G, S, Ep, M, bl, it, er⟩ := F
  simp only at hG
  subst h0
  rw [if_neg (by simp)] at hR
  unfold doR at hR
  rw [hXg] at hR hG
  simp only at hR
  clear hXg hfc
  rw [if_pos hG] at hR
  subst hR
  obtain ⟨ER, hER⟩ : ∃ ER : Int, ER = 1 := ⟨_, rfl⟩
  rw [← hER]
  cases hlo : lookIV (waysL g) Kd with
  | none =>
    have HLK : Hid (lookIV (waysL g) Kd = none) := hlo
    clear hlo
    go_enter Try.func35, Try.ntmps35
    go_wp2_with fail
    try rw [hw0]
    refine CT.out.mono ?_
    rintro e w1 ⟨a1, c1, rfl, _, _, _, hb1⟩
    simp only [frmA]
    have HB1 : Hid (Below w.heap.size w w1) := below_step HB0.out (Nat.le_refl _) hb1
    have HO1 : Hid (Blk w1 39 w.heap.size _) := HO0.out.on hb1
    obtain ⟨w2, hw2⟩ : ∃ w2, w1.alloc (.cells #[.int .i64 Kd, .int .i64 G, .int .i64 S, .int .i64 Ep, .int .i64 M, .string bl, .slice a1 it.length c1, .int .i64 er] 39) = w2 := ⟨_, rfl⟩
    have hbA : Below w1.heap.size w1 w2 := by rw [← hw2]; exact below_new _ _
    have HF2 : Hid (Blk w2 39 w1.heap.size #[.int .i64 Kd, .int .i64 G, .int .i64 S, .int .i64 Ep, .int .i64 M, .string bl, .slice a1 it.length c1, .int .i64 er]) := by show Blk _ _ _ _; rw [← hw2]; exact Blk.new _ _ _
    have HO2 : Hid (Blk w2 39 w.heap.size _) := HO1.out.on hbA
    have HB2 : Hid (Below w.heap.size w w2) := below_step HB1.out (Nat.le_refl _) hbA
    obtain ⟨hf, hhf⟩ : ∃ hf, w1.heap.size = hf := ⟨_, rfl⟩
    have HHF : Hid (w.heap.size < hf) := by have := HO1.out.lt; show _ < _; omega
    rw [hhf] at HF2
    clear hbA hb1 CT HB0 HO0 HB1 HO1 hw0
    go_wp2_with fail
    try rw [hw2]
    try rw [hhf]
    clear hw2 hhf
    have hz : ∀ w, (zeroValue 89).run Try.prog w = .ok .nilFunc w := fun w => by kernel_rfl
    have hS2 : w2.drew.cell? ⟨hf, 0, none⟩ = some (.int .i64 Kd) := HF2.out.cell 0
    refine wp_region_noPanic ?_
    refine wp_region_held_drew (S := fun W => W.cell? ⟨hf, 0, none⟩ = some (.int .i64 Kd)) (by kernel_rfl) (by first | exact trivial | assumption | exact ⟨by assumption, by assumption⟩) (fun hHeld => ?_)
    refine take_at (i := 0) (v := ?_) rfl rfl (by kernel_rfl) (by kernel_rfl) (by kernel_rfl) (fun _ _ _ h => h) (Or.inl ⟨by rfl, ?_⟩) (by assumption) ?_
    rotate_left
    · intro w hSw; (try dsimp only at hSw); go_simp; try with_reducible rfl
    try simp only [Act.put, List.setIfInBounds_toArray, List.set_cons_zero, List.set_cons_succ]
    refine take_at (i := 2) (v := ?_) rfl rfl (by kernel_rfl) (by kernel_rfl) (by kernel_rfl) (fun _ _ _ h => h) (Or.inl ⟨by rfl, ?_⟩) (by assumption) ?_
    rotate_left
    · intro w hSw; (try dsimp only at hSw); go_simp; try with_reducible rfl
    try simp only [Act.put, List.setIfInBounds_toArray, List.set_cons_zero, List.set_cons_succ]
    refine take_at (i := 3) (v := ?_) rfl rfl (by kernel_rfl) (by kernel_rfl) (by kernel_rfl) (fun _ _ _ h => h) (Or.inl ⟨by rfl, ?_⟩) (by assumption) ?_
    rotate_left
    · intro w hSw; (try dsimp only at hSw); go_simp; try with_reducible rfl
    try simp only [Act.put, List.setIfInBounds_toArray, List.set_cons_zero, List.set_cons_succ]
    refine wpAnyH_ready (rs := [1]) (by kernel_rfl) (by simp) ?_
    refine AllReadyH.cons rfl (fun K hK => ?_) AllReadyH.nil
    go_simp
    refine (ways_any g _).mono ?_
    rintro e w3 ⟨r, rfl, hm, hb3⟩
    have hlk := hm.look 91 _ Try.underlying91 .nilFunc hz Kd true
    rw [HLK.out] at hlk
    simp only [Option.getD_some, Option.getD_none, Option.isSome_some, Option.isSome_none, if_true] at hlk
    have HF3 : Hid (Blk w3 39 hf _) := (HF2.out.on (Below.refl _ _).drew).on hb3
    have HO3 : Hid (Blk w3 39 w.heap.size _) := (HO2.out.on (Below.refl _ _).drew).on hb3
    have HB3 : Hid (Below w.heap.size w w3) := below_step HB2.out.drew (Nat.le_refl _) hb3
    have hS3 : w3.cell? ⟨hf, 0, none⟩ = some (.int .i64 Kd) := HF3.out.cell 0
    clear HF2 HO2 HB2 hb3 hm hz hS2
    refine hK.out _ _ hS3 (fun hHeld => ?_)
    clear hK K
    refine wpAnyH_ready (rs := [4]) (by kernel_rfl) (by simp) ?_
    refine AllReadyH.cons rfl (fun K hK => ?_) AllReadyH.nil
    go_simp
    refine hK.out _ _ hS3 (fun hHeld => ?_)
    clear hK K
    refine take_at (i := 5) (v := ?_) rfl rfl (by kernel_rfl) (by kernel_rfl) (by kernel_rfl) (fun _ _ _ h => h) (Or.inl ⟨by rfl, ?_⟩) (by assumption) ?_
    rotate_left
    · intro w hSw; (try dsimp only at hSw); go_simp; try with_reducible rfl
    try simp only [Act.put, List.setIfInBounds_toArray, List.set_cons_zero, List.set_cons_succ]
    refine take_at (i := 6) (v := ?_) rfl rfl (by kernel_rfl) (by kernel_rfl) (by kernel_rfl) (fun _ _ _ h => h) (Or.inl ⟨by rfl, ?_⟩) (by assumption) ?_
    rotate_left
    · intro w hSw; (try dsimp only at hSw); go_simp; try with_reducible rfl
    try simp only [Act.put, List.setIfInBounds_toArray, List.set_cons_zero, List.set_cons_succ]
    refine take_at (i := 7) (v := ?_) rfl rfl (by kernel_rfl) (by kernel_rfl) (by kernel_rfl) (fun _ _ _ h => h) (Or.inl ⟨by rfl, ?_⟩) (by assumption) ?_
    rotate_left
    · intro w hSw; (try dsimp only at hSw); go_simp; try with_reducible rfl
    try simp only [Act.put, List.setIfInBounds_toArray, List.set_cons_zero, List.set_cons_succ]
    refine take_at (i := 8) (v := ?_) rfl rfl (by kernel_rfl) (by kernel_rfl) (by kernel_rfl) (fun _ _ _ h => h) (Or.inl ⟨by rfl, ?_⟩) (by assumption) ?_
    rotate_left
    · intro w hSw; (try dsimp only at hSw); go_simp; try with_reducible rfl
    try simp only [Act.put, List.setIfInBounds_toArray, List.set_cons_zero, List.set_cons_succ]
    refine take_at (i := 9) (v := ?_) rfl rfl (by kernel_rfl) (by kernel_rfl) (by kernel_rfl) (fun _ _ _ h => h) (Or.inl ⟨by rfl, ?_⟩) (by assumption) ?_
    rotate_left
    · intro w hSw; (try dsimp only at hSw); go_simp; try with_reducible rfl
    try simp only [Act.put, List.setIfInBounds_toArray, List.set_cons_zero, List.set_cons_succ]
    refine wpAnyH_done (by kernel_rfl) (NoPanic.normal ?_) _
    clear hlk
    have e1 : ∀ p : Beh w3, p.w'.cell? ⟨hf, 1, none⟩ = some (.int .i64 G) := fun p => p.cell (HF3.out.cell 1)
    have eg := grp_of HXG (HR0.out.on HB3.out)
    go_wp2_with fail
    have hne_ : Nonempty (Beh w3) := ⟨⟨_, Below.refl _ _⟩⟩
    refine wp_region_quiet_beh (by kernel_rfl) (by kernel_rfl) ?_
    repeat (quiet_step (fail))
    refine wpQuiet_nil ?_
    intro wq hw_
    obtain ⟨⟨wz_, hbq⟩, hw_⟩ := hw_
    subst hw_
    try dsimp only
    clear hne_
    have HF4 : Hid (Blk wq 39 hf _) := HF3.out.on hbq
    have HO4 : Hid (Blk wq 39 w.heap.size _) := HO3.out.on hbq
    have HB4 : Hid (Below w.heap.size w wq) := below_step HB3.out (Nat.le_refl _) hbq
    clear HF3 HO3 HB3 hbq e1 eg hS3
    obtain ⟨w3, hw3⟩ : ∃ w3, wq = w3 := ⟨_, rfl⟩
    rw [hw3] at HF4 HO4 HB4 ⊢
    have HF3 := HF4
    have HO3 := HO4
    have HB3 := HB4
    clear hw3 HF4 HO4 HB4
    clear HF3
    go_wp2_with fail
    rw [← hER]
    clear hER
    refine (refusal_row ER w3).mono ?_
    rintro e w4 ⟨rfl, hb4⟩
    have HX := HO3.out.on hb4
    have HB4 : Hid (Below w.heap.size w w4) := below_step HB3.out (Nat.le_refl _) hb4
    clear hb4
    go_wp2_with (with_reducible refine wpList_storeBlk rfl 39 _ _ rfl w.heap.size #[.int .i64 0, .int .i64 0, .int .i64 0, .int .i64 0, .int .i64 0, .string ⟨#[]⟩, .slice none 0 0, .int .i64 0] #[.int .i64 9, .int .i64 0, .int .i64 0, .int .i64 0, .int .i64 0, .string ⟨#[]⟩, .slice none 0 0, .int .i64 ER] ?hx ?hy HX rfl ?hi ?h1 ?_)
    try (case hx => rfl)
    try (case hy => rfl)
    try (case hi => first | kernel_rfl | exact Option.map_eq_some_iff.1 (by kernel_rfl))
    try (case h1 => simp [Value.oneCell'])
    exact bodyPost_row rfl w.heap.size #[.int .i64 9, .int .i64 0, .int .i64 0, .int .i64 0, .int .i64 0, .string ⟨#[]⟩, .slice none 0 0, .int .i64 ER] rfl rfl (HX.setRow _) _ Try.underlying39 rfl (by kernel_rfl) (doTo_none (A := errF ER) rfl rfl (HR0.out.to (below_setRow HB4.out (Nat.le_refl _) _)))
  | some u =>
    have HLK : Hid (lookIV (waysL g) Kd = some u) := hlo
    clear hlo
    go_enter Try.func35, Try.ntmps35
    go_wp2_with fail
    try rw [hw0]
    refine CT.out.mono ?_
    rintro e w1 ⟨a1, c1, rfl, _, _, _, hb1⟩
    simp only [frmA]
    have HB1 : Hid (Below w.heap.size w w1) := below_step HB0.out (Nat.le_refl _) hb1
    have HO1 : Hid (Blk w1 39 w.heap.size _) := HO0.out.on hb1
    obtain ⟨w2, hw2⟩ : ∃ w2, w1.alloc (.cells #[.int .i64 Kd, .int .i64 G, .int .i64 S, .int .i64 Ep, .int .i64 M, .string bl, .slice a1 it.length c1, .int .i64 er] 39) = w2 := ⟨_, rfl⟩
    have hbA : Below w1.heap.size w1 w2 := by rw [← hw2]; exact below_new _ _
    have HF2 : Hid (Blk w2 39 w1.heap.size #[.int .i64 Kd, .int .i64 G, .int .i64 S, .int .i64 Ep, .int .i64 M, .string bl, .slice a1 it.length c1, .int .i64 er]) := by show Blk _ _ _ _; rw [← hw2]; exact Blk.new _ _ _
    have HO2 : Hid (Blk w2 39 w.heap.size _) := HO1.out.on hbA
    have HB2 : Hid (Below w.heap.size w w2) := below_step HB1.out (Nat.le_refl _) hbA
    obtain ⟨hf, hhf⟩ : ∃ hf, w1.heap.size = hf := ⟨_, rfl⟩
    have HHF : Hid (w.heap.size < hf) := by have := HO1.out.lt; show _ < _; omega
    rw [hhf] at HF2
    clear hbA hb1 CT HB0 HO0 HB1 HO1 hw0
    go_wp2_with fail
    try rw [hw2]
    try rw [hhf]
    clear hw2 hhf
    have hz : ∀ w, (zeroValue 89).run Try.prog w = .ok .nilFunc w := fun w => by kernel_rfl
    have hS2 : w2.drew.cell? ⟨hf, 0, none⟩ = some (.int .i64 Kd) := HF2.out.cell 0
    refine wp_region_noPanic ?_
    refine wp_region_held_drew (S := fun W => W.cell? ⟨hf, 0, none⟩ = some (.int .i64 Kd)) (by kernel_rfl) (by first | exact trivial | assumption | exact ⟨by assumption, by assumption⟩) (fun hHeld => ?_)
    refine take_at (i := 0) (v := ?_) rfl rfl (by kernel_rfl) (by kernel_rfl) (by kernel_rfl) (fun _ _ _ h => h) (Or.inl ⟨by rfl, ?_⟩) (by assumption) ?_
    rotate_left
    · intro w hSw; (try dsimp only at hSw); go_simp; try with_reducible rfl
    try simp only [Act.put, List.setIfInBounds_toArray, List.set_cons_zero, List.set_cons_succ]
    refine take_at (i := 2) (v := ?_) rfl rfl (by kernel_rfl) (by kernel_rfl) (by kernel_rfl) (fun _ _ _ h => h) (Or.inl ⟨by rfl, ?_⟩) (by assumption) ?_
    rotate_left
    · intro w hSw; (try dsimp only at hSw); go_simp; try with_reducible rfl
    try simp only [Act.put, List.setIfInBounds_toArray, List.set_cons_zero, List.set_cons_succ]
    refine take_at (i := 3) (v := ?_) rfl rfl (by kernel_rfl) (by kernel_rfl) (by kernel_rfl) (fun _ _ _ h => h) (Or.inl ⟨by rfl, ?_⟩) (by assumption) ?_
    rotate_left
    · intro w hSw; (try dsimp only at hSw); go_simp; try with_reducible rfl
    try simp only [Act.put, List.setIfInBounds_toArray, List.set_cons_zero, List.set_cons_succ]
    refine wpAnyH_ready (rs := [1]) (by kernel_rfl) (by simp) ?_
    refine AllReadyH.cons rfl (fun K hK => ?_) AllReadyH.nil
    go_simp
    refine (ways_any g _).mono ?_
    rintro e w3 ⟨r, rfl, hm, hb3⟩
    have hlk := hm.look 91 _ Try.underlying91 .nilFunc hz Kd true
    rw [HLK.out] at hlk
    simp only [Option.getD_some, Option.getD_none, Option.isSome_some, Option.isSome_none, if_true] at hlk
    have HF3 : Hid (Blk w3 39 hf _) := (HF2.out.on (Below.refl _ _).drew).on hb3
    have HO3 : Hid (Blk w3 39 w.heap.size _) := (HO2.out.on (Below.refl _ _).drew).on hb3
    have HB3 : Hid (Below w.heap.size w w3) := below_step HB2.out.drew (Nat.le_refl _) hb3
    have hS3 : w3.cell? ⟨hf, 0, none⟩ = some (.int .i64 Kd) := HF3.out.cell 0
    clear HF2 HO2 HB2 hb3 hm hz hS2
    refine hK.out _ _ hS3 (fun hHeld => ?_)
    clear hK K
    refine wpAnyH_ready (rs := [4]) (by kernel_rfl) (by simp) ?_
    refine AllReadyH.cons rfl (fun K hK => ?_) AllReadyH.nil
    go_simp
    refine hK.out _ _ hS3 (fun hHeld => ?_)
    clear hK K
    refine take_at (i := 5) (v := ?_) rfl rfl (by kernel_rfl) (by kernel_rfl) (by kernel_rfl) (fun _ _ _ h => h) (Or.inl ⟨by rfl, ?_⟩) (by assumption) ?_
    rotate_left
    · intro w hSw; (try dsimp only at hSw); go_simp; try with_reducible rfl
    try simp only [Act.put, List.setIfInBounds_toArray, List.set_cons_zero, List.set_cons_succ]
    refine take_at (i := 6) (v := ?_) rfl rfl (by kernel_rfl) (by kernel_rfl) (by kernel_rfl) (fun _ _ _ h => h) (Or.inl ⟨by rfl, ?_⟩) (by assumption) ?_
    rotate_left
    · intro w hSw; (try dsimp only at hSw); go_simp; try with_reducible rfl
    try simp only [Act.put, List.setIfInBounds_toArray, List.set_cons_zero, List.set_cons_succ]
    refine take_at (i := 7) (v := ?_) rfl rfl (by kernel_rfl) (by kernel_rfl) (by kernel_rfl) (fun _ _ _ h => h) (Or.inl ⟨by rfl, ?_⟩) (by assumption) ?_
    rotate_left
    · intro w hSw; (try dsimp only at hSw); go_simp; try with_reducible rfl
    try simp only [Act.put, List.setIfInBounds_toArray, List.set_cons_zero, List.set_cons_succ]
    refine take_at (i := 8) (v := ?_) rfl rfl (by kernel_rfl) (by kernel_rfl) (by kernel_rfl) (fun _ _ _ h => h) (Or.inl ⟨by rfl, ?_⟩) (by assumption) ?_
    rotate_left
    · intro w hSw; (try dsimp only at hSw); go_simp; try with_reducible rfl
    try simp only [Act.put, List.setIfInBounds_toArray, List.set_cons_zero, List.set_cons_succ]
    refine take_at (i := 9) (v := ?_) rfl rfl (by kernel_rfl) (by kernel_rfl) (by kernel_rfl) (fun _ _ _ h => h) (Or.inl ⟨by rfl, ?_⟩) (by assumption) ?_
    rotate_left
    · intro w hSw; (try dsimp only at hSw); go_simp; try with_reducible rfl
    try simp only [Act.put, List.setIfInBounds_toArray, List.set_cons_zero, List.set_cons_succ]
    refine wpAnyH_done (by kernel_rfl) (NoPanic.normal ?_) _
    clear hlk
    have e1 : ∀ p : Beh w3, p.w'.cell? ⟨hf, 1, none⟩ = some (.int .i64 G) := fun p => p.cell (HF3.out.cell 1)
    have eg := grp_of HXG (HR0.out.on HB3.out)
    go_wp2_with fail
    have hne_ : Nonempty (Beh w3) := ⟨⟨_, Below.refl _ _⟩⟩
    refine wp_region_quiet_beh (by kernel_rfl) (by kernel_rfl) ?_
    repeat (quiet_step (fail))
    refine wpQuiet_nil ?_
    intro wq hw_
    obtain ⟨⟨wz_, hbq⟩, hw_⟩ := hw_
    subst hw_
    try dsimp only
    clear hne_
    have HF4 : Hid (Blk wq 39 hf _) := HF3.out.on hbq
    have HO4 : Hid (Blk wq 39 w.heap.size _) := HO3.out.on hbq
    have HB4 : Hid (Below w.heap.size w wq) := below_step HB3.out (Nat.le_refl _) hbq
    clear HF3 HO3 HB3 hbq e1 eg hS3
    obtain ⟨w3, hw3⟩ : ∃ w3, wq = w3 := ⟨_, rfl⟩
    rw [hw3] at HF4 HO4 HB4 ⊢
    have HF3 := HF4
    have HO3 := HO4
    have HB3 := HB4
    clear hw3 HF4 HO4 HB4
    clear HF3
    go_wp2_with fail
    rw [← hER]
    clear hER
    refine (refusal_row ER w3).mono ?_
    rintro e w4 ⟨rfl, hb4⟩
    have HX := HO3.out.on hb4
    have HB4 : Hid (Below w.heap.size w w4) := below_step HB3.out (Nat.le_refl _) hb4
    clear hb4
    go_wp2_with (with_reducible refine wpList_storeBlk rfl 39 _ _ rfl w.heap.size #[.int .i64 0, .int .i64 0, .int .i64 0, .int .i64 0, .int .i64 0, .string ⟨#[]⟩, .slice none 0 0, .int .i64 0] #[.int .i64 9, .int .i64 0, .int .i64 0, .int .i64 0, .int .i64 0, .string ⟨#[]⟩, .slice none 0 0, .int .i64 ER] ?hx ?hy HX rfl ?hi ?h1 ?_)
    try (case hx => rfl)
    try (case hy => rfl)
    try (case hi => first | kernel_rfl | exact Option.map_eq_some_iff.1 (by kernel_rfl))
    try (case h1 => simp [Value.oneCell'])
    exact bodyPost_row rfl w.heap.size #[.int .i64 9, .int .i64 0, .int .i64 0, .int .i64 0, .int .i64 0, .string ⟨#[]⟩, .slice none 0 0, .int .i64 ER] rfl rfl (HX.setRow _) _ Try.underlying39 rfl (by kernel_rfl) (doTo_none (A := errF ER) rfl rfl (HR0.out.to (below_setRow HB4.out (Nat.le_refl _) _)))
end Go.Proofs.Ytmlpbbancoedgaa
