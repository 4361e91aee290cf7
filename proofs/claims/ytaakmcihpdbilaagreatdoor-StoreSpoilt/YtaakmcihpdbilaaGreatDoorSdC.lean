/- Layer 18's laws: opens of a side. -/
import Derived.Test.YtaakmcihpdbilaaGreatDoorSdB
namespace Go.Proofs.YtaakmcihpdbilaaGreatDoor
open Go.RowKit
set_option maxRecDepth 100000
set_option linter.unusedSimpArgs false
set_option linter.unusedVariables false
set_option maxRecDepth 100000

theorem DevAt.keptS {w w' : World} {T : Nat → Prop} {g b : Nat} {D : DevT} (h : DevAt w g b D) (hk : KeptS T w w') (h1 : ¬ T g) (h2 : ¬ T b) : DevAt w' g b D := by
  obtain ⟨F, e1, ⟨cs, e2, e3⟩, e4⟩ := h
  refine ⟨F, ?_, ⟨cs, ?_, e3⟩, e4⟩
  · unfold Blk; rw [hk.block g e1.lt h1]; exact e1
  · unfold Blk; rw [hk.block b e2.lt h2]; exact e2
theorem Blk.keptS {w w' : World} {T : Nat → Prop} {t : TypeId} {g : Nat} {cs : Array Value} (h : Blk w t g cs) (hk : KeptS T w w') (h1 : ¬ T g) : Blk w' t g cs := by
  unfold Blk; rw [hk.block g h.lt h1]; exact h
theorem DevAt.all {w : World} {g b : Nat} {D : DevT} (h : DevAt w g b D) : AllB D.1 := by obtain ⟨F, _, _, _, h4, _⟩ := h; exact h4

theorem strs_keptS {w w' : World} {T : Nat → Prop} {a : Option Addr} {n : Nat} {l : List ByteArray} (h : StrsAt w a n l) (hk : KeptS T w w') (hx : ∀ x, a = some x → n = 0 ∨ ¬ T x.block) : StrsAt w' a n l := by
  refine ⟨h.1, ?_⟩
  rcases h.2 with h0 | ⟨b, off, rfl, hc⟩
  · exact .inl h0
  · rcases hx _ rfl with h0 | h0
    · exact .inl h0
    · refine .inr ⟨b, off, rfl, fun i hi => ?_⟩
      have h1 := hc i hi
      have hlt := World.block_lt_of_cell? w _ h1
      rw [← h1]
      unfold World.cell?
      simp only [hk.block b hlt h0]

set_option maxHeartbeats 4000000 in
theorem sd_opens (x g b : Nat) (sp : Value) (D : DevT) (X : StoT) (r c : Nat) (a : Option Addr) (cx : Nat) (W : World) (h : SdP W x g b sp D X r c a cx) (h2 : 2 ≤ D.1.length) (hl : D.1.length ≤ 2048) (hG : ∀ W', KeptS (Tri x g b) W W' → GlobB W' ∧ GlobK W') :
    Calls Tryz.prog 7 #[.pointer (some ⟨x, 0, none⟩)] W fun e w' => e = .returned (.bool true) ∧ KeptS (Tri x g b) W w' ∧ ∃ gs r' c' a' cx' B, SdS w' x gs g b (onB D) (openP D.1) r' c' a' cx' B ∧ W.heap.size ≤ gs := by
  have HG : Hid (∀ W', KeptS (Tri x g b) W W' → GlobB W' ∧ GlobK W') := hG
  have HP : Hid (SdP W x g b sp D X r c a cx) := h
  have HN : Hid (x ≠ g ∧ x ≠ b) := h.ne
  have HA : Hid (AllB D.1) := h.d.all
  have hM := stM_open D.1 h2 h.d.all
  obtain ⟨Y, hY⟩ : ∃ Y, openP D.1 = Y := ⟨_, rfl⟩
  have HY : Hid (openP D.1 = Y) := hY
  rw [hY] at hM ⊢
  have hYl : Y.2.1.length ≤ 1048576 := by have := hM.b; have := hM.l; omega
  have c2 : W.cell? ⟨x, 2, none⟩ = some (.slice (some ⟨r, 0, none⟩) D.1.length c) := h.bl.cell 2
  have c3 : W.cell? ⟨x, 3, none⟩ = some (.int .i64 D.2.1) := h.bl.cell 3
  have c4 : W.cell? ⟨x, 4, none⟩ = some (.bool D.2.2.1) := h.bl.cell 4
  have c5 : W.cell? ⟨x, 5, none⟩ = some (.int .i64 D.2.2.2) := h.bl.cell 5
  clear h hG hY hM
  go_enter Tryz.func7, Tryz.ntmps7
  go_wp2_with fail
  refine (ron17_any D _ W ⟨r, c, rfl, HP.out.r⟩).mono ?_
  rintro e w1 ⟨v1, rfl, hd1, hb1⟩
  obtain ⟨r1, c1, rfl, hr1⟩ := hd1
  have HP1 : Hid (SdP w1 x g b sp D X r c a cx) := HP.out.on hb1
  have HK1 : Hid (KeptS (Tri x g b) W w1) := (KeptS.ofBelow hb1).sub (fun _ e => e.elim)
  have HR1 : Hid (RowD w1 r1 c1 D.1) := hr1
  clear hr1 hb1 c2 c3 c4 c5 HP
  have c2 : w1.cell? ⟨x, 2, none⟩ = some (.slice (some ⟨r, 0, none⟩) D.1.length c) := HP1.out.bl.cell 2
  have c3 : w1.cell? ⟨x, 3, none⟩ = some (.int .i64 D.2.1) := HP1.out.bl.cell 3
  have c4 : w1.cell? ⟨x, 4, none⟩ = some (.bool D.2.2.1) := HP1.out.bl.cell 4
  have c5 : w1.cell? ⟨x, 5, none⟩ = some (.int .i64 D.2.2.2) := HP1.out.bl.cell 5
  have f2 := HP1.out.bl.free 2
  have f3 := HP1.out.bl.free 3
  have f4 := HP1.out.bl.free 4
  have f5 := HP1.out.bl.free 5
  have e9 : devA r1 c1 (onB D) = #[.slice (some ⟨r1, 0, none⟩) D.1.length c1, .int .i64 (-1), .bool false, .int .i64 D.2.2.2] := rfl
  rw [e9]
  obtain ⟨w2, hw2⟩ : ∃ w2, (((w1.setCell ⟨x, 2, none⟩ (.slice (some ⟨r1, 0, none⟩) D.1.length c1)).setCell ⟨x, 3, none⟩ (.int .i64 (-1))).setCell ⟨x, 4, none⟩ (.bool false)).setCell ⟨x, 5, none⟩ (.int .i64 D.2.2.2) = w2 := ⟨_, rfl⟩
  have k12 : Kept2 x none w1 w2 := by rw [← hw2]; exact ((((Kept2.refl x none w1).setCell ⟨x, 2, none⟩ rfl _).setCell ⟨x, 3, none⟩ rfl _).setCell ⟨x, 4, none⟩ rfl _).setCell ⟨x, 5, none⟩ rfl _
  have HB2 : Hid (Blk w2 32 x (sideC g sp (onB D) X r1 c1 a cx)) := by rw [← hw2]; exact (((HP1.out.bl.setAt 2 _).setAt 3 _).setAt 4 _).setAt 5 _
  have HK2 : Hid (KeptS (Tri x g b) W w2) := HK1.out.trans ((KeptS.ofKept k12).sub (fun _ e => .inl e))
  have hS12 : KeptS (fun k => k = x) w1 w2 := KeptS.ofKept k12
  have HD2 : Hid (DevAt w2 g b D) := HP1.out.d.keptS hS12 (fun e => HN.out.1 e.symm) (fun e => HN.out.2 e.symm)
  have HR2 : Hid (RowD w2 r1 c1 D.1) := HR1.out.keptS hS12 (HR1.out.apartB (by omega) HP1.out.bl rfl (fun s e => by cases e))
  have k0 : w1.cell? ⟨x, 0, none⟩ = some (.pointer (some ⟨g, 0, none⟩)) := HP1.out.bl.cell 0
  have k0' : w2.cell? ⟨x, 0, none⟩ = some (.pointer (some ⟨g, 0, none⟩)) := HB2.out.cell 0
  clear HP1 HK1 HR1 k12 hS12 e9
  go_wp2_with fail
  refine (don_any g b D _ HD2.out).mono ?_
  rintro e w3 ⟨rfl, hd3⟩
  clear hw2 c2 c3 c4 c5 f2 f3 f4 f5 k0
  have HK3 : Hid (KeptS (Tri x g b) W w3) := HK2.out.trans ((KeptS.ofDev hd3).sub (fun _ e => .inr e))
  have HB3 : Hid (Blk w3 32 x (sideC g sp (onB D) X r1 c1 a cx)) := HB2.out.keptS (KeptS.ofDev hd3) (fun e => e.elim HN.out.1 HN.out.2)
  have HR3 : Hid (RowD w3 r1 c1 D.1) := by
    obtain ⟨q1, q2⟩ := HR2.out.apart (by omega) HD2.out (by omega)
    exact HR2.out.keptS (KeptS.ofDev hd3) (fun e => e.elim q1 q2)
  have HD3 : Hid (DevAt w3 g b (onB D)) := hd3.1
  have HG3 : Hid (GlobB w3 ∧ GlobK w3) := HG.out _ HK3.out
  have k0 : w3.cell? ⟨x, 0, none⟩ = some (.pointer (some ⟨g, 0, none⟩)) := HB3.out.cell 0
  clear HK2 HB2 HR2 HD2 hd3 k0' HG
  go_wp2_with fail
  refine (open18_any g b (onB D) w3 HD3.out h2 hl rfl HG3.out.1 HG3.out.2).mono ?_
  rintro e w4 ⟨gs, S, rfl, hs4, hn4, hb4⟩
  have HS4 : Hid (StC w4 (fun k => k = gs) gs g Y) := ⟨hs4.1.trans (by rw [← HY.out]; rfl), fun _ => Iff.rfl, by rw [← HY.out]; exact hs4.2.2⟩
  have hgs4 : w3.heap.size ≤ gs := hn4 gs ((hs4.2.1 gs).2 rfl)
  have HK4 : Hid (KeptS (Tri x g b) W w4) := HK3.out.trans ((KeptS.ofBelow hb4).sub (fun _ e => e.elim))
  have Hgs : Hid (W.heap.size ≤ gs) := Nat.le_trans HK3.out.size hgs4
  have HB4 : Hid (Blk w4 32 x (sideC g sp (onB D) X r1 c1 a cx)) := HB3.out.on hb4
  have HR4 : Hid (RowD w4 r1 c1 D.1) := HR3.out.on hb4
  have HD4 : Hid (DevAt w4 g b (onB D)) := HD3.out.on hb4
  have c2 : w4.cell? ⟨x, 2, none⟩ = some (.slice (some ⟨r1, 0, none⟩) D.1.length c1) := HB4.out.cell 2
  have c3 : w4.cell? ⟨x, 3, none⟩ = some (.int .i64 (-1)) := HB4.out.cell 3
  have c4 : w4.cell? ⟨x, 4, none⟩ = some (.bool false) := HB4.out.cell 4
  have c5 : w4.cell? ⟨x, 5, none⟩ = some (.int .i64 D.2.2.2) := HB4.out.cell 5
  clear hs4 hn4 hb4 hgs4 HK3 HB3 HR3 HD3 HG3 k0
  have CO := ropen18_any (onB D) (.agg (devA r1 c1 (onB D))) w4 ⟨r1, c1, rfl, HR4.out⟩ h2 hl HA.out rfl
  rw [show (onB D).1 = D.1 from rfl, HY.out] at CO
  go_wp2_with fail
  refine CO.mono ?_
  rintro e w5 ⟨u5, rfl, hu5, hb5⟩
  obtain ⟨a5, c5x, rfl, hst5, hap5⟩ := hu5
  have HK5 : Hid (KeptS (Tri x g b) W w5) := HK4.out.trans ((KeptS.ofBelow hb5).sub (fun _ e => e.elim))
  have HB5 : Hid (Blk w5 32 x (sideC g sp (onB D) X r1 c1 a cx)) := HB4.out.on hb5
  have HR5 : Hid (RowD w5 r1 c1 D.1) := HR4.out.on hb5
  have HD5 : Hid (DevAt w5 g b (onB D)) := HD4.out.on hb5
  have HS5 : Hid (StC w5 (fun k => k = gs) gs g Y) := ⟨HS4.out.1.on hb5, HS4.out.2⟩
  have HT5 : Hid (StrsAt w5 a5 Y.2.1.length Y.2.1) := hst5
  have HX5 : Hid (∀ z, a5 = some z → w4.heap.size ≤ z.block) := hap5
  have HZ5 : Hid (x < w4.heap.size ∧ gs < w4.heap.size ∧ g < w4.heap.size ∧ b < w4.heap.size ∧ w4.heap.size ≤ w5.heap.size) := ⟨HB4.out.lt, HS4.out.1.lt, HD4.out.lt.1, HD4.out.lt.2, hb5.size⟩
  clear hst5 hap5 hb5 c2 c3 c4 c5 HK4 HB4 HR4 HD4 HS4 CO HA
  go_wp2_with fail
  obtain ⟨h6, hh6⟩ : ∃ h6, w5.heap.size = h6 := ⟨_, rfl⟩
  obtain ⟨V, hV⟩ : ∃ V, (w5.alloc (.cells #[.string Y.1, .slice a5 Y.2.1.length c5x, .int .i64 Y.2.2.1, .string Y.2.2.2] 30)).drew = V := ⟨_, rfl⟩
  have hbV : Below w5.heap.size w5 V := by rw [← hV]; exact (below_new w5 _).drew
  have HM : Hid (Blk V 30 h6 #[.string Y.1, .slice a5 Y.2.1.length c5x, .int .i64 Y.2.2.1, .string Y.2.2.2]) := by rw [← hV]; exact (Blk.new' w5 _ _ h6 hh6).on (Below.refl _ _).drew
  have HBV : Hid (Blk V 32 x (sideC g sp (onB D) X r1 c1 a cx)) := HB5.out.on hbV
  have hxV : x ≠ h6 := by have := HB5.out.lt; omega
  have hSV : V.cell? ⟨h6, 0, none⟩ = some (.string Y.1) ∧ V.cell? ⟨h6, 1, none⟩ = some (.slice a5 Y.2.1.length c5x) ∧ V.cell? ⟨h6, 2, none⟩ = some (.int .i64 Y.2.2.1) ∧ V.cell? ⟨h6, 3, none⟩ = some (.string Y.2.2.2) := ⟨HM.out.cell 0, HM.out.cell 1, HM.out.cell 2, HM.out.cell 3⟩
  rw [hh6]
  have hS0 := hSV
  rw [← hV] at hS0
  refine wp_region_noPanic ?_
  refine wp_region_held_drew (S := fun W' => W'.cell? ⟨h6, 0, none⟩ = some (.string Y.1) ∧ W'.cell? ⟨h6, 1, none⟩ = some (.slice a5 Y.2.1.length c5x) ∧ W'.cell? ⟨h6, 2, none⟩ = some (.int .i64 Y.2.2.1) ∧ W'.cell? ⟨h6, 3, none⟩ = some (.string Y.2.2.2)) (by kernel_rfl) (by first | exact trivial | assumption | exact ⟨by assumption, by assumption⟩) (fun hHeld => ?_)
  refine take_at (i := 0) (v := ?_) rfl rfl (by kernel_rfl) (by kernel_rfl) (by kernel_rfl) (fun _ _ _ h => h) (Or.inl ⟨by rfl, ?_⟩) (by assumption) ?_
  rotate_left
  · intro w hSw; (try dsimp only at hSw); go_simp; try with_reducible rfl
  try simp only [Act.put, List.setIfInBounds_toArray, List.set_cons_zero, List.set_cons_succ]
  refine take_at (i := 1) (v := ?_) rfl rfl (by kernel_rfl) (by kernel_rfl) (by kernel_rfl) (fun _ _ _ h => h) (Or.inl ⟨by rfl, ?_⟩) (by assumption) ?_
  rotate_left
  · intro w hSw; (try dsimp only at hSw); go_simp; try with_reducible rfl
  try simp only [Act.put, List.setIfInBounds_toArray, List.set_cons_zero, List.set_cons_succ]
  refine take_at (i := 2) (v := ?_) rfl rfl (by kernel_rfl) (by kernel_rfl) (by kernel_rfl) (fun _ _ _ h => h) (Or.inl ⟨by rfl, ?_⟩) (by assumption) ?_
  rotate_left
  · intro w hSw; (try dsimp only at hSw); go_simp; try with_reducible rfl
  try simp only [Act.put, List.setIfInBounds_toArray, List.set_cons_zero, List.set_cons_succ]
  refine take_at (i := 3) (v := ?_) rfl rfl (by kernel_rfl) (by kernel_rfl) (by kernel_rfl) (fun _ _ _ h => h) (Or.inl ⟨by rfl, ?_⟩) (by assumption) ?_
  rotate_left
  · intro w hSw; (try dsimp only at hSw); go_simp; try with_reducible rfl
  try simp only [Act.put, List.setIfInBounds_toArray, List.set_cons_zero, List.set_cons_succ]
  refine take_at (i := 4) (v := ?_) rfl rfl (by kernel_rfl) (by kernel_rfl) (by kernel_rfl) (fun _ _ _ h => h) (Or.inl ⟨by rfl, ?_⟩) (by assumption) ?_
  rotate_left
  · intro w hSw; (try dsimp only at hSw); go_simp; try with_reducible rfl
  try simp only [Act.put, List.setIfInBounds_toArray, List.set_cons_zero, List.set_cons_succ]
  refine take_at (i := 5) (v := ?_) rfl rfl (by kernel_rfl) (by kernel_rfl) (by kernel_rfl) (fun _ _ _ h => h) (Or.inl ⟨by rfl, ?_⟩) (by assumption) ?_
  rotate_left
  · intro w hSw; (try dsimp only at hSw); go_simp; try with_reducible rfl
  try simp only [Act.put, List.setIfInBounds_toArray, List.set_cons_zero, List.set_cons_succ]
  rw [hV]
  have l1 : V.cell? ⟨x, 1, none⟩ = some sp := HBV.out.cell 1
  have f1 := HBV.out.free 1
  have HBV2 : Hid (Blk (V.setCell ⟨x, 1, none⟩ (.pointer (some ⟨gs, 0, none⟩))) 32 x (sideC g (.pointer (some ⟨gs, 0, none⟩)) (onB D) X r1 c1 a cx)) := HBV.out.setAt 1 _
  have HMV2 : Hid (Blk (V.setCell ⟨x, 1, none⟩ (.pointer (some ⟨gs, 0, none⟩))) 30 h6 #[.string Y.1, .slice a5 Y.2.1.length c5x, .int .i64 Y.2.2.1, .string Y.2.2.2]) := HM.out.other ⟨x, 1, none⟩ (fun e => hxV e.symm) _
  refine wpAnyH_ready (rs := [6]) (by kernel_rfl) (by simp) ?_
  refine AllReadyH.cons rfl (fun K hK => ?_) AllReadyH.nil
  go_simp
  refine hK.out _ _ ⟨HMV2.out.cell 0, HMV2.out.cell 1, HMV2.out.cell 2, HMV2.out.cell 3⟩ (fun hHeld => ?_)
  clear hK K
  refine take_at (i := 7) (v := ?_) rfl rfl (by kernel_rfl) (by kernel_rfl) (by kernel_rfl) (fun _ _ _ h => h) (Or.inl ⟨by rfl, ?_⟩) (by assumption) ?_
  rotate_left
  · intro w hSw; (try dsimp only at hSw); go_simp; try with_reducible rfl
  try simp only [Act.put, List.setIfInBounds_toArray, List.set_cons_zero, List.set_cons_succ]
  refine take_at (i := 8) (v := ?_) rfl rfl (by kernel_rfl) (by kernel_rfl) (by kernel_rfl) (fun _ _ _ h => h) (Or.inl ⟨by rfl, ?_⟩) (by assumption) ?_
  rotate_left
  · intro w hSw; (try dsimp only at hSw); go_simp; try with_reducible rfl
  try simp only [Act.put, List.setIfInBounds_toArray, List.set_cons_zero, List.set_cons_succ]
  refine wpAnyH_ready (rs := [9]) (by kernel_rfl) (by simp) ?_
  refine AllReadyH.cons rfl (fun K hK => ?_) AllReadyH.nil
  refine step_storeAt rfl rfl 30 _ _ rfl x 6 32 (sideC g (.pointer (some ⟨gs, 0, none⟩)) (onB D) X r1 c1 a cx) #[.string Y.1, .slice a5 Y.2.1.length c5x, .int .i64 Y.2.2.1, .string Y.2.2.2] (sideC g (.pointer (some ⟨gs, 0, none⟩)) (onB D) Y r1 c1 a5 c5x) rfl rfl HBV2.out (by kernel_rfl) (by show 6 + 4 ≤ 10; decide) (by kernel_rfl) rfl ?_
  obtain ⟨w7, hw7⟩ : ∃ w7, (V.setCell ⟨x, 1, none⟩ (.pointer (some ⟨gs, 0, none⟩))).setRow x (sideC g (.pointer (some ⟨gs, 0, none⟩)) (onB D) Y r1 c1 a5 c5x) = w7 := ⟨_, rfl⟩
  have hK7 : KeptS (fun k => k = x) w5 w7 := by
    rw [← hw7]
    exact (((KeptS.ofBelow hbV).sub (fun _ e => e.elim)).trans (KeptS.ofKept ((Kept2.refl x none V).setCell ⟨x, 1, none⟩ rfl _))).setRow x rfl _
  have HK7 : Hid (KeptS (Tri x g b) W w7) := HK5.out.trans (hK7.sub (fun _ e => .inl e))
  have hgsx : gs ≠ x := fun e => blk_apart HS5.out.1 HB5.out (by decide) e
  have HS7 : Hid (SdS w7 x gs g b (onB D) Y r1 c1 a5 c5x w4.heap.size) := by
    have hz := HZ5.out
    refine ⟨by rw [← hw7]; exact HBV2.out.setRow _, HD5.out.keptS hK7 (fun e => HN.out.1 e.symm) (fun e => HN.out.2 e.symm), ⟨HS5.out.1.keptS hK7 hgsx, HS5.out.2⟩, HR5.out.keptS hK7 (HR5.out.apartB (show 0 < D.1.length by omega) HB5.out rfl (fun s e => by cases e)), ?_, HX5.out, hz.1, hz.2.1, hz.2.2.1, hz.2.2.2.1, Nat.le_trans hz.2.2.2.2 hK7.size⟩
    refine strs_keptS HT5.out hK7 (fun z hz2 => ?_)
    right
    have := HX5.out z hz2
    intro e
    omega
  have HMV7 : w7.cell? ⟨h6, 0, none⟩ = some (.string Y.1) ∧ w7.cell? ⟨h6, 1, none⟩ = some (.slice a5 Y.2.1.length c5x) ∧ w7.cell? ⟨h6, 2, none⟩ = some (.int .i64 Y.2.2.1) ∧ w7.cell? ⟨h6, 3, none⟩ = some (.string Y.2.2.2) := by
    have := HMV2.out.setRowOther x (fun e => hxV e.symm) (sideC g (.pointer (some ⟨gs, 0, none⟩)) (onB D) Y r1 c1 a5 c5x)
    rw [hw7] at this
    exact ⟨this.cell 0, this.cell 1, this.cell 2, this.cell 3⟩
  rw [hw7]
  refine hK.out _ _ HMV7 (fun hHeld => ?_)
  clear hK K
  refine wpAnyH_done (by kernel_rfl) (NoPanic.normal ?_) _
  clear hS0 hSV HMV7 HMV2 HBV2 HBV HM l1 f1 hw7 hV hbV hK7 HK5 HB5 HR5 HD5 HS5 HT5 HX5 HZ5
  go_wp2_with fail
  refine (sd_same x gs g b (onB D) Y r1 c1 a5 c5x _ w7 HS7.out rfl (by show D.1.length ≤ 4096; omega) hYl).mono ?_
  rintro e w8 ⟨rfl, hb8⟩
  have HS8 : Hid (SdS w8 x gs g b (onB D) Y r1 c1 a5 c5x w4.heap.size) := HS7.out.on hb8
  have HK8 : Hid (KeptS (Tri x g b) W w8) := HK7.out.trans ((KeptS.ofBelow hb8).sub (fun _ e => e.elim))
  clear HS7 HK7 hb8
  go_wp2_with fail
  go_ret
  exact ⟨rfl, HK8.out, gs, r1, c1, a5, c5x, _, HS8.out, Hgs.out⟩

end Go.Proofs.YtaakmcihpdbilaaGreatDoor
