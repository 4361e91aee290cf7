/- Layer 18's laws: does of a side, a fuse and an opening; any call. -/
import Derived.Test.YtaakmcihpdbilaaGreatDoorSdD
namespace Go.Proofs.YtaakmcihpdbilaaGreatDoor
open Go.RowKit
set_option maxRecDepth 100000
set_option linter.unusedSimpArgs false
set_option linter.unusedVariables false
set_option maxRecDepth 100000

set_option maxHeartbeats 1000000 in
theorem sd_again (x gs g b : Nat) (D : DevT) (X : StoT) (r c : Nat) (a : Option Addr) (cx B n : Nat) (c0 : Int) (k N : Int) (t : ByteArray) (W : World) (h : DoS W x gs g b D X r c a cx B n c0) (hn2 : 2 ≤ n) (hn9 : n ≤ 2048) (h1 : k ≠ 1) (h2 : k ≠ 2) (h3 : k ≠ 3) (hG : ∀ W', KeptS (Qua x gs g b) W W' → GlobB W' ∧ GlobK W') :
    Calls Tryz.prog 9 #[.pointer (some ⟨x, 0, none⟩), .agg #[.int .i64 k, .int .i64 N, .string t]] W fun e w' => e = .returned (.bool true) ∧ KeptS (Qua x gs g b) W w' ∧ ∃ gs' D' X' r' c' a' cx' B', DoS w' x gs' g b D' X' r' c' a' cx' B' n (c0 + 1024) ∧ (gs' = gs ∨ W.heap.size ≤ gs') := by
  have Hlen : Hid (D.1.length = n) := h.v.len
  have HD : Hid (DoS W x gs g b D X r c a cx B n c0) := h
  have HG : Hid (∀ W', KeptS (Qua x gs g b) W W' → GlobB W' ∧ GlobK W') := hG
  have q1 : (k == 1) = false := by rw [beq_eq_false_iff_ne]; exact h1
  have q2 : (k == 2) = false := by rw [beq_eq_false_iff_ne]; exact h2
  have q3 : (k == 3) = false := by rw [beq_eq_false_iff_ne]; exact h3
  have HB0 : Hid (Below W.heap.size W (W.alloc (.cells #[.int .i64 k, .int .i64 N, .string t] 40))) := below_new W _
  have HM4 : Hid (StM n (openP D.1)) := by
    have h9 := stM_open D.1 (by rw [Hlen.out]; exact hn2) h.s.d.all
    rw [Hlen.out] at h9
    exact h9
  clear h hG h1 h2 h3
  go_enter Tryz.func9, Tryz.ntmps9
  go_wp2_with fail
  have HS0 := HD.out.s.on HB0.out
  have HK0 : Hid (KeptS (Qua x gs g b) W (W.alloc (.cells #[.int .i64 k, .int .i64 N, .string t] 40))) := (KeptS.ofBelow HB0.out).sub (fun _ e => e.elim)
  refine (sd_opens x g b (.pointer (some ⟨gs, 0, none⟩)) D X r c a cx _ ⟨HS0.bl, HS0.d, HS0.r⟩ (by rw [Hlen.out]; exact hn2) (by rw [Hlen.out]; exact hn9) (fun W' e => HG.out W' (HK0.out.trans (e.sub (fun k hk => tri_qua hk))))).mono ?_
  rintro e w4 ⟨rfl, k4, gs4, r4, c4, a4, cx4, B4, hs4, hg4⟩
  have HK4 : Hid (KeptS (Qua x gs g b) W w4) := HK0.out.trans (k4.sub (fun k hk => tri_qua hk))
  have HS4 : Hid (SdS w4 x gs4 g b (onB D) (openP D.1) r4 c4 a4 cx4 B4) := hs4
  have Hg4 : Hid (W.heap.size ≤ gs4) := Nat.le_trans HK0.out.size hg4
  clear k4 hs4 hg4 HS0
  go_wp2_with fail
  go_ret
  have hv := HD.out.v
  exact ⟨rfl, HK4.out, gs4, onB D, openP D.1, r4, c4, a4, cx4, B4, ⟨HS4.out, rfl, ⟨hv.len, hv.n0, by have := hv.n1; show D.2.2.2 ≤ c0 + 1024; omega, by show (-1 : Int) ≤ -1; omega, by show (-1 : Int) ≤ _; omega⟩, HM4.out⟩, .inr Hg4.out⟩

set_option maxHeartbeats 2000000 in
theorem sd_fuse (x gs g b : Nat) (D : DevT) (X : StoT) (r c : Nat) (a : Option Addr) (cx B n : Nat) (c0 : Int) (N : Int) (t : ByteArray) (W : World) (h : DoS W x gs g b D X r c a cx B n c0) (hn2 : 2 ≤ n) (hn9 : n ≤ 2048) (hN : N ≤ 9223372036854775807) :
    Calls Tryz.prog 9 #[.pointer (some ⟨x, 0, none⟩), .agg #[.int .i64 3, .int .i64 N, .string t]] W fun e w' => e = .returned (.bool true) ∧ KeptS (Qua x gs g b) W w' ∧ ∃ gs' D' X' r' c' a' cx' B', DoS w' x gs' g b D' X' r' c' a' cx' B' n (c0 + 1024) ∧ (gs' = gs ∨ W.heap.size ≤ gs') := by
  have Hlen : Hid (D.1.length = n) := h.v.len
  have HD : Hid (DoS W x gs g b D X r c a cx B n c0) := h
  have HN : Hid (x ≠ gs ∧ x ≠ g ∧ x ≠ b ∧ gs ≠ g ∧ gs ≠ b) := h.s.ne
  clear h
  go_enter Tryz.func9, Tryz.ntmps9
  go_wp2_with fail
  obtain ⟨ha, hha⟩ : ∃ ha, W.heap.size = ha := ⟨_, rfl⟩
  obtain ⟨w0, hw0⟩ : ∃ w0, W.alloc (.cells #[.int .i64 3, .int .i64 N, .string t] 40) = w0 := ⟨_, rfl⟩
  have HB0 : Hid (Below W.heap.size W w0) := by rw [← hw0]; exact below_new W _
  have HA0 : Hid (Blk w0 40 ha #[.int .i64 3, .int .i64 N, .string t]) := by rw [← hw0]; exact Blk.new' W _ _ ha hha
  rw [hw0, hha]
  obtain ⟨V, hV⟩ : ∃ V, w0.drew = V := ⟨_, rfl⟩
  have HBV : Hid (Below W.heap.size W V) := by rw [← hV]; exact HB0.out.drew
  have HAV : Hid (Blk V 40 ha #[.int .i64 3, .int .i64 N, .string t]) := by rw [← hV]; exact HA0.out.on (Below.refl _ _).drew
  have HSV : Hid (SdS V x gs g b D X r c a cx B) := HD.out.s.on HBV.out
  have Hha : Hid (W.heap.size = ha) := hha
  have hS : V.cell? ⟨x, 2, none⟩ = some (.slice (some ⟨r, 0, none⟩) D.1.length c) ∧ V.cell? ⟨x, 3, none⟩ = some (.int .i64 D.2.1) ∧ V.cell? ⟨x, 4, none⟩ = some (.bool D.2.2.1) ∧ V.cell? ⟨x, 5, none⟩ = some (.int .i64 D.2.2.2) ∧ V.cell? ⟨ha, 1, none⟩ = some (.int .i64 N) := ⟨HSV.out.bl.cell 2, HSV.out.bl.cell 3, HSV.out.bl.cell 4, HSV.out.bl.cell 5, HAV.out.cell 1⟩
  have hT : True := trivial
  have CF : Hid (Calls _ _ _ _ _) := rfuse17_any D (.agg (devA r c D)) N V ⟨r, c, rfl, HSV.out.r⟩
  simp only [devA] at CF
  clear hw0 hha HA0 HB0
  refine wp_region_noPanic ?_
  refine till_begin 7 (fun V => V.cell? ⟨x, 2, none⟩ = some (.slice (some ⟨r, 0, none⟩) D.1.length c) ∧ V.cell? ⟨x, 3, none⟩ = some (.int .i64 D.2.1) ∧ V.cell? ⟨x, 4, none⟩ = some (.bool D.2.2.1) ∧ V.cell? ⟨x, 5, none⟩ = some (.int .i64 D.2.2.2) ∧ V.cell? ⟨ha, 1, none⟩ = some (.int .i64 N)) (fun _ => True) (by kernel_rfl) ?_
  rw [hV]
  refine till_take (i := 0) (v := ?_) rfl rfl (by kernel_rfl) (by kernel_rfl) (by kernel_rfl) rfl (fun _ _ _ h => h) (Or.inl ⟨by rfl, ?_⟩) (by assumption) (fun _ => by assumption) ?_
  rotate_left
  · intro w hSw; (try dsimp only at hSw); go_simp; try with_reducible rfl
  try simp only [Act.put, List.setIfInBounds_toArray, List.set_cons_zero, List.set_cons_succ]
  refine till_take (i := 1) (v := ?_) rfl rfl (by kernel_rfl) (by kernel_rfl) (by kernel_rfl) rfl (fun _ _ _ h => h) (Or.inl ⟨by rfl, ?_⟩) (by assumption) (fun _ => by assumption) ?_
  rotate_left
  · intro w hSw; (try dsimp only at hSw); go_simp; try with_reducible rfl
  try simp only [Act.put, List.setIfInBounds_toArray, List.set_cons_zero, List.set_cons_succ]
  refine till_take (i := 2) (v := ?_) rfl rfl (by kernel_rfl) (by kernel_rfl) (by kernel_rfl) rfl (fun _ _ _ h => h) (Or.inl ⟨by rfl, ?_⟩) (by assumption) (fun _ => by assumption) ?_
  rotate_left
  · intro w hSw; (try dsimp only at hSw); go_simp; try with_reducible rfl
  try simp only [Act.put, List.setIfInBounds_toArray, List.set_cons_zero, List.set_cons_succ]
  refine till_take (i := 3) (v := ?_) rfl rfl (by kernel_rfl) (by kernel_rfl) (by kernel_rfl) rfl (fun _ _ _ h => h) (Or.inl ⟨by rfl, ?_⟩) (by assumption) (fun _ => by assumption) ?_
  rotate_left
  · intro w hSw; (try dsimp only at hSw); go_simp; try with_reducible rfl
  try simp only [Act.put, List.setIfInBounds_toArray, List.set_cons_zero, List.set_cons_succ]
  refine till_take (i := 5) (v := ?_) rfl rfl (by kernel_rfl) (by kernel_rfl) (by kernel_rfl) rfl (fun _ _ _ h => h) (Or.inl ⟨by rfl, ?_⟩) (by assumption) (fun _ => by assumption) ?_
  rotate_left
  · intro w hSw; (try dsimp only at hSw); go_simp; try with_reducible rfl
  try simp only [Act.put, List.setIfInBounds_toArray, List.set_cons_zero, List.set_cons_succ]
  refine till_take' (i := 4) (v := ?_) rfl rfl (by kernel_rfl) (by kernel_rfl) (by kernel_rfl) rfl (by kernel_rfl) (by kernel_rfl) (fun _ _ _ h => h) (Or.inl ⟨by rfl, ?_⟩) (by assumption) (by assumption) ?_
  rotate_left
  · intro w hSw; (try dsimp only at hSw); go_simp; try with_reducible rfl
  try simp only [Act.put, List.setIfInBounds_toArray, List.set_cons_zero, List.set_cons_succ]
  refine till_take' (i := 6) (v := ?_) rfl rfl (by kernel_rfl) (by kernel_rfl) (by kernel_rfl) rfl (by kernel_rfl) (by kernel_rfl) (fun _ _ _ h => h) (Or.inl ⟨by rfl, ?_⟩) (by assumption) (by assumption) ?_
  rotate_left
  · intro w hSw; (try dsimp only at hSw); go_simp; try with_reducible rfl
  try simp only [Act.put, List.setIfInBounds_toArray, List.set_cons_zero, List.set_cons_succ]
  refine till_step (i := 7) (by kernel_rfl) rfl (fun K hK => ?_)
  go_simp
  refine CF.out.mono ?_
  rintro e w2 ⟨v2, rfl, hv2, hb2⟩
  obtain ⟨r2, c2, rfl, hr2⟩ := hv2
  have HS2 : Hid (SdS w2 x gs g b D X r c a cx B) := HSV.out.on hb2
  have HA2 : Hid (Blk w2 40 ha #[.int .i64 3, .int .i64 N, .string t]) := HAV.out.on hb2
  have HR2 : Hid (RowD w2 r2 c2 D.1) := hr2
  have HB2 : Hid (Below W.heap.size W w2) := below_step HBV.out (Nat.le_refl _) hb2
  clear hr2 hb2 CF HSV HAV HBV hS hV
  refine hK.out _ _ (trivial) (fun h => till_no (by kernel_rfl) h) ?_
  clear hK K
  refine till_take (i := 8) (v := ?_) rfl rfl (by kernel_rfl) (by kernel_rfl) (by kernel_rfl) rfl (fun _ _ _ h => h) (Or.inl ⟨by rfl, ?_⟩) (by assumption) (fun h => till_no (by kernel_rfl) h) ?_
  rotate_left
  · intro w hSw; (try dsimp only at hSw); go_simp; try with_reducible rfl
  try simp only [Act.put, List.setIfInBounds_toArray, List.set_cons_zero, List.set_cons_succ]
  refine till_take (i := 9) (v := ?_) rfl rfl (by kernel_rfl) (by kernel_rfl) (by kernel_rfl) rfl (fun _ _ _ h => h) (Or.inl ⟨by rfl, ?_⟩) (by assumption) (fun h => till_no (by kernel_rfl) h) ?_
  rotate_left
  · intro w hSw; (try dsimp only at hSw); go_simp; try with_reducible rfl
  try simp only [Act.put, List.setIfInBounds_toArray, List.set_cons_zero, List.set_cons_succ]
  refine till_step (i := 10) (by kernel_rfl) rfl (fun K hK => ?_)
  refine step_storeAt rfl rfl 28 _ _ rfl x 2 32 (sideC g (.pointer (some ⟨gs, 0, none⟩)) D X r c a cx) (devA r2 c2 (fuseB D N)) (sideC g (.pointer (some ⟨gs, 0, none⟩)) (fuseB D N) X r2 c2 a cx) rfl rfl HS2.out.bl (by kernel_rfl) (by show 2 + 4 ≤ 10; decide) (by kernel_rfl) rfl ?_
  obtain ⟨w3, hw3⟩ : ∃ w3, w2.setRow x (sideC g (.pointer (some ⟨gs, 0, none⟩)) (fuseB D N) X r2 c2 a cx) = w3 := ⟨_, rfl⟩
  have hK3 : KeptS (fun k => k = x) w2 w3 := by rw [← hw3]; exact (KeptS.refl (fun k => k = x) w2).setRow x rfl _
  have HX3 : Hid (Blk w3 32 x (sideC g (.pointer (some ⟨gs, 0, none⟩)) (fuseB D N) X r2 c2 a cx)) := by rw [← hw3]; exact HS2.out.bl.setRow _
  have HD3 : Hid (DevAt w3 g b D) := HS2.out.d.keptS hK3 (fun e => HN.out.2.1 e.symm) (fun e => HN.out.2.2.1 e.symm)
  have HC3 : Hid (StC w3 (fun k => k = gs) gs g X) := ⟨HS2.out.s.1.keptS hK3 (fun e => HN.out.1 e.symm), HS2.out.s.2⟩
  have HR3 : Hid (RowD w3 r2 c2 D.1) := HR2.out.keptS hK3 (HR2.out.apartB (by rw [Hlen.out]; omega) HS2.out.bl rfl (fun s e => by cases e))
  have HT3 : Hid (StrsAt w3 a X.2.1.length X.2.1) := strs_keptS HS2.out.t hK3 (fun q hq2 => .inr (fun e => by have h1 := HD.out.s.ap q hq2; have h2 := HD.out.s.lt; omega))
  have HK3 : Hid (KeptS (Qua x gs g b) W w3) := ((KeptS.ofBelow HB2.out).sub (fun _ e => e.elim)).trans (hK3.sub (fun _ e => .inl e))
  have HA3 : Hid (Blk w3 40 ha #[.int .i64 3, .int .i64 N, .string t]) := HA2.out.keptS hK3 (fun e => by have h2 := HD.out.s.lt; have h3 := Hha.out; omega)
  rw [hw3]
  refine hK.out _ _ (trivial) (fun h => till_no (by kernel_rfl) h) ?_
  clear hK K
  refine till_done (by kernel_rfl) (NoPanic.normal ?_) _
  clear hw3 hK3 HS2 HA2 HR2 HB2
  have hS4 : w3.drew.cell? ⟨x, 0, none⟩ = some (.pointer (some ⟨g, 0, none⟩)) ∧ w3.drew.cell? ⟨ha, 1, none⟩ = some (.int .i64 N) := ⟨(HX3.out.on (Below.refl _ _).drew).cell 0, (HA3.out.on (Below.refl _ _).drew).cell 1⟩
  have CD : Hid (Calls _ _ _ _ _) := dfuse_any g b D N w3.drew (HD3.out.on (Below.refl _ _).drew) hN
  go_wp2_with fail
  refine wp_region_noPanic ?_
  refine wp_region_held_drew (S := fun W' => W'.cell? ⟨x, 0, none⟩ = some (.pointer (some ⟨g, 0, none⟩)) ∧ W'.cell? ⟨ha, 1, none⟩ = some (.int .i64 N)) (by kernel_rfl) (by first | exact trivial | assumption | exact ⟨by assumption, by assumption⟩) (fun hHeld => ?_)
  refine take_at (i := 0) (v := ?_) rfl rfl (by kernel_rfl) (by kernel_rfl) (by kernel_rfl) (fun _ _ _ h => h) (Or.inl ⟨by rfl, ?_⟩) (by assumption) ?_
  rotate_left
  · intro w hSw; (try dsimp only at hSw); go_simp; try with_reducible rfl
  try simp only [Act.put, List.setIfInBounds_toArray, List.set_cons_zero, List.set_cons_succ]
  refine take_at (i := 1) (v := ?_) rfl rfl (by kernel_rfl) (by kernel_rfl) (by kernel_rfl) (fun _ _ _ h => h) (Or.inl ⟨by rfl, ?_⟩) (by assumption) ?_
  rotate_left
  · intro w hSw; (try dsimp only at hSw); go_simp; try with_reducible rfl
  try simp only [Act.put, List.setIfInBounds_toArray, List.set_cons_zero, List.set_cons_succ]
  refine take_at (i := 2) (v := ?_) rfl rfl (by kernel_rfl) (by kernel_rfl) (by kernel_rfl) (fun _ _ _ h => h) (Or.inl ⟨by rfl, ?_⟩) (by assumption) ?_
  rotate_left
  · intro w hSw; (try dsimp only at hSw); go_simp; try with_reducible rfl
  try simp only [Act.put, List.setIfInBounds_toArray, List.set_cons_zero, List.set_cons_succ]
  refine take_at (i := 3) (v := ?_) rfl rfl (by kernel_rfl) (by kernel_rfl) (by kernel_rfl) (fun _ _ _ h => h) (Or.inl ⟨by rfl, ?_⟩) (by assumption) ?_
  rotate_left
  · intro w hSw; (try dsimp only at hSw); go_simp; try with_reducible rfl
  try simp only [Act.put, List.setIfInBounds_toArray, List.set_cons_zero, List.set_cons_succ]
  refine take_at (i := 4) (v := ?_) rfl rfl (by kernel_rfl) (by kernel_rfl) (by kernel_rfl) (fun _ _ _ h => h) (Or.inl ⟨by rfl, ?_⟩) (by assumption) ?_
  rotate_left
  · intro w hSw; (try dsimp only at hSw); go_simp; try with_reducible rfl
  try simp only [Act.put, List.setIfInBounds_toArray, List.set_cons_zero, List.set_cons_succ]
  refine take_at (i := 5) (v := ?_) rfl rfl (by kernel_rfl) (by kernel_rfl) (by kernel_rfl) (fun _ _ _ h => h) (Or.inl ⟨by rfl, ?_⟩) (by assumption) ?_
  rotate_left
  · intro w hSw; (try dsimp only at hSw); go_simp; try with_reducible rfl
  try simp only [Act.put, List.setIfInBounds_toArray, List.set_cons_zero, List.set_cons_succ]
  refine wpAnyH_ready (rs := [6]) (by kernel_rfl) (by simp) ?_
  refine AllReadyH.cons rfl (fun K hK => ?_) AllReadyH.nil
  go_simp
  refine CD.out.mono ?_
  rintro e w4 ⟨rfl, hd4⟩
  have hb3 : Below w3.heap.size w3 w3.drew := (Below.refl _ _).drew
  have hk34 : KeptS (fun k => k = g ∨ k = b) w3 w4 := ((KeptS.ofBelow hb3).sub (fun _ e => e.elim)).trans (KeptS.ofDev hd4)
  have HK4 : Hid (KeptS (Qua x gs g b) W w4) := HK3.out.trans (hk34.sub (fun _ e => .inr (.inr e)))
  have HS4 : Hid (SdS w4 x gs g b (fuseB D N) X r2 c2 a cx B) := by
    have h1 := HD.out.s.lt
    obtain ⟨q1, q2⟩ := HR3.out.apart (by rw [Hlen.out]; omega) HD3.out (by rw [Hlen.out]; omega)
    exact ⟨HX3.out.keptS hk34 (fun e => e.elim HN.out.2.1 HN.out.2.2.1), hd4.1, ⟨HC3.out.1.keptS hk34 (fun e => e.elim HN.out.2.2.2.1 HN.out.2.2.2.2), HC3.out.2⟩, HR3.out.keptS hk34 (fun e => e.elim q1 q2), strs_keptS HT3.out hk34 (fun q hq2 => .inr (fun e => by have h3 := HD.out.s.ap q hq2; rcases e with e | e <;> omega)), HD.out.s.ap, h1.1, h1.2.1, h1.2.2.1, h1.2.2.2.1, Nat.le_trans h1.2.2.2.2 HK4.out.size⟩
  have HA4 : Hid (Blk w4 40 ha #[.int .i64 3, .int .i64 N, .string t]) := HA3.out.keptS hk34 (fun e => by have h2 := HD.out.s.lt; have h3 := Hha.out; rcases e with e | e <;> omega)
  clear hd4 hb3 hk34 CD HX3 HD3 HC3 HR3 HT3 HK3 HA3 hS4
  refine hK.out _ _ ⟨HS4.out.bl.cell 0, HA4.out.cell 1⟩ (fun hHeld => ?_)
  clear hK K
  refine take_at (i := 7) (v := ?_) rfl rfl (by kernel_rfl) (by kernel_rfl) (by kernel_rfl) (fun _ _ _ h => h) (Or.inl ⟨by rfl, ?_⟩) (by assumption) ?_
  rotate_left
  · intro w hSw; (try dsimp only at hSw); go_simp; try with_reducible rfl
  try simp only [Act.put, List.setIfInBounds_toArray, List.set_cons_zero, List.set_cons_succ]
  refine take_at (i := 8) (v := ?_) rfl rfl (by kernel_rfl) (by kernel_rfl) (by kernel_rfl) (fun _ _ _ h => h) (Or.inl ⟨by rfl, ?_⟩) (by assumption) ?_
  rotate_left
  · intro w hSw; (try dsimp only at hSw); go_simp; try with_reducible rfl
  try simp only [Act.put, List.setIfInBounds_toArray, List.set_cons_zero, List.set_cons_succ]
  refine wpAnyH_done (by kernel_rfl) (NoPanic.normal ?_) _
  go_wp2_with fail
  go_ret
  have hv := HD.out.v
  refine ⟨rfl, HK4.out, gs, fuseB D N, X, r2, c2, a, cx, B, ⟨HS4.out, HD.out.o, ⟨hv.len, hv.n0, by have := hv.n1; show D.2.2.2 ≤ c0 + 1024; omega, ?_, ?_⟩, HD.out.m⟩, .inl rfl⟩
  · show -1 ≤ max N (-1); omega
  · show max N (-1) ≤ _; omega

/-- Any call. -/
theorem sd_any (x gs g b : Nat) (D : DevT) (X : StoT) (r c : Nat) (a : Option Addr) (cx B n : Nat) (c0 : Int) (k N : Int) (t : ByteArray) (W : World) (h : DoS W x gs g b D X r c a cx B n c0) (hn2 : 2 ≤ n) (hn9 : n ≤ 2048) (hc0 : c0 < 576460752303423488) (hN : N ≤ 9223372036854775807) (hG : ∀ W', KeptS (Qua x gs g b) W W' → GlobB W' ∧ GlobK W') :
    Calls Tryz.prog 9 #[.pointer (some ⟨x, 0, none⟩), .agg #[.int .i64 k, .int .i64 N, .string t]] W fun e w' => e = .returned (.bool true) ∧ KeptS (Qua x gs g b) W w' ∧ ∃ gs' D' X' r' c' a' cx' B', DoS w' x gs' g b D' X' r' c' a' cx' B' n (c0 + 1024) ∧ (gs' = gs ∨ W.heap.size ≤ gs') := by
  by_cases h1 : k = 1
  · subst h1; exact sd_add x gs g b D X r c a cx B n c0 N t W h hn2 hn9 hc0 hG
  · by_cases h2 : k = 2
    · subst h2; exact sd_lay x gs g b D X r c a cx B n c0 N t W h hn2 hn9 hc0 hG
    · by_cases h3 : k = 3
      · subst h3; exact sd_fuse x gs g b D X r c a cx B n c0 N t W h hn2 hn9 hN
      · exact sd_again x gs g b D X r c a cx B n c0 k N t W h hn2 hn9 h1 h2 h3 hG

end Go.Proofs.YtaakmcihpdbilaaGreatDoor
