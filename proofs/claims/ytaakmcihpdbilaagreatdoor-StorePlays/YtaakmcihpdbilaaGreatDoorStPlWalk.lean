/- StorePlays, walked. -/
import Derived.Test.YtaakmcihpdbilaaGreatDoorSdE
import Derived.Test.YtaakmcihpdbilaaGreatDoorOpenE
namespace Go.Proofs.YtaakmcihpdbilaaGreatDoor
open Go.RowKit
set_option maxRecDepth 100000
set_option linter.unusedSimpArgs false
set_option linter.unusedVariables false
set_option maxRecDepth 100000

/-- A side of the law's own. -/
structure PlS (w W : World) (x gs g b : Nat) (D : DevT) (X : StoT) (r c : Nat) (a : Option Addr) (cx B n : Nat) (c0 : Int) : Prop where
  s : DoS W x gs g b D X r c a cx B n c0
  bw : Below w.heap.size w W
  lo : w.heap.size ≤ x ∧ w.heap.size ≤ gs ∧ w.heap.size ≤ g ∧ w.heap.size ≤ b
theorem qua_low {w : World} {x gs g b : Nat} (lo : w.heap.size ≤ x ∧ w.heap.size ≤ gs ∧ w.heap.size ≤ g ∧ w.heap.size ≤ b) : ∀ k, Qua x gs g b k → w.heap.size ≤ k := fun k hk => by
  rcases hk with hk | hk | hk | hk <;> omega
theorem PlS.next {w W W' : World} {x gs g b : Nat} {D : DevT} {X : StoT} {r c : Nat} {a : Option Addr} {cx B n : Nat} {c0 : Int} (h : PlS w W x gs g b D X r c a cx B n c0) {gs' : Nat} {D' : DevT} {X' : StoT} {r' c' : Nat} {a' : Option Addr} {cx' B' : Nat} {c1 : Int} (hk : KeptS (Qua x gs g b) W W') (hs : DoS W' x gs' g b D' X' r' c' a' cx' B' n c1) (hg : gs' = gs ∨ W.heap.size ≤ gs') : PlS w W' x gs' g b D' X' r' c' a' cx' B' n c1 :=
  ⟨hs, h.bw.trans (hk.below _ h.bw.size (qua_low h.lo)), h.lo.1, by have := h.bw.size; have := h.lo; rcases hg with hg | hg <;> omega, h.lo.2.2⟩
theorem PlS.on {w W W' : World} {x gs g b : Nat} {D : DevT} {X : StoT} {r c : Nat} {a : Option Addr} {cx B n : Nat} {c0 : Int} (h : PlS w W x gs g b D X r c a cx B n c0) (hb : Below W.heap.size W W') : PlS w W' x gs g b D X r c a cx B n c0 :=
  ⟨⟨h.s.s.on hb, h.s.o, h.s.v, h.s.m⟩, below_step h.bw (Nat.le_refl _) hb, h.lo⟩
theorem PlS.glob {w W : World} {x gs g b : Nat} {D : DevT} {X : StoT} {r c : Nat} {a : Option Addr} {cx B n : Nat} {c0 : Int} (h : PlS w W x gs g b D X r c a cx B n c0) (hG : GlobB w ∧ GlobK w) : ∀ W', KeptS (Qua x gs g b) W W' → GlobB W' ∧ GlobK W' := fun W' e =>
  ⟨hG.1.below (h.bw.trans (e.below _ h.bw.size (qua_low h.lo))), hG.2.below (h.bw.trans (e.below _ h.bw.size (qua_low h.lo)))⟩


set_option maxHeartbeats 4000000 in
theorem storePlays_walk (y : Int) (a : Option Addr) (len cap : Nat) (l : List (Int × Int × ByteArray)) (w : World) (hl : ActsAt18 w a len l) (hlen : len ≤ maxLen) (hq : ∀ i, i < len → ActOk18 (atE l i)) (hG : GlobB w ∧ GlobK w) :
    Calls Tryz.prog 3 #[.int .i64 y, .slice a len cap] w fun e w' => e = .returned (.bool true) ∧ Below w.heap.size w w' := by
  have HL : Hid (ActsAt18 w a len l) := hl
  have HLen : Hid (len ≤ maxLen) := hlen
  have HQ : Hid (∀ i, i < len → ActOk18 (atE l i)) := hq
  have HG : Hid (GlobB w ∧ GlobK w) := hG
  obtain ⟨m, hm, hm2⟩ : ∃ m : Nat, bits .and .i64 y 255 = (m : Int) ∧ m < 256 := ⟨(y % 256).toNat, by rw [i64_mask y 8 (by decide) 255 (by decide)]; omega, by omega⟩
  have r3 : Int.tmod (m : Int) 23 = ((m % 23 : Nat) : Int) := by rw [show (23 : Int) = ((23 : Nat) : Int) from rfl, ← Int.ofNat_tmod]
  obtain ⟨q, hq9⟩ : ∃ q, m % 23 = q := ⟨_, rfl⟩
  have hq2 : q < 23 := by omega
  rw [hq9] at r3
  have CN : Hid (∀ W, Calls Tryz.prog 5 #[.int .i64 (2 + (q : Int))] W fun e w' => ∃ g b, e = .returned (.tuple #[.pointer (some ⟨g, 0, none⟩), .int .i64 0]) ∧ DevAt w' g b (newB (2 + q)) ∧ W.heap.size ≤ g ∧ W.heap.size ≤ b ∧ Below W.heap.size W w') := fun W => by
    have := dnew_any (2 + q) W ⟨by omega, by omega⟩
    rw [show ((2 + q : Nat) : Int) = 2 + (q : Int) by omega] at this
    exact this
  have CR : Hid (∀ W, Calls Tryz.prog 6 #[.int .i64 (2 + (q : Int))] W fun e w' => ∃ v, e = .returned (.tuple #[v, .int .i64 0]) ∧ DevIn w' v (newB (2 + q)) ∧ Below W.heap.size W w') := fun W => by
    have := rnew17_any (2 + q) W ⟨by omega, by omega⟩
    rw [show ((2 + q : Nat) : Int) = 2 + (q : Int) by omega] at this
    exact this
  have HX0 : Hid (Blk (w.alloc (.cells #[.pointer none, .pointer none, .slice none 0 0, .int .i64 0, .bool false, .int .i64 0, .string ⟨#[]⟩, .slice none 0 0, .int .i64 0, .string ⟨#[]⟩] 32)) 32 w.heap.size #[.pointer none, .pointer none, .slice none 0 0, .int .i64 0, .bool false, .int .i64 0, .string ⟨#[]⟩, .slice none 0 0, .int .i64 0, .string ⟨#[]⟩]) := Blk.new _ _ _
  have HB0 : Hid (Below w.heap.size w (w.alloc (.cells #[.pointer none, .pointer none, .slice none 0 0, .int .i64 0, .bool false, .int .i64 0, .string ⟨#[]⟩, .slice none 0 0, .int .i64 0, .string ⟨#[]⟩] 32))) := below_new w _
  clear hl hlen hq hG hq9
  go_enter Tryz.func3, Tryz.ntmps3
  go_wp2_with fail
  refine (CN.out _).mono ?_
  rintro e w1 ⟨g, b, rfl, hd1, hg1, hb1, hB1⟩
  obtain ⟨x, hx⟩ : ∃ x, w.heap.size = x := ⟨_, rfl⟩
  have HX1 : Hid (Blk w1 32 x #[.pointer none, .pointer none, .slice none 0 0, .int .i64 0, .bool false, .int .i64 0, .string ⟨#[]⟩, .slice none 0 0, .int .i64 0, .string ⟨#[]⟩]) := hx ▸ HX0.out.on hB1
  have HD1 : Hid (DevAt w1 g b (newB (2 + q))) := hd1
  have HB1 : Hid (Below w.heap.size w w1) := below_step HB0.out (Nat.le_refl _) hB1
  have HW1 : Hid (w.heap.size = x ∧ w.heap.size ≤ g ∧ w.heap.size ≤ b ∧ x < g ∧ x < b) := by
    have h1 := HB0.out.size
    have h2 := HX0.out.lt
    exact ⟨hx, by omega, by omega, by omega, by omega⟩
  rw [hx]
  clear hd1 hg1 hb1 hB1 hx HX0 HB0 CN
  go_wp2_with fail
  refine (CR.out _).mono ?_
  rintro e w2 ⟨v2, rfl, ⟨r, c, rfl, hr⟩, hb2⟩
  have HX2 : Hid (Blk w2 32 x #[.pointer none, .pointer none, .slice none 0 0, .int .i64 0, .bool false, .int .i64 0, .string ⟨#[]⟩, .slice none 0 0, .int .i64 0, .string ⟨#[]⟩]) := HX1.out.on hb2
  have HD2 : Hid (DevAt w2 g b (newB (2 + q))) := HD1.out.on hb2
  have HR2 : Hid (RowD w2 r c (newB (2 + q)).1) := hr
  have HB2 : Hid (Below w.heap.size w w2) := below_step HB1.out (Nat.le_refl _) hb2
  clear HX1 HD1 HB1 hr hb2 CR
  have e9 : devA r c (newB (2 + q)) = #[.slice (some ⟨r, 0, none⟩) (2 + q) c, .int .i64 (-1), .bool false, .int .i64 0] := by unfold devA; rw [newB_len]; rfl
  rw [e9]
  go_wp2_with fail
  obtain ⟨h6, hh6⟩ : ∃ h6, w2.heap.size = h6 := ⟨_, rfl⟩
  obtain ⟨V, hV⟩ : ∃ V, (w2.alloc (.cells #[.slice (some ⟨r, 0, none⟩) (2 + q) c, .int .i64 (-1), .bool false, .int .i64 0] 28)).drew = V := ⟨_, rfl⟩
  have hbV : Below w2.heap.size w2 V := by rw [← hV]; exact (below_new w2 _).drew
  have HM : Hid (Blk V 28 h6 #[.slice (some ⟨r, 0, none⟩) (2 + q) c, .int .i64 (-1), .bool false, .int .i64 0]) := by rw [← hV]; exact (Blk.new' w2 _ _ h6 hh6).on (Below.refl _ _).drew
  have HBV : Hid (Blk V 32 x #[.pointer none, .pointer none, .slice none 0 0, .int .i64 0, .bool false, .int .i64 0, .string ⟨#[]⟩, .slice none 0 0, .int .i64 0, .string ⟨#[]⟩]) := HX2.out.on hbV
  have hxV : x ≠ h6 := by have := HX2.out.lt; omega
  have hSV : V.cell? ⟨h6, 0, none⟩ = some (.slice (some ⟨r, 0, none⟩) (2 + q) c) ∧ V.cell? ⟨h6, 1, none⟩ = some (.int .i64 (-1)) ∧ V.cell? ⟨h6, 2, none⟩ = some (.bool false) ∧ V.cell? ⟨h6, 3, none⟩ = some (.int .i64 0) := ⟨HM.out.cell 0, HM.out.cell 1, HM.out.cell 2, HM.out.cell 3⟩
  rw [hh6]
  have hS0 := hSV
  rw [← hV] at hS0
  refine wp_region_noPanic ?_
  refine wp_region_held_drew (S := fun W' => W'.cell? ⟨h6, 0, none⟩ = some (.slice (some ⟨r, 0, none⟩) (2 + q) c) ∧ W'.cell? ⟨h6, 1, none⟩ = some (.int .i64 (-1)) ∧ W'.cell? ⟨h6, 2, none⟩ = some (.bool false) ∧ W'.cell? ⟨h6, 3, none⟩ = some (.int .i64 0)) (by kernel_rfl) (by first | exact trivial | assumption | exact ⟨by assumption, by assumption⟩) (fun hHeld => ?_)
  refine take_at (i := 0) (v := ?_) rfl rfl (by kernel_rfl) (by kernel_rfl) (by kernel_rfl) (fun _ _ _ h => h) (Or.inl ⟨by rfl, ?_⟩) (by assumption) ?_
  rotate_left
  · intro w hSw; (try dsimp only at hSw); go_simp; try with_reducible rfl
  try simp only [Act.put, List.setIfInBounds_toArray, List.set_cons_zero, List.set_cons_succ]
  refine take_at (i := 1) (v := ?_) rfl rfl (by kernel_rfl) (by kernel_rfl) (by kernel_rfl) (fun _ _ _ h => h) (Or.inl ⟨by rfl, ?_⟩) (by assumption) ?_
  rotate_left
  · intro w hSw; (try dsimp only at hSw); go_simp; try with_reducible rfl
  try simp only [Act.put, List.setIfInBounds_toArray, List.set_cons_zero, List.set_cons_succ]
  refine take_at (i := 2) (v := ?_) rfl rfl (by kernel_rfl) (by kernel_rfl) (by kernel_rfl) (fun _ _ _ h => h) (Or.inl ⟨by rfl, ?_⟩) (by assumption) ?_
  rotate_left
  · intro w hSw; (try dsimp only at hSw); go_simp; try with_reducible rfl
  try simp only [Act.put, List.setIfInBounds_toArray, List.set_cons_zero, List.set_cons_succ]
  refine take_at (i := 3) (v := ?_) rfl rfl (by kernel_rfl) (by kernel_rfl) (by kernel_rfl) (fun _ _ _ h => h) (Or.inl ⟨by rfl, ?_⟩) (by assumption) ?_
  rotate_left
  · intro w hSw; (try dsimp only at hSw); go_simp; try with_reducible rfl
  try simp only [Act.put, List.setIfInBounds_toArray, List.set_cons_zero, List.set_cons_succ]
  refine take_at (i := 4) (v := ?_) rfl rfl (by kernel_rfl) (by kernel_rfl) (by kernel_rfl) (fun _ _ _ h => h) (Or.inl ⟨by rfl, ?_⟩) (by assumption) ?_
  rotate_left
  · intro w hSw; (try dsimp only at hSw); go_simp; try with_reducible rfl
  try simp only [Act.put, List.setIfInBounds_toArray, List.set_cons_zero, List.set_cons_succ]
  refine take_at (i := 5) (v := ?_) rfl rfl (by kernel_rfl) (by kernel_rfl) (by kernel_rfl) (fun _ _ _ h => h) (Or.inl ⟨by rfl, ?_⟩) (by assumption) ?_
  rotate_left
  · intro w hSw; (try dsimp only at hSw); go_simp; try with_reducible rfl
  try simp only [Act.put, List.setIfInBounds_toArray, List.set_cons_zero, List.set_cons_succ]
  rw [hV]
  have l0 : V.cell? ⟨x, 0, none⟩ = some (.pointer none) := HBV.out.cell 0
  have f0 := HBV.out.free 0
  have HBV2 : Hid (Blk (V.setCell ⟨x, 0, none⟩ (.pointer (some ⟨g, 0, none⟩))) 32 x #[.pointer (some ⟨g, 0, none⟩), .pointer none, .slice none 0 0, .int .i64 0, .bool false, .int .i64 0, .string ⟨#[]⟩, .slice none 0 0, .int .i64 0, .string ⟨#[]⟩]) := HBV.out.setAt 0 _
  have HMV2 : Hid (Blk (V.setCell ⟨x, 0, none⟩ (.pointer (some ⟨g, 0, none⟩))) 28 h6 #[.slice (some ⟨r, 0, none⟩) (2 + q) c, .int .i64 (-1), .bool false, .int .i64 0]) := HM.out.other ⟨x, 0, none⟩ (fun e => hxV e.symm) _
  refine wpAnyH_ready (rs := [6]) (by kernel_rfl) (by simp) ?_
  refine AllReadyH.cons rfl (fun K hK => ?_) AllReadyH.nil
  go_simp
  refine hK.out _ _ ⟨HMV2.out.cell 0, HMV2.out.cell 1, HMV2.out.cell 2, HMV2.out.cell 3⟩ (fun hHeld => ?_)
  clear hK K
  refine take_at (i := 7) (v := ?_) rfl rfl (by kernel_rfl) (by kernel_rfl) (by kernel_rfl) (fun _ _ _ h => h) (Or.inl ⟨by rfl, ?_⟩) (by assumption) ?_
  rotate_left
  · intro w hSw; (try dsimp only at hSw); go_simp; try with_reducible rfl
  try simp only [Act.put, List.setIfInBounds_toArray, List.set_cons_zero, List.set_cons_succ]
  refine take_at (i := 8) (v := ?_) rfl rfl (by kernel_rfl) (by kernel_rfl) (by kernel_rfl) (fun _ _ _ h => h) (Or.inl ⟨by rfl, ?_⟩) (by assumption) ?_
  rotate_left
  · intro w hSw; (try dsimp only at hSw); go_simp; try with_reducible rfl
  try simp only [Act.put, List.setIfInBounds_toArray, List.set_cons_zero, List.set_cons_succ]
  refine wpAnyH_ready (rs := [9]) (by kernel_rfl) (by simp) ?_
  refine AllReadyH.cons rfl (fun K hK => ?_) AllReadyH.nil
  refine step_storeAt rfl rfl 28 _ _ rfl x 2 32 #[.pointer (some ⟨g, 0, none⟩), .pointer none, .slice none 0 0, .int .i64 0, .bool false, .int .i64 0, .string ⟨#[]⟩, .slice none 0 0, .int .i64 0, .string ⟨#[]⟩] #[.slice (some ⟨r, 0, none⟩) (2 + q) c, .int .i64 (-1), .bool false, .int .i64 0] #[.pointer (some ⟨g, 0, none⟩), .pointer none, .slice (some ⟨r, 0, none⟩) (2 + q) c, .int .i64 (-1), .bool false, .int .i64 0, .string ⟨#[]⟩, .slice none 0 0, .int .i64 0, .string ⟨#[]⟩] rfl rfl HBV2.out (by kernel_rfl) (by show 2 + 4 ≤ 10; decide) (by kernel_rfl) rfl ?_
  obtain ⟨w7, hw7⟩ : ∃ w7, (V.setCell ⟨x, 0, none⟩ (.pointer (some ⟨g, 0, none⟩))).setRow x #[.pointer (some ⟨g, 0, none⟩), .pointer none, .slice (some ⟨r, 0, none⟩) (2 + q) c, .int .i64 (-1), .bool false, .int .i64 0, .string ⟨#[]⟩, .slice none 0 0, .int .i64 0, .string ⟨#[]⟩] = w7 := ⟨_, rfl⟩
  have hK7 : KeptS (fun k => k = x) w2 w7 := by
    rw [← hw7]
    exact (((KeptS.ofBelow hbV).sub (fun _ e => e.elim)).trans (KeptS.ofKept ((Kept2.refl x none V).setCell ⟨x, 0, none⟩ rfl _))).setRow x rfl _
  have HX7 : Hid (Blk w7 32 x (sideC g (.pointer none) (newB (2 + q)) zeroT r c none 0)) := by
    have h9 : sideC g (.pointer none) (newB (2 + q)) zeroT r c none 0 = #[.pointer (some ⟨g, 0, none⟩), .pointer none, .slice (some ⟨r, 0, none⟩) (2 + q) c, .int .i64 (-1), .bool false, .int .i64 0, .string ⟨#[]⟩, .slice none 0 0, .int .i64 0, .string ⟨#[]⟩] := by unfold sideC; rw [newB_len]; rfl
    show Blk _ _ _ _
    rw [h9, ← hw7]; exact HBV2.out.setRow _
  have HD7 : Hid (DevAt w7 g b (newB (2 + q))) := HD2.out.keptS hK7 (fun e => by have := HW1.out; omega) (fun e => by have := HW1.out; omega)
  have HR7 : Hid (RowD w7 r c (newB (2 + q)).1) := HR2.out.keptS hK7 (HR2.out.apartB (by rw [newB_len]; omega) HX2.out rfl (fun s e => by cases e))
  have HB7 : Hid (Below w.heap.size w w7) := HB2.out.trans (hK7.below _ HB2.out.size (fun k hk => by have := HW1.out; omega))
  have HMV7 : w7.cell? ⟨h6, 0, none⟩ = some (.slice (some ⟨r, 0, none⟩) (2 + q) c) ∧ w7.cell? ⟨h6, 1, none⟩ = some (.int .i64 (-1)) ∧ w7.cell? ⟨h6, 2, none⟩ = some (.bool false) ∧ w7.cell? ⟨h6, 3, none⟩ = some (.int .i64 0) := by
    have := HMV2.out.setRowOther x (fun e => hxV e.symm) #[.pointer (some ⟨g, 0, none⟩), .pointer none, .slice (some ⟨r, 0, none⟩) (2 + q) c, .int .i64 (-1), .bool false, .int .i64 0, .string ⟨#[]⟩, .slice none 0 0, .int .i64 0, .string ⟨#[]⟩]
    rw [hw7] at this
    exact ⟨this.cell 0, this.cell 1, this.cell 2, this.cell 3⟩
  rw [hw7]
  refine hK.out _ _ HMV7 (fun hHeld => ?_)
  clear hK K
  refine wpAnyH_done (by kernel_rfl) (NoPanic.normal ?_) _
  clear hS0 hSV HMV7 HMV2 HBV2 HBV HM l0 f0 hw7 hV hbV hK7 HX2 HD2 HR2 HB2 e9
  go_wp2_with fail
  refine (sd_opens x g b (.pointer none) (newB (2 + q)) zeroT r c none 0 w7 ⟨HX7.out, HD7.out, HR7.out⟩ (by rw [newB_len]; omega) (by rw [newB_len]; omega) (fun W' e => by
    have h1 := HB7.out.trans (e.below _ HB7.out.size (fun k hk => by have := HW1.out; rcases hk with hk | hk | hk <;> omega))
    exact ⟨HG.out.1.below h1, HG.out.2.below h1⟩)).mono ?_
  rintro e w8 ⟨rfl, k8, gs8, r8, c8, a8, cx8, B8, hs8, hg8⟩
  have HP8 : Hid (PlS w w8 x gs8 g b (onB (newB (2 + q))) (openP (newB (2 + q)).1) r8 c8 a8 cx8 B8 (2 + q) 0) := by
    have hd := newB_dv (2 + q)
    have h9 := stM_open (newB (2 + q)).1 (by rw [newB_len]; omega) HD7.out.all
    rw [newB_len] at h9
    have h1 := HW1.out
    have h2 := HB7.out.size
    exact ⟨⟨hs8, rfl, ⟨newB_len _, hd.n0, hd.n1, by show (-1 : Int) ≤ -1; omega, by show (-1 : Int) ≤ _; omega⟩, h9⟩, HB7.out.trans (k8.below _ HB7.out.size (fun k hk => by rcases hk with hk | hk | hk <;> omega)), by omega, by omega, h1.2.1, h1.2.2.1⟩
  clear HX7 HD7 HR7 HB7 k8 hs8 hg8
  generalize onB (newB (2 + q)) = D8 at *
  generalize openP (newB (2 + q)).1 = X8 at *
  go_wp2_with fail
  go_loopw [11] (fun v wr => ∃ (k gs : Nat) (D : DevT) (X : StoT) (r c : Nat) (aa : Option Addr) (cx B : Nat), k ≤ len ∧ k ≤ 40 ∧ v = .int .i64 k ∧ Hid (PlS w wr x gs g b D X r c aa cx B (2 + q) (1024 * (k : Int)))) (fun v _ => len - (intOf v).toNat)
  case atStart => exact ⟨0, gs8, D8, X8, r8, c8, a8, cx8, B8, Nat.zero_le _, Nat.zero_le _, rfl, HP8⟩
  case round =>
    clear HP8
    obtain ⟨k, gs, D, X, r, c, aa, cx, B, hk, hk4, rfl, HP⟩ := hrel
    by_cases hlt : k < len ∧ k < 40
    · obtain ⟨hlt, hlt4⟩ := hlt
      have d0 : (k : Int) < (len : Int) := by omega
      have d1 : (k : Int) < 40 := by omega
      obtain ⟨lb, off, rfl, hcl⟩ : ∃ lb off, a = some ⟨lb, off, none⟩ ∧ ∀ i, i < len → w.cell? ⟨lb, off + i * 3, none⟩ = some (.int .i64 (atE l i).1) ∧ w.cell? ⟨lb, off + i * 3 + 1, none⟩ = some (.int .i64 (atE l i).2.1) ∧ w.cell? ⟨lb, off + i * 3 + 2, none⟩ = some (.string (atE l i).2.2) := by
        rcases HL.out.2 with h | h
        · omega
        · exact h
      have hq0 := hcl k hlt
      have hok := HQ.out k hlt
      have hlz := HLen.out
      unfold maxLen at hlz
      obtain ⟨⟨kd, N, t⟩, hq3⟩ : ∃ z, atE l k = z := ⟨_, rfl⟩
      rw [hq3] at hq0 hok
      simp only at hq0
      have hN : N ≤ 9223372036854775807 := by
        have h9 := hok.2.1
        simp only [Lit.wf, Bool.and_eq_true, decide_eq_true_eq] at h9
        exact h9.2
      have hts : t.size ≤ maxLen := hok.2.2
      have HC : Hid (∀ W, Below w.heap.size w W → W.cell? ⟨lb, off + k * 3, none⟩ = some (.int .i64 kd) ∧ W.cell? ⟨lb, off + k * 3 + 1, none⟩ = some (.int .i64 N) ∧ W.cell? ⟨lb, off + k * 3 + 2, none⟩ = some (.string t)) := fun W hb => ⟨by rw [hb.cell (World.block_lt_of_cell? w _ hq0.1)]; exact hq0.1, by rw [hb.cell (World.block_lt_of_cell? w _ hq0.2.1)]; exact hq0.2.1, by rw [hb.cell (World.block_lt_of_cell? w _ hq0.2.2)]; exact hq0.2.2⟩
      obtain ⟨c0, c1, c2⟩ := HC.out _ HP.out.bw
      have hts2 : t.size ≤ 9223372036854775807 := by unfold maxLen at hts; omega
      clear hcl hq0 hq3 hok hts
      by_cases h4 : 400 < t.size
      · have s0 : (400 : Int) < (t.size : Int) := by omega
        by_cases h5 : t.size ≤ 32768
        · have s1 : (t.size : Int) ≤ 32768 := by omega
          go_wp2_with fail
          refine (awake18_any _ ((stC_sto w HG.out.1 HG.out.2).move HP.out.bw)).mono ?_
          rintro e w9 ⟨rfl, hb9⟩
          have hB := below_step HP.out.bw (Nat.le_refl _) hb9
          go_wp2
          go_ret
          exact ⟨rfl, hB⟩
        · have s1 : ¬ ((t.size : Int) ≤ 32768) := by omega
          go_wp2_with fail
          refine (sd_any x gs g b D X r c aa cx B (2 + q) (1024 * (k : Int)) kd N t _ HP.out.s (by omega) (by omega) (by omega) hN (HP.out.glob HG.out)).mono ?_
          rintro e w9 ⟨rfl, k9, gs9, D9, X9, r9, c9, a9, cx9, B9, hs9, hg9⟩
          have HP9 : Hid (PlS w w9 x gs9 g b D9 X9 r9 c9 a9 cx9 B9 (2 + q) (1024 * ((k + 1 : Nat) : Int))) := by
            have e9 : 1024 * ((k + 1 : Nat) : Int) = 1024 * (k : Int) + 1024 := by omega
            show PlS _ _ _ _ _ _ _ _ _ _ _ _ _ _ _
            rw [e9]
            exact HP.out.next k9 hs9 hg9
          clear HP k9 hs9 hg9 c0 c1 c2
          go_wp2_with fail
          refine ⟨⟨k + 1, gs9, D9, X9, r9, c9, a9, cx9, B9, by omega, by omega, by go_num, HP9⟩, ?_⟩
          simp [intOf]; omega
      · have s0 : ¬ ((400 : Int) < (t.size : Int)) := by omega
        go_wp2_with fail
        refine (sd_any x gs g b D X r c aa cx B (2 + q) (1024 * (k : Int)) kd N t _ HP.out.s (by omega) (by omega) (by omega) hN (HP.out.glob HG.out)).mono ?_
        rintro e w9 ⟨rfl, k9, gs9, D9, X9, r9, c9, a9, cx9, B9, hs9, hg9⟩
        have HP9 : Hid (PlS w w9 x gs9 g b D9 X9 r9 c9 a9 cx9 B9 (2 + q) (1024 * ((k + 1 : Nat) : Int))) := by
          have e9 : 1024 * ((k + 1 : Nat) : Int) = 1024 * (k : Int) + 1024 := by omega
          show PlS _ _ _ _ _ _ _ _ _ _ _ _ _ _ _
          rw [e9]
          exact HP.out.next k9 hs9 hg9
        clear HP k9 hs9 hg9 c0 c1 c2
        go_wp2_with fail
        refine ⟨⟨k + 1, gs9, D9, X9, r9, c9, a9, cx9, B9, by omega, by omega, by go_num, HP9⟩, ?_⟩
        simp [intOf]; omega
    · have HE : Hid (k = len ∨ k = 40) := by show _ ∨ _; omega
      by_cases hlt2 : k < len
      · have d0 : (k : Int) < (len : Int) := by omega
        have d1 : ¬ ((k : Int) < 40) := by omega
        go_wp2_with fail
        refine (sd_opens x g b (.pointer (some ⟨gs, 0, none⟩)) D X r c aa cx _ ⟨HP.out.s.s.bl, HP.out.s.s.d, HP.out.s.s.r⟩ (by rw [HP.out.s.v.len]; omega) (by rw [HP.out.s.v.len]; omega) (fun W' e => HP.out.glob HG.out W' (e.sub (fun k hk => tri_qua hk)))).mono ?_
        rintro e w9 ⟨rfl, k9, _⟩
        have HB9 : Hid (Below w.heap.size w w9) := HP.out.bw.trans (k9.below _ HP.out.bw.size (fun k hk => qua_low HP.out.lo k (tri_qua hk)))
        clear k9 HP
        go_wp2_with fail
        refine (awake18_any _ ((stC_sto w HG.out.1 HG.out.2).move HB9.out)).mono ?_
        rintro e w10 ⟨rfl, hb10⟩
        have hB := below_step HB9.out (Nat.le_refl _) hb10
        go_wp2
        go_ret
        exact ⟨rfl, hB⟩
      · have d0 : ¬ ((k : Int) < (len : Int)) := by omega
        go_wp2_with fail
        refine (sd_opens x g b (.pointer (some ⟨gs, 0, none⟩)) D X r c aa cx _ ⟨HP.out.s.s.bl, HP.out.s.s.d, HP.out.s.s.r⟩ (by rw [HP.out.s.v.len]; omega) (by rw [HP.out.s.v.len]; omega) (fun W' e => HP.out.glob HG.out W' (e.sub (fun k hk => tri_qua hk)))).mono ?_
        rintro e w9 ⟨rfl, k9, _⟩
        have HB9 : Hid (Below w.heap.size w w9) := HP.out.bw.trans (k9.below _ HP.out.bw.size (fun k hk => qua_low HP.out.lo k (tri_qua hk)))
        clear k9 HP
        go_wp2_with fail
        refine (awake18_any _ ((stC_sto w HG.out.1 HG.out.2).move HB9.out)).mono ?_
        rintro e w10 ⟨rfl, hb10⟩
        have hB := below_step HB9.out (Nat.le_refl _) hb10
        go_wp2
        go_ret
        exact ⟨rfl, hB⟩

end Go.Proofs.YtaakmcihpdbilaaGreatDoor
