/- Layer 18's laws: does of a side, Add and Lay. -/
import Derived.Test.YtaakmcihpdbilaaGreatDoorSdC
namespace Go.Proofs.YtaakmcihpdbilaaGreatDoor
open Go.RowKit
set_option maxRecDepth 100000
set_option linter.unusedSimpArgs false
set_option linter.unusedVariables false
set_option maxRecDepth 100000

theorem writesP_off (D : DevT) (turn m : Nat) (s : ByteArray) (h : (writesP D turn m s).2 = 0) : (writesP D turn m s).1.2.2.1 = false := by
  unfold writesP at h ⊢
  simp only at h ⊢
  split at h
  · rename_i hc
    rw [if_pos hc]
    unfold writeB at h ⊢
    split at h
    · cases h
    · rename_i hd
      rw [if_neg hd]
  · rename_i hc
    exact absurd h hc
theorem add_still (D : DevT) (X : StoT) (t : ByteArray) (ho : D.2.2.1 = false) (h : (addP D X t).2.2 ≠ 170) : (addP D X t).1.2.2.1 = false := by
  unfold addP at h ⊢
  split at h
  · rename_i hc; rw [if_pos hc]; exact ho
  · rename_i hc
    rw [if_neg hc]
    simp only at h ⊢
    split at h
    · rename_i h0; rw [if_pos h0]; exact writesP_off _ _ _ _ h0
    · rename_i h0
      rcases writesP_two D X.2.2.1.toNat (X.2.2.2.size / 64) (X.2.2.2 ++ txB t) with h1 | h1
      · exact absurd h1 h0
      · exact absurd h1 h
theorem lay_still (D : DevT) (X : StoT) (t : ByteArray) (ho : D.2.2.1 = false) (h : (layS D X t).2.2 ≠ 170) : (layS D X t).1.2.2.1 = false := by
  unfold layS at h ⊢
  split at h
  · rename_i hc; rw [if_pos hc]; exact ho
  · rename_i hc
    rw [if_neg hc]
    simp only at h ⊢
    split at h
    · rename_i h0; rw [if_pos h0]; exact writesP_off _ _ _ _ h0
    · rename_i h0
      rcases writesP_two D (X.2.2.1 + 1).toNat 0 (txB t) with h1 | h1
      · exact absurd h1 h0
      · exact absurd h1 h

/-- The blocks that a side may turn. -/
def Qua (x gs g b : Nat) : Nat → Prop := fun k => k = x ∨ k = gs ∨ k = g ∨ k = b
theorem tri_qua {x gs g b k : Nat} (h : Tri x g b k) : Qua x gs g b k := by
  rcases h with h | h | h
  · exact .inl h
  · exact .inr (.inr (.inl h))
  · exact .inr (.inr (.inr h))
/-- A side between two calls. -/
structure DoS (W : World) (x gs g b : Nat) (D : DevT) (X : StoT) (r c : Nat) (a : Option Addr) (cx B n : Nat) (c0 : Int) : Prop where
  s : SdS W x gs g b D X r c a cx B
  o : D.2.2.1 = false
  v : DvO n c0 D
  m : StM n X
theorem SdS.ne {W : World} {x gs g b : Nat} {D : DevT} {X : StoT} {r c : Nat} {a : Option Addr} {cx B : Nat} (h : SdS W x gs g b D X r c a cx B) : x ≠ gs ∧ x ≠ g ∧ x ≠ b ∧ gs ≠ g ∧ gs ≠ b := by
  obtain ⟨F, e1, ⟨cs, e2, _⟩, _⟩ := h.d
  exact ⟨blk_apart h.bl h.s.1 (by decide), blk_apart h.bl e1 (by decide), blk_apart h.bl e2 (by decide), blk_apart h.s.1 e1 (by decide), blk_apart h.s.1 e2 (by decide)⟩
/-- What stays of a side behind a call of the code's store. -/
theorem SdS.code {W W' : World} {x gs g b : Nat} {D : DevT} {X : StoT} {r c : Nat} {a : Option Addr} {cx B : Nat} (h : SdS W x gs g b D X r c a cx B) (h2 : 2 ≤ D.1.length) (hk : KeptS (Tri gs g b) W W') :
    Blk W' 32 x (sideC g (.pointer (some ⟨gs, 0, none⟩)) D X r c a cx) ∧ RowD W' r c D.1 ∧ StrsAt W' a X.2.1.length X.2.1 := by
  obtain ⟨n1, n2, n3, n4, n5⟩ := h.ne
  refine ⟨h.bl.keptS hk (fun e => by rcases e with e | e | e; · exact n1 e
                                     · exact n2 e
                                     · exact n3 e), ?_, ?_⟩
  · obtain ⟨q1, q2⟩ := h.r.apart (by omega) h.d (by omega)
    have q3 := h.r.apartB (show 0 < D.1.length by omega) h.s.1 rfl (fun s e => by cases e)
    exact h.r.keptS hk (fun e => by rcases e with e | e | e; · exact q3 e
                                    · exact q1 e
                                    · exact q2 e)
  · refine strs_keptS h.t hk (fun z hz => .inr ?_)
    have h1 := h.ap z hz
    have h3 := h.lt
    intro e
    rcases e with e | e | e <;> omega


set_option maxHeartbeats 4000000 in
theorem sd_add (x gs g b : Nat) (D : DevT) (X : StoT) (r c : Nat) (a : Option Addr) (cx B n : Nat) (c0 : Int) (N : Int) (t : ByteArray) (W : World) (h : DoS W x gs g b D X r c a cx B n c0) (hn2 : 2 ≤ n) (hn9 : n ≤ 2048) (hc0 : c0 < 576460752303423488) (hG : ∀ W', KeptS (Qua x gs g b) W W' → GlobB W' ∧ GlobK W') :
    Calls Tryz.prog 9 #[.pointer (some ⟨x, 0, none⟩), .agg #[.int .i64 1, .int .i64 N, .string t]] W fun e w' => e = .returned (.bool true) ∧ KeptS (Qua x gs g b) W w' ∧ ∃ gs' D' X' r' c' a' cx' B', DoS w' x gs' g b D' X' r' c' a' cx' B' n (c0 + 1024) ∧ (gs' = gs ∨ W.heap.size ≤ gs') := by
  have hlen := h.v.len
  have HD : Hid (DoS W x gs g b D X r c a cx B n c0) := h
  have HG : Hid (∀ W', KeptS (Qua x gs g b) W W' → GlobB W' ∧ GlobK W') := hG
  have HV1 := h.v.add X t hn9
  have HM1 := stM_add D X t (hlen ▸ h.m)
  have HO1 := add_still D X t h.o
  have hD1l : (addP D X t).1.1.length = n := HV1.len
  obtain ⟨⟨D1, X1, z⟩, hq⟩ : ∃ p, addP D X t = p := ⟨_, rfl⟩
  rw [hq] at HV1 HM1 HO1 hD1l
  rw [hlen] at HM1
  simp only at HV1 HM1 HO1 hD1l
  have HQ : Hid (addP D X t = (D1, X1, z)) := hq
  have HV : Hid (DvO n (c0 + 1024) D1 ∧ StM n X1 ∧ (z ≠ 170 → D1.2.2.1 = false)) := ⟨HV1, HM1, HO1⟩
  have hX1l : X1.2.1.length ≤ 1048576 := by have := HM1.b; have := HM1.l; omega
  have Hlen : Hid (D.1.length = n ∧ D1.1.length = n) := ⟨hlen, hD1l⟩
  clear h hG HV1 HM1 HO1 hq hlen hD1l
  have eZ : (z != z) = false := by rw [bne_eq_false_iff_eq]
  go_enter Tryz.func9, Tryz.ntmps9
  go_wp2_with fail
  obtain ⟨ha, hha⟩ : ∃ ha, W.heap.size = ha := ⟨_, rfl⟩
  obtain ⟨w0, hw0⟩ : ∃ w0, W.alloc (.cells #[.int .i64 1, .int .i64 N, .string t] 40) = w0 := ⟨_, rfl⟩
  have HB0 : Hid (Below W.heap.size W w0) := by rw [← hw0]; exact below_new W _
  have HA0 : Hid (Blk w0 40 ha #[.int .i64 1, .int .i64 N, .string t]) := by rw [← hw0]; exact Blk.new' W _ _ ha hha
  have HS0 : Hid (SdS w0.drew x gs g b D X r c a cx B) := HD.out.s.on HB0.out.drew
  have HAd : Hid (Blk w0.drew 40 ha #[.int .i64 1, .int .i64 N, .string t]) := HA0.out.on (Below.refl _ _).drew
  have hS0 : w0.drew.cell? ⟨x, 1, none⟩ = some (.pointer (some ⟨gs, 0, none⟩)) ∧ w0.drew.cell? ⟨ha, 2, none⟩ = some (.string t) := ⟨HS0.out.bl.cell 1, HAd.out.cell 2⟩
  have HK0 : Hid (KeptS (Qua x gs g b) W w0.drew) := (KeptS.ofBelow HB0.out.drew).sub (fun _ e => e.elim)
  have Hha : Hid (W.heap.size = ha) := hha
  rw [hw0, hha]
  clear hw0 hha HA0
  have CA : Hid (Calls _ _ _ _ _) := sadd_any gs g b (fun k => k = gs) X D n c0 t w0.drew HS0.out.s HS0.out.d HD.out.v HD.out.m.t0 hn2 hn9 hc0 HS0.out.ne.2.2.2.1 HS0.out.ne.2.2.2.2 (HG.out _ HK0.out).1 (HG.out _ HK0.out).2
  rw [HQ.out] at CA
  simp only at CA
  refine wp_region_noPanic ?_
  refine wp_region_held_drew (S := fun W' => W'.cell? ⟨x, 1, none⟩ = some (.pointer (some ⟨gs, 0, none⟩)) ∧ W'.cell? ⟨ha, 2, none⟩ = some (.string t)) (by kernel_rfl) (by first | exact trivial | assumption | exact ⟨by assumption, by assumption⟩) (fun hHeld => ?_)
  refine take_at (i := 0) (v := ?_) rfl rfl (by kernel_rfl) (by kernel_rfl) (by kernel_rfl) (fun _ _ _ h => h) (Or.inl ⟨by rfl, ?_⟩) (by assumption) ?_
  rotate_left
  · intro w hSw; (try dsimp only at hSw); go_simp; try with_reducible rfl
  try simp only [Act.put, List.setIfInBounds_toArray, List.set_cons_zero, List.set_cons_succ]
  refine take_at (i := 1) (v := ?_) rfl rfl (by kernel_rfl) (by kernel_rfl) (by kernel_rfl) (fun _ _ _ h => h) (Or.inl ⟨by rfl, ?_⟩) (by assumption) ?_
  rotate_left
  · intro w hSw; (try dsimp only at hSw); go_simp; try with_reducible rfl
  try simp only [Act.put, List.setIfInBounds_toArray, List.set_cons_zero, List.set_cons_succ]
  refine take_at (i := 2) (v := ?_) rfl rfl (by kernel_rfl) (by kernel_rfl) (by kernel_rfl) (fun _ _ _ h => h) (Or.inl ⟨by rfl, ?_⟩) (by assumption) ?_
  rotate_left
  · intro w hSw; (try dsimp only at hSw); go_simp; try with_reducible rfl
  try simp only [Act.put, List.setIfInBounds_toArray, List.set_cons_zero, List.set_cons_succ]
  refine take_at (i := 3) (v := ?_) rfl rfl (by kernel_rfl) (by kernel_rfl) (by kernel_rfl) (fun _ _ _ h => h) (Or.inl ⟨by rfl, ?_⟩) (by assumption) ?_
  rotate_left
  · intro w hSw; (try dsimp only at hSw); go_simp; try with_reducible rfl
  try simp only [Act.put, List.setIfInBounds_toArray, List.set_cons_zero, List.set_cons_succ]
  refine take_at (i := 4) (v := ?_) rfl rfl (by kernel_rfl) (by kernel_rfl) (by kernel_rfl) (fun _ _ _ h => h) (Or.inl ⟨by rfl, ?_⟩) (by assumption) ?_
  rotate_left
  · intro w hSw; (try dsimp only at hSw); go_simp; try with_reducible rfl
  try simp only [Act.put, List.setIfInBounds_toArray, List.set_cons_zero, List.set_cons_succ]
  refine take_at (i := 5) (v := ?_) rfl rfl (by kernel_rfl) (by kernel_rfl) (by kernel_rfl) (fun _ _ _ h => h) (Or.inl ⟨by rfl, ?_⟩) (by assumption) ?_
  rotate_left
  · intro w hSw; (try dsimp only at hSw); go_simp; try with_reducible rfl
  try simp only [Act.put, List.setIfInBounds_toArray, List.set_cons_zero, List.set_cons_succ]
  refine wpAnyH_ready (rs := [6]) (by kernel_rfl) (by simp) ?_
  refine AllReadyH.cons rfl (fun K hK => ?_) AllReadyH.nil
  go_simp
  refine CA.out.mono ?_
  rintro e w1 ⟨rfl, a1, a2, a3⟩
  obtain ⟨b1, b2, b3⟩ := HS0.out.code (by rw [Hlen.out.1]; exact hn2) a2
  have hxa : ¬ Tri gs g b ha := fun e => by
    have h1 := HD.out.s.lt
    have h2 := Hha.out
    rcases e with e | e | e <;> omega
  have HA1 : Hid (Blk w1 40 ha #[.int .i64 1, .int .i64 N, .string t]) := HAd.out.keptS a2 hxa
  have HX1 : Hid (Blk w1 32 x (sideC g (.pointer (some ⟨gs, 0, none⟩)) D X r c a cx)) := b1
  have HR1 : Hid (RowD w1 r c D.1) := b2
  have HT1 : Hid (StrsAt w1 a X.2.1.length X.2.1) := b3
  have HD1 : Hid (DevAt w1 g b D1) := a1
  have HC1 : Hid (z ≠ 170 → StC w1 (fun k => k = gs) gs g X1) := a3
  have HK1 : Hid (KeptS (Qua x gs g b) W w1) := HK0.out.trans (a2.sub (fun _ e => .inr e))
  have HP1 : Hid (B ≤ w1.heap.size) := Nat.le_trans HS0.out.lt.2.2.2.2 a2.size
  clear a1 a2 a3 b1 b2 b3 hxa HAd HS0 HK0 HB0 hS0 CA
  refine hK.out _ _ ⟨HX1.out.cell 1, HA1.out.cell 2⟩ (fun hHeld => ?_)
  clear hK K
  refine take_at (i := 7) (v := ?_) rfl rfl (by kernel_rfl) (by kernel_rfl) (by kernel_rfl) (fun _ _ _ h => h) (Or.inl ⟨by rfl, ?_⟩) (by assumption) ?_
  rotate_left
  · intro w hSw; (try dsimp only at hSw); go_simp; try with_reducible rfl
  try simp only [Act.put, List.setIfInBounds_toArray, List.set_cons_zero, List.set_cons_succ]
  refine wpAnyH_done (by kernel_rfl) (NoPanic.normal ?_) _
  obtain ⟨V, hV⟩ : ∃ V, w1.drew = V := ⟨_, rfl⟩
  have hbV : Below w1.heap.size w1 V := by rw [← hV]; exact (Below.refl _ _).drew
  have HXV : Hid (Blk V 32 x (sideC g (.pointer (some ⟨gs, 0, none⟩)) D X r c a cx)) := HX1.out.on hbV
  have hS : V.cell? ⟨x, 2, none⟩ = some (.slice (some ⟨r, 0, none⟩) D.1.length c) ∧ V.cell? ⟨x, 3, none⟩ = some (.int .i64 D.2.1) ∧ V.cell? ⟨x, 4, none⟩ = some (.bool D.2.2.1) ∧ V.cell? ⟨x, 5, none⟩ = some (.int .i64 D.2.2.2) ∧ V.cell? ⟨x, 6, none⟩ = some (.string X.1) ∧ V.cell? ⟨x, 7, none⟩ = some (.slice a X.2.1.length cx) ∧ V.cell? ⟨x, 8, none⟩ = some (.int .i64 X.2.2.1) ∧ V.cell? ⟨x, 9, none⟩ = some (.string X.2.2.2) ∧ V.cell? ⟨ha, 2, none⟩ = some (.string t) := ⟨HXV.out.cell 2, HXV.out.cell 3, HXV.out.cell 4, HXV.out.cell 5, HXV.out.cell 6, HXV.out.cell 7, HXV.out.cell 8, HXV.out.cell 9, (HA1.out.on hbV).cell 2⟩
  have hT : True := trivial
  have CR : Hid (Calls _ _ _ _ _) := radd18_any D (.agg (devA r c D)) n c0 B X (.agg #[.string X.1, .slice a X.2.1.length cx, .int .i64 X.2.2.1, .string X.2.2.2]) t V ⟨r, c, rfl, HR1.out.on hbV⟩ HD.out.v hn2 hn9 hc0 ⟨a, cx, rfl, HT1.out.below hbV, HD.out.s.ap⟩ (HD.out.m.ok hn9) (Nat.le_trans HP1.out hbV.size)
  rw [HQ.out] at CR
  simp only [devA] at CR
  go_wp2_with fail
  refine wp_region_noPanic ?_
  refine till_begin 12 (fun V => V.cell? ⟨x, 2, none⟩ = some (.slice (some ⟨r, 0, none⟩) D.1.length c) ∧ V.cell? ⟨x, 3, none⟩ = some (.int .i64 D.2.1) ∧ V.cell? ⟨x, 4, none⟩ = some (.bool D.2.2.1) ∧ V.cell? ⟨x, 5, none⟩ = some (.int .i64 D.2.2.2) ∧ V.cell? ⟨x, 6, none⟩ = some (.string X.1) ∧ V.cell? ⟨x, 7, none⟩ = some (.slice a X.2.1.length cx) ∧ V.cell? ⟨x, 8, none⟩ = some (.int .i64 X.2.2.1) ∧ V.cell? ⟨x, 9, none⟩ = some (.string X.2.2.2) ∧ V.cell? ⟨ha, 2, none⟩ = some (.string t)) (fun _ => True) (by kernel_rfl) ?_
  rw [hV]
  refine till_take (i := 0) (v := ?_) rfl rfl (by kernel_rfl) (by kernel_rfl) (by kernel_rfl) rfl (fun _ _ _ h => h) (Or.inl ⟨by rfl, ?_⟩) (by assumption) (fun _ => by assumption) ?_
  rotate_left
  · intro w hSw; (try dsimp only at hSw); go_simp; try with_reducible rfl
  try simp only [Act.put, List.setIfInBounds_toArray, List.set_cons_zero, List.set_cons_succ]
  refine till_take (i := 1) (v := ?_) rfl rfl (by kernel_rfl) (by kernel_rfl) (by kernel_rfl) rfl (fun _ _ _ h => h) (Or.inl ⟨by rfl, ?_⟩) (by assumption) (fun _ => by assumption) ?_
  rotate_left
  · intro w hSw; (try dsimp only at hSw); go_simp; try with_reducible rfl
  try simp only [Act.put, List.setIfInBounds_toArray, List.set_cons_zero, List.set_cons_succ]
  refine till_take (i := 2) (v := ?_) rfl rfl (by kernel_rfl) (by kernel_rfl) (by kernel_rfl) rfl (fun _ _ _ h => h) (Or.inl ⟨by rfl, ?_⟩) (by assumption) (fun _ => by assumption) ?_
  rotate_left
  · intro w hSw; (try dsimp only at hSw); go_simp; try with_reducible rfl
  try simp only [Act.put, List.setIfInBounds_toArray, List.set_cons_zero, List.set_cons_succ]
  refine till_take (i := 3) (v := ?_) rfl rfl (by kernel_rfl) (by kernel_rfl) (by kernel_rfl) rfl (fun _ _ _ h => h) (Or.inl ⟨by rfl, ?_⟩) (by assumption) (fun _ => by assumption) ?_
  rotate_left
  · intro w hSw; (try dsimp only at hSw); go_simp; try with_reducible rfl
  try simp only [Act.put, List.setIfInBounds_toArray, List.set_cons_zero, List.set_cons_succ]
  refine till_take (i := 4) (v := ?_) rfl rfl (by kernel_rfl) (by kernel_rfl) (by kernel_rfl) rfl (fun _ _ _ h => h) (Or.inl ⟨by rfl, ?_⟩) (by assumption) (fun _ => by assumption) ?_
  rotate_left
  · intro w hSw; (try dsimp only at hSw); go_simp; try with_reducible rfl
  try simp only [Act.put, List.setIfInBounds_toArray, List.set_cons_zero, List.set_cons_succ]
  refine till_take (i := 6) (v := ?_) rfl rfl (by kernel_rfl) (by kernel_rfl) (by kernel_rfl) rfl (fun _ _ _ h => h) (Or.inl ⟨by rfl, ?_⟩) (by assumption) (fun _ => by assumption) ?_
  rotate_left
  · intro w hSw; (try dsimp only at hSw); go_simp; try with_reducible rfl
  try simp only [Act.put, List.setIfInBounds_toArray, List.set_cons_zero, List.set_cons_succ]
  refine till_take (i := 7) (v := ?_) rfl rfl (by kernel_rfl) (by kernel_rfl) (by kernel_rfl) rfl (fun _ _ _ h => h) (Or.inl ⟨by rfl, ?_⟩) (by assumption) (fun _ => by assumption) ?_
  rotate_left
  · intro w hSw; (try dsimp only at hSw); go_simp; try with_reducible rfl
  try simp only [Act.put, List.setIfInBounds_toArray, List.set_cons_zero, List.set_cons_succ]
  refine till_take (i := 8) (v := ?_) rfl rfl (by kernel_rfl) (by kernel_rfl) (by kernel_rfl) rfl (fun _ _ _ h => h) (Or.inl ⟨by rfl, ?_⟩) (by assumption) (fun _ => by assumption) ?_
  rotate_left
  · intro w hSw; (try dsimp only at hSw); go_simp; try with_reducible rfl
  try simp only [Act.put, List.setIfInBounds_toArray, List.set_cons_zero, List.set_cons_succ]
  refine till_take (i := 10) (v := ?_) rfl rfl (by kernel_rfl) (by kernel_rfl) (by kernel_rfl) rfl (fun _ _ _ h => h) (Or.inl ⟨by rfl, ?_⟩) (by assumption) (fun _ => by assumption) ?_
  rotate_left
  · intro w hSw; (try dsimp only at hSw); go_simp; try with_reducible rfl
  try simp only [Act.put, List.setIfInBounds_toArray, List.set_cons_zero, List.set_cons_succ]
  refine till_take' (i := 5) (v := ?_) rfl rfl (by kernel_rfl) (by kernel_rfl) (by kernel_rfl) rfl (by kernel_rfl) (by kernel_rfl) (fun _ _ _ h => h) (Or.inl ⟨by rfl, ?_⟩) (by assumption) (by assumption) ?_
  rotate_left
  · intro w hSw; (try dsimp only at hSw); go_simp; try with_reducible rfl
  try simp only [Act.put, List.setIfInBounds_toArray, List.set_cons_zero, List.set_cons_succ]
  refine till_take' (i := 9) (v := ?_) rfl rfl (by kernel_rfl) (by kernel_rfl) (by kernel_rfl) rfl (by kernel_rfl) (by kernel_rfl) (fun _ _ _ h => h) (Or.inl ⟨by rfl, ?_⟩) (by assumption) (by assumption) ?_
  rotate_left
  · intro w hSw; (try dsimp only at hSw); go_simp; try with_reducible rfl
  try simp only [Act.put, List.setIfInBounds_toArray, List.set_cons_zero, List.set_cons_succ]
  refine till_take' (i := 11) (v := ?_) rfl rfl (by kernel_rfl) (by kernel_rfl) (by kernel_rfl) rfl (by kernel_rfl) (by kernel_rfl) (fun _ _ _ h => h) (Or.inl ⟨by rfl, ?_⟩) (by assumption) (by assumption) ?_
  rotate_left
  · intro w hSw; (try dsimp only at hSw); go_simp; try with_reducible rfl
  try simp only [Act.put, List.setIfInBounds_toArray, List.set_cons_zero, List.set_cons_succ]
  refine till_step (i := 12) (by kernel_rfl) rfl (fun K hK => ?_)
  go_simp
  refine CR.out.mono ?_
  rintro e w2 ⟨v2, u2, rfl, hv2, hu2, hb2⟩
  obtain ⟨r2, c2, rfl, hr2⟩ := hv2
  obtain ⟨a3, c3, rfl, ht3, hx3⟩ := hu2
  have hb12 : Below w1.heap.size w1 w2 := below_step hbV (Nat.le_refl _) hb2
  have HX2 : Hid (Blk w2 32 x (sideC g (.pointer (some ⟨gs, 0, none⟩)) D X r c a cx)) := HX1.out.on hb12
  have HD2 : Hid (DevAt w2 g b D1) := HD1.out.on hb12
  have HC2 : Hid (z ≠ 170 → StC w2 (fun k => k = gs) gs g X1) := fun e => ⟨(HC1.out e).1.on hb12, (HC1.out e).2⟩
  have HK2 : Hid (KeptS (Qua x gs g b) W w2) := HK1.out.trans ((KeptS.ofBelow hb12).sub (fun _ e => e.elim))
  have HR2 : Hid (RowD w2 r2 c2 D1.1) := hr2
  have HT2 : Hid (StrsAt w2 a3 X1.2.1.length X1.2.1) := ht3
  have HP2 : Hid (B ≤ w2.heap.size ∧ ∀ z, a3 = some z → B ≤ z.block) := ⟨Nat.le_trans HP1.out hb12.size, hx3⟩
  clear hr2 ht3 hx3 hb2 hb12 hbV CR HXV HX1 HR1 HT1 HD1 HC1 HK1 HP1 HA1 hS hV
  refine hK.out _ _ (trivial) (fun h => till_no (by kernel_rfl) h) ?_
  clear hK K
  refine till_take (i := 13) (v := ?_) rfl rfl (by kernel_rfl) (by kernel_rfl) (by kernel_rfl) rfl (fun _ _ _ h => h) (Or.inl ⟨by rfl, ?_⟩) (by assumption) (fun h => till_no (by kernel_rfl) h) ?_
  rotate_left
  · intro w hSw; (try dsimp only at hSw); go_simp; try with_reducible rfl
  try simp only [Act.put, List.setIfInBounds_toArray, List.set_cons_zero, List.set_cons_succ]
  refine till_take (i := 14) (v := ?_) rfl rfl (by kernel_rfl) (by kernel_rfl) (by kernel_rfl) rfl (fun _ _ _ h => h) (Or.inl ⟨by rfl, ?_⟩) (by assumption) (fun h => till_no (by kernel_rfl) h) ?_
  rotate_left
  · intro w hSw; (try dsimp only at hSw); go_simp; try with_reducible rfl
  try simp only [Act.put, List.setIfInBounds_toArray, List.set_cons_zero, List.set_cons_succ]
  refine till_take (i := 15) (v := ?_) rfl rfl (by kernel_rfl) (by kernel_rfl) (by kernel_rfl) rfl (fun _ _ _ h => h) (Or.inl ⟨by rfl, ?_⟩) (by assumption) (fun h => till_no (by kernel_rfl) h) ?_
  rotate_left
  · intro w hSw; (try dsimp only at hSw); go_simp; try with_reducible rfl
  try simp only [Act.put, List.setIfInBounds_toArray, List.set_cons_zero, List.set_cons_succ]
  refine till_take (i := 16) (v := ?_) rfl rfl (by kernel_rfl) (by kernel_rfl) (by kernel_rfl) rfl (fun _ _ _ h => h) (Or.inl ⟨by rfl, ?_⟩) (by assumption) (fun h => till_no (by kernel_rfl) h) ?_
  rotate_left
  · intro w hSw; (try dsimp only at hSw); go_simp; try with_reducible rfl
  try simp only [Act.put, List.setIfInBounds_toArray, List.set_cons_zero, List.set_cons_succ]
  refine till_take (i := 17) (v := ?_) rfl rfl (by kernel_rfl) (by kernel_rfl) (by kernel_rfl) rfl (fun _ _ _ h => h) (Or.inl ⟨by rfl, ?_⟩) (by assumption) (fun h => till_no (by kernel_rfl) h) ?_
  rotate_left
  · intro w hSw; (try dsimp only at hSw); go_simp; try with_reducible rfl
  try simp only [Act.put, List.setIfInBounds_toArray, List.set_cons_zero, List.set_cons_succ]
  refine till_take (i := 18) (v := ?_) rfl rfl (by kernel_rfl) (by kernel_rfl) (by kernel_rfl) rfl (fun _ _ _ h => h) (Or.inl ⟨by rfl, ?_⟩) (by assumption) (fun h => till_no (by kernel_rfl) h) ?_
  rotate_left
  · intro w hSw; (try dsimp only at hSw); go_simp; try with_reducible rfl
  try simp only [Act.put, List.setIfInBounds_toArray, List.set_cons_zero, List.set_cons_succ]
  refine till_step (i := 19) (by kernel_rfl) rfl (fun K hK => ?_)
  refine step_storeAt rfl rfl 28 _ _ rfl x 2 32 (sideC g (.pointer (some ⟨gs, 0, none⟩)) D X r c a cx) (devA r2 c2 D1) (sideC g (.pointer (some ⟨gs, 0, none⟩)) D1 X r2 c2 a cx) rfl rfl HX2.out (by kernel_rfl) (by show 2 + 4 ≤ 10; decide) (by kernel_rfl) rfl ?_
  refine hK.out _ _ (trivial) (fun h => till_no (by kernel_rfl) h) ?_
  clear hK K
  refine till_take (i := 20) (v := ?_) rfl rfl (by kernel_rfl) (by kernel_rfl) (by kernel_rfl) rfl (fun _ _ _ h => h) (Or.inl ⟨by rfl, ?_⟩) (by assumption) (fun h => till_no (by kernel_rfl) h) ?_
  rotate_left
  · intro w hSw; (try dsimp only at hSw); go_simp; try with_reducible rfl
  try simp only [Act.put, List.setIfInBounds_toArray, List.set_cons_zero, List.set_cons_succ]
  refine till_take (i := 21) (v := ?_) rfl rfl (by kernel_rfl) (by kernel_rfl) (by kernel_rfl) rfl (fun _ _ _ h => h) (Or.inl ⟨by rfl, ?_⟩) (by assumption) (fun h => till_no (by kernel_rfl) h) ?_
  rotate_left
  · intro w hSw; (try dsimp only at hSw); go_simp; try with_reducible rfl
  try simp only [Act.put, List.setIfInBounds_toArray, List.set_cons_zero, List.set_cons_succ]
  refine till_step (i := 22) (by kernel_rfl) rfl (fun K hK => ?_)
  refine step_storeAt rfl rfl 30 _ _ rfl x 6 32 (sideC g (.pointer (some ⟨gs, 0, none⟩)) D1 X r2 c2 a cx) #[.string X1.1, .slice a3 X1.2.1.length c3, .int .i64 X1.2.2.1, .string X1.2.2.2] (sideC g (.pointer (some ⟨gs, 0, none⟩)) D1 X1 r2 c2 a3 c3) rfl rfl (HX2.out.setRow _) (by kernel_rfl) (by show 6 + 4 ≤ 10; decide) (by kernel_rfl) rfl ?_
  refine hK.out _ _ (trivial) (fun h => till_no (by kernel_rfl) h) ?_
  clear hK K
  refine till_take (i := 23) (v := ?_) rfl rfl (by kernel_rfl) (by kernel_rfl) (by kernel_rfl) rfl (fun _ _ _ h => h) (Or.inl ⟨by rfl, ?_⟩) (by assumption) (fun h => till_no (by kernel_rfl) h) ?_
  rotate_left
  · intro w hSw; (try dsimp only at hSw); go_simp; try with_reducible rfl
  try simp only [Act.put, List.setIfInBounds_toArray, List.set_cons_zero, List.set_cons_succ]
  refine till_done (by kernel_rfl) (NoPanic.normal ?_) _
  obtain ⟨w3, hw3⟩ : ∃ w3, (w2.setRow x (sideC g (.pointer (some ⟨gs, 0, none⟩)) D1 X r2 c2 a cx)).setRow x (sideC g (.pointer (some ⟨gs, 0, none⟩)) D1 X1 r2 c2 a3 c3) = w3 := ⟨_, rfl⟩
  have hK3 : KeptS (fun k => k = x) w2 w3 := by rw [← hw3]; exact ((KeptS.refl (fun k => k = x) w2).setRow x rfl _).setRow x rfl _
  have HX3 : Hid (Blk w3 32 x (sideC g (.pointer (some ⟨gs, 0, none⟩)) D1 X1 r2 c2 a3 c3)) := by rw [← hw3]; exact (HX2.out.setRow _).setRow _
  have HN : Hid (x ≠ gs ∧ x ≠ g ∧ x ≠ b ∧ gs ≠ g ∧ gs ≠ b) := HD.out.s.ne
  have HD3 : Hid (DevAt w3 g b D1) := HD2.out.keptS hK3 (fun e => HN.out.2.1 e.symm) (fun e => HN.out.2.2.1 e.symm)
  have HC3 : Hid (z ≠ 170 → StC w3 (fun k => k = gs) gs g X1) := fun e => ⟨(HC2.out e).1.keptS hK3 (fun e => HN.out.1 e.symm), (HC2.out e).2⟩
  have HR3 : Hid (RowD w3 r2 c2 D1.1) := HR2.out.keptS hK3 (HR2.out.apartB (by rw [Hlen.out.2]; omega) HX2.out rfl (fun s e => by cases e))
  have HT3 : Hid (StrsAt w3 a3 X1.2.1.length X1.2.1) := strs_keptS HT2.out hK3 (fun q hq2 => .inr (fun e => by have h1 := HP2.out.2 q hq2; have h2 := HD.out.s.lt; omega))
  have HK3 : Hid (KeptS (Qua x gs g b) W w3) := HK2.out.trans (hK3.sub (fun _ e => .inl e))
  have HP3 : Hid (B ≤ w3.heap.size ∧ ∀ z, a3 = some z → B ≤ z.block) := ⟨Nat.le_trans HP2.out.1 hK3.size, HP2.out.2⟩
  rw [hw3]
  clear hw3 hK3 HX2 HD2 HC2 HR2 HT2 HK2 HP2
  by_cases hz : z = 170
  · have q9 : (z == 170) = true := by rw [hz]; rfl
    clear hz
    go_wp2_with fail
    refine (sd_opens x g b (.pointer (some ⟨gs, 0, none⟩)) D1 X1 r2 c2 a3 c3 w3 ⟨HX3.out, HD3.out, HR3.out⟩ (by rw [Hlen.out.2]; exact hn2) (by rw [Hlen.out.2]; exact hn9) (fun W' e => HG.out W' (HK3.out.trans (e.sub (fun k hk => tri_qua hk))))).mono ?_
    rintro e w4 ⟨rfl, k4, gs4, r4, c4, a4, cx4, B4, hs4, hg4⟩
    have HK4 : Hid (KeptS (Qua x gs g b) W w4) := HK3.out.trans (k4.sub (fun k hk => tri_qua hk))
    have HS4 : Hid (SdS w4 x gs4 g b (onB D1) (openP D1.1) r4 c4 a4 cx4 B4) := hs4
    have Hg4 : Hid (W.heap.size ≤ gs4) := Nat.le_trans HK3.out.size hg4
    have HM4 : Hid (StM n (openP D1.1)) := by
      have h9 := stM_open D1.1 (by rw [Hlen.out.2]; exact hn2) HD3.out.all
      rw [Hlen.out.2] at h9
      exact h9
    clear k4 hs4 hg4
    go_wp2_with fail
    go_ret
    exact ⟨rfl, HK4.out, gs4, onB D1, openP D1.1, r4, c4, a4, cx4, B4, ⟨HS4.out, rfl, ⟨HV.out.1.len, HV.out.1.n0, HV.out.1.n1, by show (-1 : Int) ≤ -1; omega, by show (-1 : Int) ≤ _; omega⟩, HM4.out⟩, .inr Hg4.out⟩
  · have q9 : (z == 170) = false := by rw [beq_eq_false_iff_ne]; exact hz
    have h1 := HD.out.s.lt
    have HS3 : Hid (SdS w3 x gs g b D1 X1 r2 c2 a3 c3 B) := ⟨HX3.out, HD3.out, HC3.out hz, HR3.out, HT3.out, HP3.out.2, h1.1, h1.2.1, h1.2.2.1, h1.2.2.2.1, HP3.out.1⟩
    have HO3 : Hid (D1.2.2.1 = false) := HV.out.2.2 hz
    clear hz h1
    go_wp2_with fail
    refine (sd_same x gs g b D1 X1 r2 c2 a3 c3 B w3 HS3.out HO3.out (by rw [Hlen.out.2]; omega) hX1l).mono ?_
    rintro e w4 ⟨rfl, hb4⟩
    have HS4 : Hid (SdS w4 x gs g b D1 X1 r2 c2 a3 c3 B) := HS3.out.on hb4
    have HK4 : Hid (KeptS (Qua x gs g b) W w4) := HK3.out.trans ((KeptS.ofBelow hb4).sub (fun _ e => e.elim))
    clear hb4
    go_wp2_with fail
    go_ret
    exact ⟨rfl, HK4.out, gs, D1, X1, r2, c2, a3, c3, B, ⟨HS4.out, HO3.out, HV.out.1, HV.out.2.1⟩, .inl rfl⟩

set_option maxHeartbeats 4000000 in
theorem sd_lay (x gs g b : Nat) (D : DevT) (X : StoT) (r c : Nat) (a : Option Addr) (cx B n : Nat) (c0 : Int) (N : Int) (t : ByteArray) (W : World) (h : DoS W x gs g b D X r c a cx B n c0) (hn2 : 2 ≤ n) (hn9 : n ≤ 2048) (hc0 : c0 < 576460752303423488) (hG : ∀ W', KeptS (Qua x gs g b) W W' → GlobB W' ∧ GlobK W') :
    Calls Tryz.prog 9 #[.pointer (some ⟨x, 0, none⟩), .agg #[.int .i64 2, .int .i64 N, .string t]] W fun e w' => e = .returned (.bool true) ∧ KeptS (Qua x gs g b) W w' ∧ ∃ gs' D' X' r' c' a' cx' B', DoS w' x gs' g b D' X' r' c' a' cx' B' n (c0 + 1024) ∧ (gs' = gs ∨ W.heap.size ≤ gs') := by
  have hlen := h.v.len
  have HD : Hid (DoS W x gs g b D X r c a cx B n c0) := h
  have HG : Hid (∀ W', KeptS (Qua x gs g b) W W' → GlobB W' ∧ GlobK W') := hG
  have HV1 := h.v.lay X t hn9
  have HM1 := stM_lay D X t (hlen ▸ h.m)
  have HO1 := lay_still D X t h.o
  have hD1l : (layS D X t).1.1.length = n := HV1.len
  obtain ⟨⟨D1, X1, z⟩, hq⟩ : ∃ p, layS D X t = p := ⟨_, rfl⟩
  rw [hq] at HV1 HM1 HO1 hD1l
  rw [hlen] at HM1
  simp only at HV1 HM1 HO1 hD1l
  have HQ : Hid (layS D X t = (D1, X1, z)) := hq
  have HV : Hid (DvO n (c0 + 1024) D1 ∧ StM n X1 ∧ (z ≠ 170 → D1.2.2.1 = false)) := ⟨HV1, HM1, HO1⟩
  have hX1l : X1.2.1.length ≤ 1048576 := by have := HM1.b; have := HM1.l; omega
  have Hlen : Hid (D.1.length = n ∧ D1.1.length = n) := ⟨hlen, hD1l⟩
  clear h hG HV1 HM1 HO1 hq hlen hD1l
  have eZ : (z != z) = false := by rw [bne_eq_false_iff_eq]
  go_enter Tryz.func9, Tryz.ntmps9
  go_wp2_with fail
  obtain ⟨ha, hha⟩ : ∃ ha, W.heap.size = ha := ⟨_, rfl⟩
  obtain ⟨w0, hw0⟩ : ∃ w0, W.alloc (.cells #[.int .i64 2, .int .i64 N, .string t] 40) = w0 := ⟨_, rfl⟩
  have HB0 : Hid (Below W.heap.size W w0) := by rw [← hw0]; exact below_new W _
  have HA0 : Hid (Blk w0 40 ha #[.int .i64 2, .int .i64 N, .string t]) := by rw [← hw0]; exact Blk.new' W _ _ ha hha
  have HS0 : Hid (SdS w0.drew x gs g b D X r c a cx B) := HD.out.s.on HB0.out.drew
  have HAd : Hid (Blk w0.drew 40 ha #[.int .i64 2, .int .i64 N, .string t]) := HA0.out.on (Below.refl _ _).drew
  have hS0 : w0.drew.cell? ⟨x, 1, none⟩ = some (.pointer (some ⟨gs, 0, none⟩)) ∧ w0.drew.cell? ⟨ha, 2, none⟩ = some (.string t) := ⟨HS0.out.bl.cell 1, HAd.out.cell 2⟩
  have HK0 : Hid (KeptS (Qua x gs g b) W w0.drew) := (KeptS.ofBelow HB0.out.drew).sub (fun _ e => e.elim)
  have Hha : Hid (W.heap.size = ha) := hha
  rw [hw0, hha]
  clear hw0 hha HA0
  have CA : Hid (Calls _ _ _ _ _) := slay_any gs g b (fun k => k = gs) X D n c0 t w0.drew HS0.out.s HS0.out.d HD.out.v HD.out.m.t0 hn2 hn9 hc0 HS0.out.ne.2.2.2.1 HS0.out.ne.2.2.2.2 (HG.out _ HK0.out).1 (HG.out _ HK0.out).2
  rw [HQ.out] at CA
  simp only at CA
  refine wp_region_noPanic ?_
  refine wp_region_held_drew (S := fun W' => W'.cell? ⟨x, 1, none⟩ = some (.pointer (some ⟨gs, 0, none⟩)) ∧ W'.cell? ⟨ha, 2, none⟩ = some (.string t)) (by kernel_rfl) (by first | exact trivial | assumption | exact ⟨by assumption, by assumption⟩) (fun hHeld => ?_)
  refine take_at (i := 0) (v := ?_) rfl rfl (by kernel_rfl) (by kernel_rfl) (by kernel_rfl) (fun _ _ _ h => h) (Or.inl ⟨by rfl, ?_⟩) (by assumption) ?_
  rotate_left
  · intro w hSw; (try dsimp only at hSw); go_simp; try with_reducible rfl
  try simp only [Act.put, List.setIfInBounds_toArray, List.set_cons_zero, List.set_cons_succ]
  refine take_at (i := 1) (v := ?_) rfl rfl (by kernel_rfl) (by kernel_rfl) (by kernel_rfl) (fun _ _ _ h => h) (Or.inl ⟨by rfl, ?_⟩) (by assumption) ?_
  rotate_left
  · intro w hSw; (try dsimp only at hSw); go_simp; try with_reducible rfl
  try simp only [Act.put, List.setIfInBounds_toArray, List.set_cons_zero, List.set_cons_succ]
  refine take_at (i := 2) (v := ?_) rfl rfl (by kernel_rfl) (by kernel_rfl) (by kernel_rfl) (fun _ _ _ h => h) (Or.inl ⟨by rfl, ?_⟩) (by assumption) ?_
  rotate_left
  · intro w hSw; (try dsimp only at hSw); go_simp; try with_reducible rfl
  try simp only [Act.put, List.setIfInBounds_toArray, List.set_cons_zero, List.set_cons_succ]
  refine take_at (i := 3) (v := ?_) rfl rfl (by kernel_rfl) (by kernel_rfl) (by kernel_rfl) (fun _ _ _ h => h) (Or.inl ⟨by rfl, ?_⟩) (by assumption) ?_
  rotate_left
  · intro w hSw; (try dsimp only at hSw); go_simp; try with_reducible rfl
  try simp only [Act.put, List.setIfInBounds_toArray, List.set_cons_zero, List.set_cons_succ]
  refine take_at (i := 4) (v := ?_) rfl rfl (by kernel_rfl) (by kernel_rfl) (by kernel_rfl) (fun _ _ _ h => h) (Or.inl ⟨by rfl, ?_⟩) (by assumption) ?_
  rotate_left
  · intro w hSw; (try dsimp only at hSw); go_simp; try with_reducible rfl
  try simp only [Act.put, List.setIfInBounds_toArray, List.set_cons_zero, List.set_cons_succ]
  refine take_at (i := 5) (v := ?_) rfl rfl (by kernel_rfl) (by kernel_rfl) (by kernel_rfl) (fun _ _ _ h => h) (Or.inl ⟨by rfl, ?_⟩) (by assumption) ?_
  rotate_left
  · intro w hSw; (try dsimp only at hSw); go_simp; try with_reducible rfl
  try simp only [Act.put, List.setIfInBounds_toArray, List.set_cons_zero, List.set_cons_succ]
  refine wpAnyH_ready (rs := [6]) (by kernel_rfl) (by simp) ?_
  refine AllReadyH.cons rfl (fun K hK => ?_) AllReadyH.nil
  go_simp
  refine CA.out.mono ?_
  rintro e w1 ⟨rfl, a1, a2, a3⟩
  obtain ⟨b1, b2, b3⟩ := HS0.out.code (by rw [Hlen.out.1]; exact hn2) a2
  have hxa : ¬ Tri gs g b ha := fun e => by
    have h1 := HD.out.s.lt
    have h2 := Hha.out
    rcases e with e | e | e <;> omega
  have HA1 : Hid (Blk w1 40 ha #[.int .i64 2, .int .i64 N, .string t]) := HAd.out.keptS a2 hxa
  have HX1 : Hid (Blk w1 32 x (sideC g (.pointer (some ⟨gs, 0, none⟩)) D X r c a cx)) := b1
  have HR1 : Hid (RowD w1 r c D.1) := b2
  have HT1 : Hid (StrsAt w1 a X.2.1.length X.2.1) := b3
  have HD1 : Hid (DevAt w1 g b D1) := a1
  have HC1 : Hid (z ≠ 170 → StC w1 (fun k => k = gs) gs g X1) := a3
  have HK1 : Hid (KeptS (Qua x gs g b) W w1) := HK0.out.trans (a2.sub (fun _ e => .inr e))
  have HP1 : Hid (B ≤ w1.heap.size) := Nat.le_trans HS0.out.lt.2.2.2.2 a2.size
  clear a1 a2 a3 b1 b2 b3 hxa HAd HS0 HK0 HB0 hS0 CA
  refine hK.out _ _ ⟨HX1.out.cell 1, HA1.out.cell 2⟩ (fun hHeld => ?_)
  clear hK K
  refine take_at (i := 7) (v := ?_) rfl rfl (by kernel_rfl) (by kernel_rfl) (by kernel_rfl) (fun _ _ _ h => h) (Or.inl ⟨by rfl, ?_⟩) (by assumption) ?_
  rotate_left
  · intro w hSw; (try dsimp only at hSw); go_simp; try with_reducible rfl
  try simp only [Act.put, List.setIfInBounds_toArray, List.set_cons_zero, List.set_cons_succ]
  refine wpAnyH_done (by kernel_rfl) (NoPanic.normal ?_) _
  obtain ⟨V, hV⟩ : ∃ V, w1.drew = V := ⟨_, rfl⟩
  have hbV : Below w1.heap.size w1 V := by rw [← hV]; exact (Below.refl _ _).drew
  have HXV : Hid (Blk V 32 x (sideC g (.pointer (some ⟨gs, 0, none⟩)) D X r c a cx)) := HX1.out.on hbV
  have hS : V.cell? ⟨x, 2, none⟩ = some (.slice (some ⟨r, 0, none⟩) D.1.length c) ∧ V.cell? ⟨x, 3, none⟩ = some (.int .i64 D.2.1) ∧ V.cell? ⟨x, 4, none⟩ = some (.bool D.2.2.1) ∧ V.cell? ⟨x, 5, none⟩ = some (.int .i64 D.2.2.2) ∧ V.cell? ⟨x, 6, none⟩ = some (.string X.1) ∧ V.cell? ⟨x, 7, none⟩ = some (.slice a X.2.1.length cx) ∧ V.cell? ⟨x, 8, none⟩ = some (.int .i64 X.2.2.1) ∧ V.cell? ⟨x, 9, none⟩ = some (.string X.2.2.2) ∧ V.cell? ⟨ha, 2, none⟩ = some (.string t) := ⟨HXV.out.cell 2, HXV.out.cell 3, HXV.out.cell 4, HXV.out.cell 5, HXV.out.cell 6, HXV.out.cell 7, HXV.out.cell 8, HXV.out.cell 9, (HA1.out.on hbV).cell 2⟩
  have hT : True := trivial
  have CR : Hid (Calls _ _ _ _ _) := rlay18_any D (.agg (devA r c D)) n c0 B X (.agg #[.string X.1, .slice a X.2.1.length cx, .int .i64 X.2.2.1, .string X.2.2.2]) t V ⟨r, c, rfl, HR1.out.on hbV⟩ HD.out.v hn2 hn9 hc0 ⟨a, cx, rfl, HT1.out.below hbV, HD.out.s.ap⟩ (HD.out.m.ok hn9) (Nat.le_trans HP1.out hbV.size)
  rw [HQ.out] at CR
  simp only [devA] at CR
  go_wp2_with fail
  refine wp_region_noPanic ?_
  refine till_begin 12 (fun V => V.cell? ⟨x, 2, none⟩ = some (.slice (some ⟨r, 0, none⟩) D.1.length c) ∧ V.cell? ⟨x, 3, none⟩ = some (.int .i64 D.2.1) ∧ V.cell? ⟨x, 4, none⟩ = some (.bool D.2.2.1) ∧ V.cell? ⟨x, 5, none⟩ = some (.int .i64 D.2.2.2) ∧ V.cell? ⟨x, 6, none⟩ = some (.string X.1) ∧ V.cell? ⟨x, 7, none⟩ = some (.slice a X.2.1.length cx) ∧ V.cell? ⟨x, 8, none⟩ = some (.int .i64 X.2.2.1) ∧ V.cell? ⟨x, 9, none⟩ = some (.string X.2.2.2) ∧ V.cell? ⟨ha, 2, none⟩ = some (.string t)) (fun _ => True) (by kernel_rfl) ?_
  rw [hV]
  refine till_take (i := 0) (v := ?_) rfl rfl (by kernel_rfl) (by kernel_rfl) (by kernel_rfl) rfl (fun _ _ _ h => h) (Or.inl ⟨by rfl, ?_⟩) (by assumption) (fun _ => by assumption) ?_
  rotate_left
  · intro w hSw; (try dsimp only at hSw); go_simp; try with_reducible rfl
  try simp only [Act.put, List.setIfInBounds_toArray, List.set_cons_zero, List.set_cons_succ]
  refine till_take (i := 1) (v := ?_) rfl rfl (by kernel_rfl) (by kernel_rfl) (by kernel_rfl) rfl (fun _ _ _ h => h) (Or.inl ⟨by rfl, ?_⟩) (by assumption) (fun _ => by assumption) ?_
  rotate_left
  · intro w hSw; (try dsimp only at hSw); go_simp; try with_reducible rfl
  try simp only [Act.put, List.setIfInBounds_toArray, List.set_cons_zero, List.set_cons_succ]
  refine till_take (i := 2) (v := ?_) rfl rfl (by kernel_rfl) (by kernel_rfl) (by kernel_rfl) rfl (fun _ _ _ h => h) (Or.inl ⟨by rfl, ?_⟩) (by assumption) (fun _ => by assumption) ?_
  rotate_left
  · intro w hSw; (try dsimp only at hSw); go_simp; try with_reducible rfl
  try simp only [Act.put, List.setIfInBounds_toArray, List.set_cons_zero, List.set_cons_succ]
  refine till_take (i := 3) (v := ?_) rfl rfl (by kernel_rfl) (by kernel_rfl) (by kernel_rfl) rfl (fun _ _ _ h => h) (Or.inl ⟨by rfl, ?_⟩) (by assumption) (fun _ => by assumption) ?_
  rotate_left
  · intro w hSw; (try dsimp only at hSw); go_simp; try with_reducible rfl
  try simp only [Act.put, List.setIfInBounds_toArray, List.set_cons_zero, List.set_cons_succ]
  refine till_take (i := 4) (v := ?_) rfl rfl (by kernel_rfl) (by kernel_rfl) (by kernel_rfl) rfl (fun _ _ _ h => h) (Or.inl ⟨by rfl, ?_⟩) (by assumption) (fun _ => by assumption) ?_
  rotate_left
  · intro w hSw; (try dsimp only at hSw); go_simp; try with_reducible rfl
  try simp only [Act.put, List.setIfInBounds_toArray, List.set_cons_zero, List.set_cons_succ]
  refine till_take (i := 6) (v := ?_) rfl rfl (by kernel_rfl) (by kernel_rfl) (by kernel_rfl) rfl (fun _ _ _ h => h) (Or.inl ⟨by rfl, ?_⟩) (by assumption) (fun _ => by assumption) ?_
  rotate_left
  · intro w hSw; (try dsimp only at hSw); go_simp; try with_reducible rfl
  try simp only [Act.put, List.setIfInBounds_toArray, List.set_cons_zero, List.set_cons_succ]
  refine till_take (i := 7) (v := ?_) rfl rfl (by kernel_rfl) (by kernel_rfl) (by kernel_rfl) rfl (fun _ _ _ h => h) (Or.inl ⟨by rfl, ?_⟩) (by assumption) (fun _ => by assumption) ?_
  rotate_left
  · intro w hSw; (try dsimp only at hSw); go_simp; try with_reducible rfl
  try simp only [Act.put, List.setIfInBounds_toArray, List.set_cons_zero, List.set_cons_succ]
  refine till_take (i := 8) (v := ?_) rfl rfl (by kernel_rfl) (by kernel_rfl) (by kernel_rfl) rfl (fun _ _ _ h => h) (Or.inl ⟨by rfl, ?_⟩) (by assumption) (fun _ => by assumption) ?_
  rotate_left
  · intro w hSw; (try dsimp only at hSw); go_simp; try with_reducible rfl
  try simp only [Act.put, List.setIfInBounds_toArray, List.set_cons_zero, List.set_cons_succ]
  refine till_take (i := 10) (v := ?_) rfl rfl (by kernel_rfl) (by kernel_rfl) (by kernel_rfl) rfl (fun _ _ _ h => h) (Or.inl ⟨by rfl, ?_⟩) (by assumption) (fun _ => by assumption) ?_
  rotate_left
  · intro w hSw; (try dsimp only at hSw); go_simp; try with_reducible rfl
  try simp only [Act.put, List.setIfInBounds_toArray, List.set_cons_zero, List.set_cons_succ]
  refine till_take' (i := 5) (v := ?_) rfl rfl (by kernel_rfl) (by kernel_rfl) (by kernel_rfl) rfl (by kernel_rfl) (by kernel_rfl) (fun _ _ _ h => h) (Or.inl ⟨by rfl, ?_⟩) (by assumption) (by assumption) ?_
  rotate_left
  · intro w hSw; (try dsimp only at hSw); go_simp; try with_reducible rfl
  try simp only [Act.put, List.setIfInBounds_toArray, List.set_cons_zero, List.set_cons_succ]
  refine till_take' (i := 9) (v := ?_) rfl rfl (by kernel_rfl) (by kernel_rfl) (by kernel_rfl) rfl (by kernel_rfl) (by kernel_rfl) (fun _ _ _ h => h) (Or.inl ⟨by rfl, ?_⟩) (by assumption) (by assumption) ?_
  rotate_left
  · intro w hSw; (try dsimp only at hSw); go_simp; try with_reducible rfl
  try simp only [Act.put, List.setIfInBounds_toArray, List.set_cons_zero, List.set_cons_succ]
  refine till_take' (i := 11) (v := ?_) rfl rfl (by kernel_rfl) (by kernel_rfl) (by kernel_rfl) rfl (by kernel_rfl) (by kernel_rfl) (fun _ _ _ h => h) (Or.inl ⟨by rfl, ?_⟩) (by assumption) (by assumption) ?_
  rotate_left
  · intro w hSw; (try dsimp only at hSw); go_simp; try with_reducible rfl
  try simp only [Act.put, List.setIfInBounds_toArray, List.set_cons_zero, List.set_cons_succ]
  refine till_step (i := 12) (by kernel_rfl) rfl (fun K hK => ?_)
  go_simp
  refine CR.out.mono ?_
  rintro e w2 ⟨v2, u2, rfl, hv2, hu2, hb2⟩
  obtain ⟨r2, c2, rfl, hr2⟩ := hv2
  obtain ⟨a3, c3, rfl, ht3, hx3⟩ := hu2
  have hb12 : Below w1.heap.size w1 w2 := below_step hbV (Nat.le_refl _) hb2
  have HX2 : Hid (Blk w2 32 x (sideC g (.pointer (some ⟨gs, 0, none⟩)) D X r c a cx)) := HX1.out.on hb12
  have HD2 : Hid (DevAt w2 g b D1) := HD1.out.on hb12
  have HC2 : Hid (z ≠ 170 → StC w2 (fun k => k = gs) gs g X1) := fun e => ⟨(HC1.out e).1.on hb12, (HC1.out e).2⟩
  have HK2 : Hid (KeptS (Qua x gs g b) W w2) := HK1.out.trans ((KeptS.ofBelow hb12).sub (fun _ e => e.elim))
  have HR2 : Hid (RowD w2 r2 c2 D1.1) := hr2
  have HT2 : Hid (StrsAt w2 a3 X1.2.1.length X1.2.1) := ht3
  have HP2 : Hid (B ≤ w2.heap.size ∧ ∀ z, a3 = some z → B ≤ z.block) := ⟨Nat.le_trans HP1.out hb12.size, hx3⟩
  clear hr2 ht3 hx3 hb2 hb12 hbV CR HXV HX1 HR1 HT1 HD1 HC1 HK1 HP1 HA1 hS hV
  refine hK.out _ _ (trivial) (fun h => till_no (by kernel_rfl) h) ?_
  clear hK K
  refine till_take (i := 13) (v := ?_) rfl rfl (by kernel_rfl) (by kernel_rfl) (by kernel_rfl) rfl (fun _ _ _ h => h) (Or.inl ⟨by rfl, ?_⟩) (by assumption) (fun h => till_no (by kernel_rfl) h) ?_
  rotate_left
  · intro w hSw; (try dsimp only at hSw); go_simp; try with_reducible rfl
  try simp only [Act.put, List.setIfInBounds_toArray, List.set_cons_zero, List.set_cons_succ]
  refine till_take (i := 14) (v := ?_) rfl rfl (by kernel_rfl) (by kernel_rfl) (by kernel_rfl) rfl (fun _ _ _ h => h) (Or.inl ⟨by rfl, ?_⟩) (by assumption) (fun h => till_no (by kernel_rfl) h) ?_
  rotate_left
  · intro w hSw; (try dsimp only at hSw); go_simp; try with_reducible rfl
  try simp only [Act.put, List.setIfInBounds_toArray, List.set_cons_zero, List.set_cons_succ]
  refine till_take (i := 15) (v := ?_) rfl rfl (by kernel_rfl) (by kernel_rfl) (by kernel_rfl) rfl (fun _ _ _ h => h) (Or.inl ⟨by rfl, ?_⟩) (by assumption) (fun h => till_no (by kernel_rfl) h) ?_
  rotate_left
  · intro w hSw; (try dsimp only at hSw); go_simp; try with_reducible rfl
  try simp only [Act.put, List.setIfInBounds_toArray, List.set_cons_zero, List.set_cons_succ]
  refine till_take (i := 16) (v := ?_) rfl rfl (by kernel_rfl) (by kernel_rfl) (by kernel_rfl) rfl (fun _ _ _ h => h) (Or.inl ⟨by rfl, ?_⟩) (by assumption) (fun h => till_no (by kernel_rfl) h) ?_
  rotate_left
  · intro w hSw; (try dsimp only at hSw); go_simp; try with_reducible rfl
  try simp only [Act.put, List.setIfInBounds_toArray, List.set_cons_zero, List.set_cons_succ]
  refine till_take (i := 17) (v := ?_) rfl rfl (by kernel_rfl) (by kernel_rfl) (by kernel_rfl) rfl (fun _ _ _ h => h) (Or.inl ⟨by rfl, ?_⟩) (by assumption) (fun h => till_no (by kernel_rfl) h) ?_
  rotate_left
  · intro w hSw; (try dsimp only at hSw); go_simp; try with_reducible rfl
  try simp only [Act.put, List.setIfInBounds_toArray, List.set_cons_zero, List.set_cons_succ]
  refine till_take (i := 18) (v := ?_) rfl rfl (by kernel_rfl) (by kernel_rfl) (by kernel_rfl) rfl (fun _ _ _ h => h) (Or.inl ⟨by rfl, ?_⟩) (by assumption) (fun h => till_no (by kernel_rfl) h) ?_
  rotate_left
  · intro w hSw; (try dsimp only at hSw); go_simp; try with_reducible rfl
  try simp only [Act.put, List.setIfInBounds_toArray, List.set_cons_zero, List.set_cons_succ]
  refine till_step (i := 19) (by kernel_rfl) rfl (fun K hK => ?_)
  refine step_storeAt rfl rfl 28 _ _ rfl x 2 32 (sideC g (.pointer (some ⟨gs, 0, none⟩)) D X r c a cx) (devA r2 c2 D1) (sideC g (.pointer (some ⟨gs, 0, none⟩)) D1 X r2 c2 a cx) rfl rfl HX2.out (by kernel_rfl) (by show 2 + 4 ≤ 10; decide) (by kernel_rfl) rfl ?_
  refine hK.out _ _ (trivial) (fun h => till_no (by kernel_rfl) h) ?_
  clear hK K
  refine till_take (i := 20) (v := ?_) rfl rfl (by kernel_rfl) (by kernel_rfl) (by kernel_rfl) rfl (fun _ _ _ h => h) (Or.inl ⟨by rfl, ?_⟩) (by assumption) (fun h => till_no (by kernel_rfl) h) ?_
  rotate_left
  · intro w hSw; (try dsimp only at hSw); go_simp; try with_reducible rfl
  try simp only [Act.put, List.setIfInBounds_toArray, List.set_cons_zero, List.set_cons_succ]
  refine till_take (i := 21) (v := ?_) rfl rfl (by kernel_rfl) (by kernel_rfl) (by kernel_rfl) rfl (fun _ _ _ h => h) (Or.inl ⟨by rfl, ?_⟩) (by assumption) (fun h => till_no (by kernel_rfl) h) ?_
  rotate_left
  · intro w hSw; (try dsimp only at hSw); go_simp; try with_reducible rfl
  try simp only [Act.put, List.setIfInBounds_toArray, List.set_cons_zero, List.set_cons_succ]
  refine till_step (i := 22) (by kernel_rfl) rfl (fun K hK => ?_)
  refine step_storeAt rfl rfl 30 _ _ rfl x 6 32 (sideC g (.pointer (some ⟨gs, 0, none⟩)) D1 X r2 c2 a cx) #[.string X1.1, .slice a3 X1.2.1.length c3, .int .i64 X1.2.2.1, .string X1.2.2.2] (sideC g (.pointer (some ⟨gs, 0, none⟩)) D1 X1 r2 c2 a3 c3) rfl rfl (HX2.out.setRow _) (by kernel_rfl) (by show 6 + 4 ≤ 10; decide) (by kernel_rfl) rfl ?_
  refine hK.out _ _ (trivial) (fun h => till_no (by kernel_rfl) h) ?_
  clear hK K
  refine till_take (i := 23) (v := ?_) rfl rfl (by kernel_rfl) (by kernel_rfl) (by kernel_rfl) rfl (fun _ _ _ h => h) (Or.inl ⟨by rfl, ?_⟩) (by assumption) (fun h => till_no (by kernel_rfl) h) ?_
  rotate_left
  · intro w hSw; (try dsimp only at hSw); go_simp; try with_reducible rfl
  try simp only [Act.put, List.setIfInBounds_toArray, List.set_cons_zero, List.set_cons_succ]
  refine till_done (by kernel_rfl) (NoPanic.normal ?_) _
  obtain ⟨w3, hw3⟩ : ∃ w3, (w2.setRow x (sideC g (.pointer (some ⟨gs, 0, none⟩)) D1 X r2 c2 a cx)).setRow x (sideC g (.pointer (some ⟨gs, 0, none⟩)) D1 X1 r2 c2 a3 c3) = w3 := ⟨_, rfl⟩
  have hK3 : KeptS (fun k => k = x) w2 w3 := by rw [← hw3]; exact ((KeptS.refl (fun k => k = x) w2).setRow x rfl _).setRow x rfl _
  have HX3 : Hid (Blk w3 32 x (sideC g (.pointer (some ⟨gs, 0, none⟩)) D1 X1 r2 c2 a3 c3)) := by rw [← hw3]; exact (HX2.out.setRow _).setRow _
  have HN : Hid (x ≠ gs ∧ x ≠ g ∧ x ≠ b ∧ gs ≠ g ∧ gs ≠ b) := HD.out.s.ne
  have HD3 : Hid (DevAt w3 g b D1) := HD2.out.keptS hK3 (fun e => HN.out.2.1 e.symm) (fun e => HN.out.2.2.1 e.symm)
  have HC3 : Hid (z ≠ 170 → StC w3 (fun k => k = gs) gs g X1) := fun e => ⟨(HC2.out e).1.keptS hK3 (fun e => HN.out.1 e.symm), (HC2.out e).2⟩
  have HR3 : Hid (RowD w3 r2 c2 D1.1) := HR2.out.keptS hK3 (HR2.out.apartB (by rw [Hlen.out.2]; omega) HX2.out rfl (fun s e => by cases e))
  have HT3 : Hid (StrsAt w3 a3 X1.2.1.length X1.2.1) := strs_keptS HT2.out hK3 (fun q hq2 => .inr (fun e => by have h1 := HP2.out.2 q hq2; have h2 := HD.out.s.lt; omega))
  have HK3 : Hid (KeptS (Qua x gs g b) W w3) := HK2.out.trans (hK3.sub (fun _ e => .inl e))
  have HP3 : Hid (B ≤ w3.heap.size ∧ ∀ z, a3 = some z → B ≤ z.block) := ⟨Nat.le_trans HP2.out.1 hK3.size, HP2.out.2⟩
  rw [hw3]
  clear hw3 hK3 HX2 HD2 HC2 HR2 HT2 HK2 HP2
  by_cases hz : z = 170
  · have q9 : (z == 170) = true := by rw [hz]; rfl
    clear hz
    go_wp2_with fail
    refine (sd_opens x g b (.pointer (some ⟨gs, 0, none⟩)) D1 X1 r2 c2 a3 c3 w3 ⟨HX3.out, HD3.out, HR3.out⟩ (by rw [Hlen.out.2]; exact hn2) (by rw [Hlen.out.2]; exact hn9) (fun W' e => HG.out W' (HK3.out.trans (e.sub (fun k hk => tri_qua hk))))).mono ?_
    rintro e w4 ⟨rfl, k4, gs4, r4, c4, a4, cx4, B4, hs4, hg4⟩
    have HK4 : Hid (KeptS (Qua x gs g b) W w4) := HK3.out.trans (k4.sub (fun k hk => tri_qua hk))
    have HS4 : Hid (SdS w4 x gs4 g b (onB D1) (openP D1.1) r4 c4 a4 cx4 B4) := hs4
    have Hg4 : Hid (W.heap.size ≤ gs4) := Nat.le_trans HK3.out.size hg4
    have HM4 : Hid (StM n (openP D1.1)) := by
      have h9 := stM_open D1.1 (by rw [Hlen.out.2]; exact hn2) HD3.out.all
      rw [Hlen.out.2] at h9
      exact h9
    clear k4 hs4 hg4
    go_wp2_with fail
    go_ret
    exact ⟨rfl, HK4.out, gs4, onB D1, openP D1.1, r4, c4, a4, cx4, B4, ⟨HS4.out, rfl, ⟨HV.out.1.len, HV.out.1.n0, HV.out.1.n1, by show (-1 : Int) ≤ -1; omega, by show (-1 : Int) ≤ _; omega⟩, HM4.out⟩, .inr Hg4.out⟩
  · have q9 : (z == 170) = false := by rw [beq_eq_false_iff_ne]; exact hz
    have h1 := HD.out.s.lt
    have HS3 : Hid (SdS w3 x gs g b D1 X1 r2 c2 a3 c3 B) := ⟨HX3.out, HD3.out, HC3.out hz, HR3.out, HT3.out, HP3.out.2, h1.1, h1.2.1, h1.2.2.1, h1.2.2.2.1, HP3.out.1⟩
    have HO3 : Hid (D1.2.2.1 = false) := HV.out.2.2 hz
    clear hz h1
    go_wp2_with fail
    refine (sd_same x gs g b D1 X1 r2 c2 a3 c3 B w3 HS3.out HO3.out (by rw [Hlen.out.2]; omega) hX1l).mono ?_
    rintro e w4 ⟨rfl, hb4⟩
    have HS4 : Hid (SdS w4 x gs g b D1 X1 r2 c2 a3 c3 B) := HS3.out.on hb4
    have HK4 : Hid (KeptS (Qua x gs g b) W w4) := HK3.out.trans ((KeptS.ofBelow hb4).sub (fun _ e => e.elim))
    clear hb4
    go_wp2_with fail
    go_ret
    exact ⟨rfl, HK4.out, gs, D1, X1, r2, c2, a3, c3, B, ⟨HS4.out, HO3.out, HV.out.1, HV.out.2.1⟩, .inl rfl⟩

end Go.Proofs.YtaakmcihpdbilaaGreatDoor
