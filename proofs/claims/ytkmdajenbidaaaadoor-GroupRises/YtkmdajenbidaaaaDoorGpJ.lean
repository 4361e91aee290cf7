/- Layer 20, the code's: Judge. -/
import Derived.Test.YtkmdajenbidaaaaDoorGpP
import Derived.Test.YtkmdajenbidaaaaDoorWiE
namespace Go.Proofs.YtkmdajenbidaaaaDoor
open Go.RowKit
set_option maxRecDepth 100000
set_option linter.unusedSimpArgs false
set_option linter.unusedVariables false
set_option maxRecDepth 100000

theorem gCells {w W : World} {R : Array Value} {Ep Op : Int} {s : Value} (h : DoS w W #[.int .i64 Ep, s, .int .i64 Op] R) : W.cell? ⟨w.heap.size, 0, none⟩ = some (.int .i64 Ep) ∧ W.cell? ⟨w.heap.size, 1, none⟩ = some s ∧ W.cell? ⟨w.heap.size, 2, none⟩ = some (.int .i64 Op) := ⟨h.g.cell 0, h.g.cell 1, h.g.cell 2⟩

structure JgC (w V : World) (h b' c' : Nat) (Ep Op : Int) (l : List MemT) : Prop where
  gg : Blk V 26 h #[.int .i64 Ep, .slice (some ⟨b', 0, none⟩) 6 c', .int .i64 Op]
  mm : RowM V b' c' l
  nh : w.heap.size + 3 ≤ h
  nb : w.heap.size ≤ b'
  ne : h ≠ b'
theorem JgC.on {w V V' : World} {h b' c' : Nat} {Ep Op : Int} {l : List MemT} (k : JgC w V h b' c' Ep Op l) (hb : Below V.heap.size V V') : JgC w V' h b' c' Ep Op l := ⟨k.gg.on hb, k.mm.on hb, k.nh, k.nb, k.ne⟩
theorem RowM.neT {w : World} {t : TypeId} {h b c : Nat} {l : List MemT} {cs : Array Value} (k : RowM w b c l) (hg : Blk w t h cs) (ht : t ≠ 42) : h ≠ b := by
  rintro rfl
  obtain ⟨_, _, _, cur, hb, _, hc⟩ := k
  unfold Blk at hb hg
  rw [hb] at hg
  have := Option.some.inj hg
  injection this with _ e
  exact absurd e.symm ht
theorem RowM.ne {w : World} {h b c : Nat} {l : List MemT} {cs : Array Value} (k : RowM w b c l) (hg : Blk w 26 h cs) : h ≠ b := k.neT hg (by decide)
theorem DoS.setNew {w W : World} {G R : Array Value} (h : DoS w W G R) (g i : Nat) (hg : w.heap.size + 3 ≤ g) (u : Value) : DoS w (W.setCell ⟨g, i, none⟩ u) G R :=
  ⟨h.g.other ⟨g, i, none⟩ (by show w.heap.size ≠ g; omega) u, h.r.other ⟨g, i, none⟩ (by show w.heap.size + 1 ≠ g; omega) u, h.z.other ⟨g, i, none⟩ (by show w.heap.size + 1 + 1 ≠ g; omega) u, h.w.setCell (p := ⟨g, i, none⟩) (by show w.heap.size ≤ g; omega) u⟩


set_option maxHeartbeats 8000000 in
theorem judge20_any (M : OpT → Bool) (hM : ∀ o, M o = true ↔ MayO o) (G : GrpT) (a : Option Addr) (c : Nat) (epoch : Int) (R : RecT) (ar : Option Addr) (cr : Nat) (w : World) (hG : Glob8 w) (hR : RcIn w R ar) (hn : G.2.1.length ≤ 1048576) (hI : MmsAt w a G.2.1.length G.2.1) :
    Calls Tryd.prog 7 #[.agg (grpA G a c), .int .i64 epoch, .agg (recA R ar cr)] w fun e w' => JgPost w (judgeE M G epoch R) (judgeG G epoch R) e w' := by
  have CHR : ∀ W, Below w.heap.size w W → _ := fun W hW => checkR_any M hM R ar cr W (hG.below hW) hR.n hR.v (hR.l.below hW) hR.z hR.k hR.h
  have CHG : ∀ W, Below w.heap.size w W → _ := fun W hW => check20_any G a c W (mayGb G) (mayGb_iff G) hn (hI.below hW)
  obtain ⟨E, hE⟩ : ∃ E, judgeE M G epoch R = E := ⟨_, rfl⟩
  obtain ⟨Q, hQ⟩ : ∃ Q, judgeG G epoch R = Q := ⟨_, rfl⟩
  rw [hE, hQ]
  unfold judgeE at hE
  unfold judgeG at hQ
  have hpt := fun h => mayR_parts (M := M) (K := R.1) (F := R.2.1) (C := R.2.2.1) (S := R.2.2.2.1) (H := R.2.2.2.2.1) (o := R.2.2.2.2.2.1) (q := R.2.2.2.2.2.2.1) (l := R.2.2.2.2.2.2.2) h
  obtain ⟨X, hX⟩ : ∃ X : Bool, mayRb M R = X := ⟨_, rfl⟩
  obtain ⟨D, hD⟩ : ∃ D : Bool, mayGb G = D := ⟨_, rfl⟩
  have hMG := mayGb_iff G
  have hq23 : X = true → R.1 = 2 ∨ R.1 = 3 → 1 ≤ R.2.2.2.2.2.2.1 ∧ R.2.2.2.2.2.2.1 ≤ 6 := fun e h => by
    rw [← hX] at e
    obtain ⟨K, F, C, S, H, o, q, l⟩ := R
    unfold mayRb ownRb at e
    simp only [Bool.and_eq_true] at e
    have e2 := e.2
    have h' : K = 2 ∨ K = 3 := h
    rw [if_neg (by show ¬ K = 1; omega), if_pos h'] at e2
    simp only [Bool.and_eq_true, decide_eq_true_eq] at e2
    exact e2.1.2
  obtain ⟨Kd, F, C, S, H, ⟨k0, ⟨k1, k2⟩, ⟨k3, k4⟩, ⟨k5, k6⟩, s7, s8⟩, q, lw⟩ := R
  obtain ⟨Ep, l, Op⟩ := G
  rw [hX] at CHR
  rw [hX, hD] at hE
  rw [hD] at CHG hMG
  have hpt' : X = true → _ := fun e => hpt (by rw [← e]; exact hX)
  simp only [recA, grpA] at CHR CHG hI hn hE hQ hpt' ⊢
  obtain ⟨nr, hnr⟩ : ∃ nr, lw.length = nr := ⟨_, rfl⟩
  simp only [hnr] at CHR ⊢
  obtain ⟨n, hnn⟩ : ∃ n, l.length = n := ⟨_, rfl⟩
  simp only [hnn] at CHG hI hn ⊢
  have HHR : Hid (∀ W, Below w.heap.size w W → _) := CHR
  have HHG : Hid (∀ W, Below w.heap.size w W → _) := CHG
  have HE : Hid (_ = E) := hE
  have HQ : Hid (_ = Q) := hQ
  have HI : Hid (MmsAt w a n l) := hI
  have HPT : Hid (X = true → _) := hpt'
  have HMG : Hid (D = true ↔ MayG (Ep, l, Op)) := hMG
  have HQ23 : Hid (X = true → Kd = 2 ∨ Kd = 3 → 1 ≤ q ∧ q ≤ 6) := hq23
  clear CHR CHG hE hQ hI hpt hpt' hX hD hMG hq23 hR hG hM hnn hnr
  obtain ⟨w0, hw0⟩ : ∃ w0, ((w.alloc (.cells #[.int .i64 Ep, .slice a n c, .int .i64 Op] 26)).alloc (.cells #[.int .i64 Kd, .int .i64 F, .int .i64 C, .int .i64 S, .string H, .int .i64 k0, .int .i64 k1, .int .i64 k2, .int .i64 k3, .int .i64 k4, .int .i64 k5, .int .i64 k6, .string s7, .string s8, .int .i64 q, .slice ar nr cr] 35)).alloc (.cells #[.int .i64 0, .slice none 0 0, .int .i64 0] 26) = w0 := ⟨_, rfl⟩
  have n0 := below_new w (.cells #[.int .i64 Ep, .slice a n c, .int .i64 Op] 26)
  have n1 := below_new (w.alloc (.cells #[.int .i64 Ep, .slice a n c, .int .i64 Op] 26)) (.cells #[.int .i64 Kd, .int .i64 F, .int .i64 C, .int .i64 S, .string H, .int .i64 k0, .int .i64 k1, .int .i64 k2, .int .i64 k3, .int .i64 k4, .int .i64 k5, .int .i64 k6, .string s7, .string s8, .int .i64 q, .slice ar nr cr] 35)
  have n2 := below_new ((w.alloc (.cells #[.int .i64 Ep, .slice a n c, .int .i64 Op] 26)).alloc (.cells #[.int .i64 Kd, .int .i64 F, .int .i64 C, .int .i64 S, .string H, .int .i64 k0, .int .i64 k1, .int .i64 k2, .int .i64 k3, .int .i64 k4, .int .i64 k5, .int .i64 k6, .string s7, .string s8, .int .i64 q, .slice ar nr cr] 35)) (.cells #[.int .i64 0, .slice none 0 0, .int .i64 0] 26)
  have HS0 : Hid (DoS w w0 #[.int .i64 Ep, .slice a n c, .int .i64 Op] #[.int .i64 Kd, .int .i64 F, .int .i64 C, .int .i64 S, .string H, .int .i64 k0, .int .i64 k1, .int .i64 k2, .int .i64 k3, .int .i64 k4, .int .i64 k5, .int .i64 k6, .string s7, .string s8, .int .i64 q, .slice ar nr cr]) := by
    rw [← hw0]
    exact ⟨((Blk.new w _ _).on n1).on n2, (Blk.new' _ _ _ _ (by simp)).on n2, Blk.new' _ _ _ _ (by simp), below_step (below_step n0 (Nat.le_refl _) n1) (Nat.le_refl _) n2⟩
  have HW0 : Hid (((w.alloc (.cells #[.int .i64 Ep, .slice a n c, .int .i64 Op] 26)).alloc (.cells #[.int .i64 Kd, .int .i64 F, .int .i64 C, .int .i64 S, .string H, .int .i64 k0, .int .i64 k1, .int .i64 k2, .int .i64 k3, .int .i64 k4, .int .i64 k5, .int .i64 k6, .string s7, .string s8, .int .i64 q, .slice ar nr cr] 35)).alloc (.cells #[.int .i64 0, .slice none 0 0, .int .i64 0] 26) = w0) := hw0
  obtain ⟨g0, g1, g2⟩ := gCells HS0.out
  rw [← hw0] at g0 g1 g2
  clear hw0 n0 n1 n2
  go_enter Tryd.func7, Tryd.ntmps7
  go_wp2_with fail
  rw [HW0.out]
  clear HW0 g0 g1 g2
  refine (HHG.out w0 HS0.out.w).mono ?_
  rintro e w1 ⟨rfl, hb⟩
  have HS1 : Hid (DoS w w1 #[.int .i64 Ep, .slice a n c, .int .i64 Op] #[.int .i64 Kd, .int .i64 F, .int .i64 C, .int .i64 S, .string H, .int .i64 k0, .int .i64 k1, .int .i64 k2, .int .i64 k3, .int .i64 k4, .int .i64 k5, .int .i64 k6, .string s7, .string s8, .int .i64 q, .slice ar nr cr]) := HS0.out.on hb
  clear hb HS0 HHG
  cases D with
  | false =>
    obtain rfl : E = 1 := by rw [← HE.out]; exact if_pos rfl
    rw [if_neg (by decide)]
    have X1 := HS1.out.z
    have HBX : Hid (Below w.heap.size w (w1.setRow (w.heap.size + 1 + 1) #[.int .i64 0, .slice none 0 0, .int .i64 0])) := below_setRow HS1.out.w (by omega) _
    go_wp2_with (with_reducible refine wpList_storeBlk rfl 26 _ _ rfl (w.heap.size + 1 + 1) #[.int .i64 0, .slice none 0 0, .int .i64 0] #[.int .i64 0, .slice none 0 0, .int .i64 0] (by with_unfolding_all rfl) (by with_unfolding_all rfl) X1 rfl (by kernel_rfl) (by kernel_rfl) ?_)
    exact bodyPost_rowTmp2g rfl (w.heap.size + 1 + 1) #[.int .i64 0, .slice none 0 0, .int .i64 0] (.bool false) (.int .i64 1) rfl rfl rfl rfl (X1.setRow _) _ Tryd.underlying26 rfl (by kernel_rfl) ⟨.inl ⟨by decide, rfl⟩, HBX.out⟩
  | true =>
  rw [if_pos rfl]
  have HMY : Hid (MayG (Ep, l, Op)) := HMG.out.1 rfl
  clear HMG
  obtain rfl : n = 6 := by rw [← HI.out.1]; exact HMY.out.2.2.1
  obtain ⟨b, off, rfl⟩ : ∃ b off, a = some ⟨b, off, none⟩ := by
    rcases HI.out.2 with h | ⟨b, off, h, _⟩
    · omega
    · exact ⟨b, off, h⟩
  have r0 : w1.cell? ⟨w.heap.size + 1, 0, none⟩ = some (.int .i64 Kd) := HS1.out.r.cell 0
  have r1 : w1.cell? ⟨w.heap.size + 1, 1, none⟩ = some (.int .i64 F) := HS1.out.r.cell 1
  have r2 : w1.cell? ⟨w.heap.size + 1, 2, none⟩ = some (.int .i64 C) := HS1.out.r.cell 2
  have r3 : w1.cell? ⟨w.heap.size + 1, 3, none⟩ = some (.int .i64 S) := HS1.out.r.cell 3
  have r4 : w1.cell? ⟨w.heap.size + 1, 4, none⟩ = some (.string H) := HS1.out.r.cell 4
  have r5 : w1.cell? ⟨w.heap.size + 1, 5, none⟩ = some (.int .i64 k0) := HS1.out.r.cell 5
  have r6 : w1.cell? ⟨w.heap.size + 1, 6, none⟩ = some (.int .i64 k1) := HS1.out.r.cell 6
  have r7 : w1.cell? ⟨w.heap.size + 1, 7, none⟩ = some (.int .i64 k2) := HS1.out.r.cell 7
  have r8 : w1.cell? ⟨w.heap.size + 1, 8, none⟩ = some (.int .i64 k3) := HS1.out.r.cell 8
  have r9 : w1.cell? ⟨w.heap.size + 1, 9, none⟩ = some (.int .i64 k4) := HS1.out.r.cell 9
  have r10 : w1.cell? ⟨w.heap.size + 1, 10, none⟩ = some (.int .i64 k5) := HS1.out.r.cell 10
  have r11 : w1.cell? ⟨w.heap.size + 1, 11, none⟩ = some (.int .i64 k6) := HS1.out.r.cell 11
  have r12 : w1.cell? ⟨w.heap.size + 1, 12, none⟩ = some (.string s7) := HS1.out.r.cell 12
  have r13 : w1.cell? ⟨w.heap.size + 1, 13, none⟩ = some (.string s8) := HS1.out.r.cell 13
  have r14 : w1.cell? ⟨w.heap.size + 1, 14, none⟩ = some (.int .i64 q) := HS1.out.r.cell 14
  have r15 : w1.cell? ⟨w.heap.size + 1, 15, none⟩ = some (.slice ar nr cr) := HS1.out.r.cell 15
  go_wp2_with fail
  clear r0 r1 r2 r3 r4 r5 r6 r7 r8 r9 r10 r11 r12 r13 r14 r15
  refine (HHR.out w1 HS1.out.w).mono ?_
  rintro e w2 ⟨rfl, hb⟩
  have HS2 : Hid (DoS w w2 #[.int .i64 Ep, .slice (some ⟨b, off, none⟩) 6 c, .int .i64 Op] #[.int .i64 Kd, .int .i64 F, .int .i64 C, .int .i64 S, .string H, .int .i64 k0, .int .i64 k1, .int .i64 k2, .int .i64 k3, .int .i64 k4, .int .i64 k5, .int .i64 k6, .string s7, .string s8, .int .i64 q, .slice ar nr cr]) := HS1.out.on hb
  clear hb HS1 HHR
  cases X with
  | false =>
    obtain rfl : E = 1 := by rw [← HE.out]; exact if_pos rfl
    rw [if_neg (by decide)]
    have X1 := HS2.out.z
    have HBX : Hid (Below w.heap.size w (w2.setRow (w.heap.size + 1 + 1) #[.int .i64 0, .slice none 0 0, .int .i64 0])) := below_setRow HS2.out.w (by omega) _
    go_wp2_with (with_reducible refine wpList_storeBlk rfl 26 _ _ rfl (w.heap.size + 1 + 1) #[.int .i64 0, .slice none 0 0, .int .i64 0] #[.int .i64 0, .slice none 0 0, .int .i64 0] (by with_unfolding_all rfl) (by with_unfolding_all rfl) X1 rfl (by kernel_rfl) (by kernel_rfl) ?_)
    exact bodyPost_rowTmp2g rfl (w.heap.size + 1 + 1) #[.int .i64 0, .slice none 0 0, .int .i64 0] (.bool false) (.int .i64 1) rfl rfl rfl rfl (X1.setRow _) _ Tryd.underlying26 rfl (by kernel_rfl) ⟨.inl ⟨by decide, rfl⟩, HBX.out⟩
  | true =>
  rw [if_pos rfl]
  have HP := HPT.out rfl
  have HPY : Hid _ := HP
  have HQ6 : Hid (Kd = 2 ∨ Kd = 3 → 1 ≤ q ∧ q ≤ 6) := HQ23.out rfl
  clear HP HPT HQ23
  obtain ⟨k, hk, hk6⟩ : ∃ k : Nat, F = (k : Int) + 1 ∧ k < 6 := ⟨(F - 1).toNat, by have := HPY.out.1.1; omega, by have := HPY.out.1.1; omega⟩
  obtain ⟨y, hy⟩ : ∃ y, (mmL l k).2.1 = y := ⟨_, rfl⟩
  obtain ⟨Y, hY⟩ : ∃ Y, decide (C = y + 1) = Y := ⟨_, rfl⟩
  have hyb := HMY.out.2.2.2 k hk6
  have hy0 : 0 ≤ y ∧ y ≤ 1099511627775 := by
    rw [← hy]; exact ⟨hyb.2.1, hyb.2.2.1⟩
  have hkk : (F - 1).toNat = k := by omega
  have CN : Hid (∀ W, Below w.heap.size w W → Calls Tryd.prog 17 #[.agg #[.int .i64 Ep, .slice (some ⟨b, off, none⟩) 6 c, .int .i64 Op], .agg #[.int .i64 Kd, .int .i64 F, .int .i64 C, .int .i64 S, .string H, .int .i64 k0, .int .i64 k1, .int .i64 k2, .int .i64 k3, .int .i64 k4, .int .i64 k5, .int .i64 k6, .string s7, .string s8, .int .i64 q, .slice ar nr cr]] W fun e w' => e = .returned (.bool Y) ∧ Below W.heap.size W w') := fun W hW => isNext20_any Ep Op Kd F C S H k0 k1 k2 k3 k4 k5 k6 s7 s8 q ar nr cr l b off c k W Y hk6 hk HMY.out.2.2 (HI.out.below hW) (by rw [hy]; exact hY)
  have HEY : Hid ((if (true && (true && Y)) = false then (1 : Int) else if epoch < 1 ∨ epoch < Ep - 1 ∨ Ep < epoch then 201 else 0) = E) := by
    have h := HE.out
    rw [hkk, hy, hY] at h
    exact h
  have HK : Hid (F = (k : Int) + 1) := hk
  have HK6 : Hid (k < 6) := hk6
  have HY : Hid ((mmL l k).2.1 = y) := hy
  have HKK : Hid ((F - 1).toNat = k) := hkk
  clear HE hk hy hY hkk hyb
  have r0 : w2.cell? ⟨w.heap.size + 1, 0, none⟩ = some (.int .i64 Kd) := HS2.out.r.cell 0
  have r1 : w2.cell? ⟨w.heap.size + 1, 1, none⟩ = some (.int .i64 F) := HS2.out.r.cell 1
  have r2 : w2.cell? ⟨w.heap.size + 1, 2, none⟩ = some (.int .i64 C) := HS2.out.r.cell 2
  have r3 : w2.cell? ⟨w.heap.size + 1, 3, none⟩ = some (.int .i64 S) := HS2.out.r.cell 3
  have r4 : w2.cell? ⟨w.heap.size + 1, 4, none⟩ = some (.string H) := HS2.out.r.cell 4
  have r5 : w2.cell? ⟨w.heap.size + 1, 5, none⟩ = some (.int .i64 k0) := HS2.out.r.cell 5
  have r6 : w2.cell? ⟨w.heap.size + 1, 6, none⟩ = some (.int .i64 k1) := HS2.out.r.cell 6
  have r7 : w2.cell? ⟨w.heap.size + 1, 7, none⟩ = some (.int .i64 k2) := HS2.out.r.cell 7
  have r8 : w2.cell? ⟨w.heap.size + 1, 8, none⟩ = some (.int .i64 k3) := HS2.out.r.cell 8
  have r9 : w2.cell? ⟨w.heap.size + 1, 9, none⟩ = some (.int .i64 k4) := HS2.out.r.cell 9
  have r10 : w2.cell? ⟨w.heap.size + 1, 10, none⟩ = some (.int .i64 k5) := HS2.out.r.cell 10
  have r11 : w2.cell? ⟨w.heap.size + 1, 11, none⟩ = some (.int .i64 k6) := HS2.out.r.cell 11
  have r12 : w2.cell? ⟨w.heap.size + 1, 12, none⟩ = some (.string s7) := HS2.out.r.cell 12
  have r13 : w2.cell? ⟨w.heap.size + 1, 13, none⟩ = some (.string s8) := HS2.out.r.cell 13
  have r14 : w2.cell? ⟨w.heap.size + 1, 14, none⟩ = some (.int .i64 q) := HS2.out.r.cell 14
  have r15 : w2.cell? ⟨w.heap.size + 1, 15, none⟩ = some (.slice ar nr cr) := HS2.out.r.cell 15
  obtain ⟨g0, g1, g2⟩ := gCells HS2.out
  go_wp2_with fail
  clear r0 r1 r2 r3 r4 r5 r6 r7 r8 r9 r10 r11 r12 r13 r14 r15 g0 g1 g2
  as_aux_lemma =>
  refine (CN.out w2 HS2.out.w).mono ?_
  rintro e w3 ⟨rfl, hb⟩
  have HS3 : Hid (DoS w w3 #[.int .i64 Ep, .slice (some ⟨b, off, none⟩) 6 c, .int .i64 Op] #[.int .i64 Kd, .int .i64 F, .int .i64 C, .int .i64 S, .string H, .int .i64 k0, .int .i64 k1, .int .i64 k2, .int .i64 k3, .int .i64 k4, .int .i64 k5, .int .i64 k6, .string s7, .string s8, .int .i64 q, .slice ar nr cr]) := HS2.out.on hb
  clear hb HS2 CN
  cases Y with
  | false =>
    obtain rfl : E = 1 := by rw [← HEY.out]; exact if_pos rfl
    have X1 := HS3.out.z
    have HBX : Hid (Below w.heap.size w (w3.setRow (w.heap.size + 1 + 1) #[.int .i64 0, .slice none 0 0, .int .i64 0])) := below_setRow HS3.out.w (by omega) _
    go_wp2_with (with_reducible refine wpList_storeBlk rfl 26 _ _ rfl (w.heap.size + 1 + 1) #[.int .i64 0, .slice none 0 0, .int .i64 0] #[.int .i64 0, .slice none 0 0, .int .i64 0] (by with_unfolding_all rfl) (by with_unfolding_all rfl) X1 rfl (by kernel_rfl) (by kernel_rfl) ?_)
    exact bodyPost_rowTmp2g rfl (w.heap.size + 1 + 1) #[.int .i64 0, .slice none 0 0, .int .i64 0] (.bool false) (.int .i64 1) rfl rfl rfl rfl (X1.setRow _) _ Tryd.underlying26 rfl (by kernel_rfl) ⟨.inl ⟨by decide, rfl⟩, HBX.out⟩
  | true =>
  obtain ⟨g0, g1, g2⟩ := gCells HS3.out
  have hEE : (if epoch < 1 ∨ epoch < Ep - 1 ∨ Ep < epoch then (201 : Int) else 0) = E := HEY.out
  have hEb : 1 ≤ Ep ∧ Ep ≤ 1099511627775 := HMY.out.1
  have e1 : IntKind.i64.wrap (Ep - 1) = Ep - 1 := by rw [IntKind.wrap_i64]; omega
  by_cases h1 : epoch < 1
  · obtain rfl : E = 201 := by rw [← hEE]; exact if_pos (.inl h1)
    have X1 := HS3.out.z
    have HBX : Hid (Below w.heap.size w (w3.setRow (w.heap.size + 1 + 1) #[.int .i64 0, .slice none 0 0, .int .i64 0])) := below_setRow HS3.out.w (by omega) _
    go_wp2_with (with_reducible refine wpList_storeBlk rfl 26 _ _ rfl (w.heap.size + 1 + 1) #[.int .i64 0, .slice none 0 0, .int .i64 0] #[.int .i64 0, .slice none 0 0, .int .i64 0] (by with_unfolding_all rfl) (by with_unfolding_all rfl) X1 rfl (by kernel_rfl) (by kernel_rfl) ?_)
    exact bodyPost_rowTmp2g rfl (w.heap.size + 1 + 1) #[.int .i64 0, .slice none 0 0, .int .i64 0] (.bool false) (.int .i64 201) rfl rfl rfl rfl (X1.setRow _) _ Tryd.underlying26 rfl (by kernel_rfl) ⟨.inl ⟨by decide, rfl⟩, HBX.out⟩
  by_cases h2 : epoch < Ep - 1
  · obtain rfl : E = 201 := by rw [← hEE]; exact if_pos (.inr (.inl h2))
    have X1 := HS3.out.z
    have HBX : Hid (Below w.heap.size w (w3.setRow (w.heap.size + 1 + 1) #[.int .i64 0, .slice none 0 0, .int .i64 0])) := below_setRow HS3.out.w (by omega) _
    go_wp2_with (with_reducible refine wpList_storeBlk rfl 26 _ _ rfl (w.heap.size + 1 + 1) #[.int .i64 0, .slice none 0 0, .int .i64 0] #[.int .i64 0, .slice none 0 0, .int .i64 0] (by with_unfolding_all rfl) (by with_unfolding_all rfl) X1 rfl (by kernel_rfl) (by kernel_rfl) ?_)
    exact bodyPost_rowTmp2g rfl (w.heap.size + 1 + 1) #[.int .i64 0, .slice none 0 0, .int .i64 0] (.bool false) (.int .i64 201) rfl rfl rfl rfl (X1.setRow _) _ Tryd.underlying26 rfl (by kernel_rfl) ⟨.inl ⟨by decide, rfl⟩, HBX.out⟩
  by_cases h3 : Ep < epoch
  · obtain rfl : E = 201 := by rw [← hEE]; exact if_pos (.inr (.inr h3))
    have X1 := HS3.out.z
    have HBX : Hid (Below w.heap.size w (w3.setRow (w.heap.size + 1 + 1) #[.int .i64 0, .slice none 0 0, .int .i64 0])) := below_setRow HS3.out.w (by omega) _
    go_wp2_with (with_reducible refine wpList_storeBlk rfl 26 _ _ rfl (w.heap.size + 1 + 1) #[.int .i64 0, .slice none 0 0, .int .i64 0] #[.int .i64 0, .slice none 0 0, .int .i64 0] (by with_unfolding_all rfl) (by with_unfolding_all rfl) X1 rfl (by kernel_rfl) (by kernel_rfl) ?_)
    exact bodyPost_rowTmp2g rfl (w.heap.size + 1 + 1) #[.int .i64 0, .slice none 0 0, .int .i64 0] (.bool false) (.int .i64 201) rfl rfl rfl rfl (X1.setRow _) _ Tryd.underlying26 rfl (by kernel_rfl) ⟨.inl ⟨by decide, rfl⟩, HBX.out⟩
  obtain rfl : E = 0 := by rw [← hEE]; exact if_neg (by omega)
  obtain ⟨X2, hX2⟩ : ∃ X2, (doesP (Ep, l, Op) epoch Kd F q).2 = X2 := ⟨_, rfl⟩
  have HX2 : Hid ((doesP (Ep, l, Op) epoch Kd F q).2 = X2) := hX2
  have HJG : Hid (Q = if X2 = true then (gdoP (Ep, nextM l k, Op) Kd q, true) else ((Ep, nextM l k, Op), false)) := by
    show Q = _
    rw [← HQ.out, ← hX2, HKK.out]
  have HEO : Hid ((0 ≤ Ep ∧ Ep ≤ 1099511627775) ∧ (0 ≤ Op ∧ Op ≤ 500)) := ⟨⟨by omega, hEb.2⟩, HMY.out.2.1⟩
  have HKK : Hid ((1 ≤ Kd ∧ Kd ≤ 4) ∧ (Kd = 2 ∨ Kd = 3 → 1 ≤ q ∧ q ≤ 6)) := ⟨by have := HPY.out.2; omega, HQ6.out⟩
  have HLN : Hid (l.length = 6) := HI.out.1
  have HWN : Hid (∀ i, i < 6 → (mmL (nextM l k) i).1 = (i : Int) + 1) := fun i hi => by
    unfold nextM
    rw [mmL_set l k i _ (by rw [HLN.out]; exact HK6.out)]
    by_cases e : i = k
    · rw [if_pos e, e]; exact (HMY.out.2.2.2 k HK6.out).1
    · rw [if_neg e]; exact (HMY.out.2.2.2 i hi).1
  have CB : Hid (∀ W b' c', RowM W b' c' l → Calls Tryd.prog 9 #[.slice (some ⟨b', 0, none⟩) 6 c', .int .i64 F] W fun e w' => e = .returned (.pointer (some ⟨b', k * 3, none⟩)) ∧ Below W.heap.size W w') := fun W b' c' hW => byWhoR_any l b' c' k F W hW HK6.out (fun i hi => (HMY.out.2.2.2 i hi).1) HK.out
  have CC : Hid (∀ W, Below w.heap.size w W → Calls Tryd.prog 19 #[.agg #[.int .i64 Ep, .slice (some ⟨b, off, none⟩) 6 c, .int .i64 Op], .int .i64 epoch, .agg #[.int .i64 Kd, .int .i64 F, .int .i64 C, .int .i64 S, .string H, .int .i64 k0, .int .i64 k1, .int .i64 k2, .int .i64 k3, .int .i64 k4, .int .i64 k5, .int .i64 k6, .string s7, .string s8, .int .i64 q, .slice ar nr cr]] W fun e w' => e = .returned (.bool ((doesP (Ep, l, Op) epoch Kd F q).2)) ∧ Below W.heap.size W w') := fun W hW => counts20_any Ep Op epoch Kd F C S H k0 k1 k2 k3 k4 k5 k6 s7 s8 q ar nr cr l b off c W _ rfl HLN.out hEb.2 HKK.out.1 (HI.out.below hW)
  have e2 : IntKind.i64.wrap (y + 1) = y + 1 := by rw [IntKind.wrap_i64]; omega
  have CL : Hid (∀ W, Below w.heap.size w W → Calls Tryd.prog 18 #[.slice (some ⟨b, off, none⟩) 6 c] W fun e w' => ∃ b' c', e = .returned (.slice (some ⟨b', 0, none⟩) 6 c') ∧ W.heap.size ≤ b' ∧ RowM w' b' c' l ∧ Below W.heap.size W w') := fun W hW => cloneM_any l b off c W HLN.out (HI.out.below hW)
  clear hX2 hEE HQ HEY HPY HQ6
  go_wp2_with fail
  as_aux_lemma =>
  have HSD : Hid (DoS w w3.drew #[.int .i64 Ep, .slice (some ⟨b, off, none⟩) 6 c, .int .i64 Op] #[.int .i64 Kd, .int .i64 F, .int .i64 C, .int .i64 S, .string H, .int .i64 k0, .int .i64 k1, .int .i64 k2, .int .i64 k3, .int .i64 k4, .int .i64 k5, .int .i64 k6, .string s7, .string s8, .int .i64 q, .slice ar nr cr]) := HS3.out.on (Below.refl _ _).drew
  have hS0 : w3.drew.cell? ⟨w.heap.size, 0, none⟩ = some (.int .i64 Ep) ∧ w3.drew.cell? ⟨w.heap.size, 1, none⟩ = some (.slice (some ⟨b, off, none⟩) 6 c) ∧ w3.drew.cell? ⟨w.heap.size, 2, none⟩ = some (.int .i64 Op) := gCells HSD.out
  clear g0 g1 g2
  refine wp_region_noPanic ?_
  refine wp_region_held_drew (S := fun w' => w'.cell? ⟨w.heap.size, 0, none⟩ = some (.int .i64 Ep) ∧ w'.cell? ⟨w.heap.size, 1, none⟩ = some (.slice (some ⟨b, off, none⟩) 6 c) ∧ w'.cell? ⟨w.heap.size, 2, none⟩ = some (.int .i64 Op)) (by kernel_rfl) (by first | exact trivial | assumption | exact ⟨by assumption, by assumption⟩) (fun hHeld => ?_)
  refine take_at (i := 0) (v := ?_) rfl rfl (by kernel_rfl) (by kernel_rfl) (by kernel_rfl) (fun _ _ _ h => h) (Or.inl ⟨by rfl, ?_⟩) (by assumption) ?_
  rotate_left
  · intro w hSw; (try dsimp only at hSw); go_simp; try with_reducible rfl
  try simp only [Act.put, List.setIfInBounds_toArray, List.set_cons_zero, List.set_cons_succ]
  refine take_at (i := 1) (v := ?_) rfl rfl (by kernel_rfl) (by kernel_rfl) (by kernel_rfl) (fun _ _ _ h => h) (Or.inl ⟨by rfl, ?_⟩) (by assumption) ?_
  rotate_left
  · intro w hSw; (try dsimp only at hSw); go_simp; try with_reducible rfl
  try simp only [Act.put, List.setIfInBounds_toArray, List.set_cons_zero, List.set_cons_succ]
  refine take_at (i := 2) (v := ?_) rfl rfl (by kernel_rfl) (by kernel_rfl) (by kernel_rfl) (fun _ _ _ h => h) (Or.inl ⟨by rfl, ?_⟩) (by assumption) ?_
  rotate_left
  · intro w hSw; (try dsimp only at hSw); go_simp; try with_reducible rfl
  try simp only [Act.put, List.setIfInBounds_toArray, List.set_cons_zero, List.set_cons_succ]
  refine take_at (i := 3) (v := ?_) rfl rfl (by kernel_rfl) (by kernel_rfl) (by kernel_rfl) (fun _ _ _ h => h) (Or.inl ⟨by rfl, ?_⟩) (by assumption) ?_
  rotate_left
  · intro w hSw; (try dsimp only at hSw); go_simp; try with_reducible rfl
  try simp only [Act.put, List.setIfInBounds_toArray, List.set_cons_zero, List.set_cons_succ]
  refine take_at (i := 5) (v := ?_) rfl rfl (by kernel_rfl) (by kernel_rfl) (by kernel_rfl) (fun _ _ _ h => h) (Or.inl ⟨by rfl, ?_⟩) (by assumption) ?_
  rotate_left
  · intro w hSw; (try dsimp only at hSw); go_simp; try with_reducible rfl
  try simp only [Act.put, List.setIfInBounds_toArray, List.set_cons_zero, List.set_cons_succ]
  refine take_at (i := 6) (v := ?_) rfl rfl (by kernel_rfl) (by kernel_rfl) (by kernel_rfl) (fun _ _ _ h => h) (Or.inl ⟨by rfl, ?_⟩) (by assumption) ?_
  rotate_left
  · intro w hSw; (try dsimp only at hSw); go_simp; try with_reducible rfl
  try simp only [Act.put, List.setIfInBounds_toArray, List.set_cons_zero, List.set_cons_succ]
  clear hS0
  have HLT : Hid (w.heap.size + 3 ≤ w3.heap.size) := HS3.out.z.lt
  clear HS3
  refine wpAnyH_ready (rs := [4, 8]) (by kernel_rfl) (by simp) ?_
  refine AllReadyH.cons rfl (fun K hK => ?_) (AllReadyH.cons rfl (fun K hK => ?_) AllReadyH.nil)
  · go_simp
    refine (CL.out w3.drew HSD.out.w).mono ?_
    rintro e v1 ⟨b', c', rfl, hb', hm, hb⟩
    have HS5 : Hid (DoS w v1 #[.int .i64 Ep, .slice (some ⟨b, off, none⟩) 6 c, .int .i64 Op] #[.int .i64 Kd, .int .i64 F, .int .i64 C, .int .i64 S, .string H, .int .i64 k0, .int .i64 k1, .int .i64 k2, .int .i64 k3, .int .i64 k4, .int .i64 k5, .int .i64 k6, .string s7, .string s8, .int .i64 q, .slice ar nr cr]) := HSD.out.on hb
    have HM5 : Hid (w.heap.size ≤ b' ∧ RowM v1 b' c' l) := ⟨Nat.le_trans HSD.out.w.size hb', hm⟩
    clear hb hb' hm HSD CL
    refine hK.out _ _ (gCells HS5.out) (fun hHeld => ?_)
    clear hK K
    refine take_at (i := 7) (v := ?_) rfl rfl (by kernel_rfl) (by kernel_rfl) (by kernel_rfl) (fun _ _ _ h => h) (Or.inl ⟨by rfl, ?_⟩) (by assumption) ?_
    rotate_left
    · intro w hSw; (try dsimp only at hSw); go_simp; try with_reducible rfl
    try simp only [Act.put, List.setIfInBounds_toArray, List.set_cons_zero, List.set_cons_succ]
    refine wpAnyH_ready (rs := [8]) (by kernel_rfl) (by simp) ?_
    refine AllReadyH.cons rfl (fun K hK => ?_) AllReadyH.nil
    go_simp
    refine hK.out _ _ (gCells (HS5.out.on (below_new _ _))) (fun hHeld => ?_)
    clear hK K
    refine wpAnyH_ready (rs := [9]) (by kernel_rfl) (by simp) ?_
    refine AllReadyH.cons rfl (fun K hK => ?_) AllReadyH.nil
    go_simp
    refine hK.out _ _ (gCells (HS5.out.on (below_new _ _))) (fun hHeld => ?_)
    clear hK K
    refine wpAnyH_done (by kernel_rfl) (NoPanic.normal ?_) _
    obtain ⟨h, hh⟩ : ∃ h, h = v1.heap.size := ⟨_, rfl⟩
    obtain ⟨V1, hV1⟩ : ∃ V1, V1 = v1.alloc (.cells #[.int .i64 Ep, .slice (some ⟨b', 0, none⟩) 6 c', .int .i64 Op] 26) := ⟨_, rfl⟩
    have HS6 : Hid (DoS w V1 #[.int .i64 Ep, .slice (some ⟨b, off, none⟩) 6 c, .int .i64 Op] #[.int .i64 Kd, .int .i64 F, .int .i64 C, .int .i64 S, .string H, .int .i64 k0, .int .i64 k1, .int .i64 k2, .int .i64 k3, .int .i64 k4, .int .i64 k5, .int .i64 k6, .string s7, .string s8, .int .i64 q, .slice ar nr cr]) := by show DoS _ _ _ _; rw [hV1]; exact HS5.out.on (below_new _ _)
    have HJ : Hid (JgC w V1 h b' c' Ep Op l) := by
      have q1 := HS5.out.z.lt
      have q2 : Blk V1 26 h #[.int .i64 Ep, .slice (some ⟨b', 0, none⟩) 6 c', .int .i64 Op] := by rw [hV1]; exact Blk.new' _ _ _ _ hh.symm
      have q3 : RowM V1 b' c' l := by rw [hV1]; exact HM5.out.2.on (below_new _ _)
      exact ⟨q2, q3, by omega, HM5.out.1, q3.ne q2⟩
    rw [← hV1, ← hh]
    clear hV1 hh HS5 HM5
    as_aux_lemma =>
    obtain ⟨g0, g1, g2⟩ := gCells HS6.out
    have j1 : V1.cell? ⟨h, 1, none⟩ = some (.slice (some ⟨b', 0, none⟩) 6 c') := HJ.out.gg.cell 1
    have r1 : V1.cell? ⟨w.heap.size + 1, 1, none⟩ = some (.int .i64 F) := HS6.out.r.cell 1
    clear g0 g1 g2
    go_wp2_with fail
    refine (CB.out V1 b' c' HJ.out.mm).mono ?_
    rintro e V2 ⟨rfl, hb⟩
    have HS7 : Hid (DoS w V2 #[.int .i64 Ep, .slice (some ⟨b, off, none⟩) 6 c, .int .i64 Op] #[.int .i64 Kd, .int .i64 F, .int .i64 C, .int .i64 S, .string H, .int .i64 k0, .int .i64 k1, .int .i64 k2, .int .i64 k3, .int .i64 k4, .int .i64 k5, .int .i64 k6, .string s7, .string s8, .int .i64 q, .slice ar nr cr]) := HS6.out.on hb
    have HJ7 : Hid (JgC w V2 h b' c' Ep Op l) := HJ.out.on hb
    clear hb HS6 HJ j1 r1
    have y1 : V2.cell? ⟨b', k * 3 + 1, none⟩ = some (.int .i64 y) := by
      obtain ⟨_, _, _, cur, hb, _, hc⟩ := HJ7.out.mm
      rw [hb.cell, ← HY.out]; exact (hc k HK6.out).2.1
    have y2 : V2.frozen? ⟨b', k * 3 + 1, none⟩ = false := HJ7.out.mm.free _
    obtain ⟨V3, hV3⟩ : ∃ V3, V2.setCell ⟨b', k * 3 + 1, none⟩ (.int .i64 (y + 1)) = V3 := ⟨_, rfl⟩
    have HJ8 : Hid (JgC w V3 h b' c' Ep Op (nextM l k)) := by
      rw [← hV3]
      refine ⟨HJ7.out.gg.other ⟨b', k * 3 + 1, none⟩ HJ7.out.ne _, ?_, HJ7.out.nh, HJ7.out.nb, HJ7.out.ne⟩
      unfold nextM
      rw [← HY.out]; exact HJ7.out.mm.setN k HK6.out _
    have HS8 : Hid (DoS w V3 #[.int .i64 Ep, .slice (some ⟨b, off, none⟩) 6 c, .int .i64 Op] #[.int .i64 Kd, .int .i64 F, .int .i64 C, .int .i64 S, .string H, .int .i64 k0, .int .i64 k1, .int .i64 k2, .int .i64 k3, .int .i64 k4, .int .i64 k5, .int .i64 k6, .string s7, .string s8, .int .i64 q, .slice ar nr cr]) := by
      rw [← hV3]
      have nb := HJ7.out.mm
      have k7 := HS7.out
      have n1 := HJ7.out.mm.ne k7.g
      have n3 := HJ7.out.mm.ne k7.z
      exact ⟨k7.g.other _ n1 _, k7.r.other _ (HJ7.out.mm.neT k7.r (by decide)) _, k7.z.other _ n3 _, k7.w.setCell (p := ⟨b', k * 3 + 1, none⟩) HJ7.out.nb _⟩
    obtain ⟨g0, g1, g2⟩ := gCells HS8.out
    have r0 : V3.cell? ⟨w.heap.size + 1, 0, none⟩ = some (.int .i64 Kd) := HS8.out.r.cell 0
    have r1 : V3.cell? ⟨w.heap.size + 1, 1, none⟩ = some (.int .i64 F) := HS8.out.r.cell 1
    have r2 : V3.cell? ⟨w.heap.size + 1, 2, none⟩ = some (.int .i64 C) := HS8.out.r.cell 2
    have r3 : V3.cell? ⟨w.heap.size + 1, 3, none⟩ = some (.int .i64 S) := HS8.out.r.cell 3
    have r4 : V3.cell? ⟨w.heap.size + 1, 4, none⟩ = some (.string H) := HS8.out.r.cell 4
    have r5 : V3.cell? ⟨w.heap.size + 1, 5, none⟩ = some (.int .i64 k0) := HS8.out.r.cell 5
    have r6 : V3.cell? ⟨w.heap.size + 1, 6, none⟩ = some (.int .i64 k1) := HS8.out.r.cell 6
    have r7 : V3.cell? ⟨w.heap.size + 1, 7, none⟩ = some (.int .i64 k2) := HS8.out.r.cell 7
    have r8 : V3.cell? ⟨w.heap.size + 1, 8, none⟩ = some (.int .i64 k3) := HS8.out.r.cell 8
    have r9 : V3.cell? ⟨w.heap.size + 1, 9, none⟩ = some (.int .i64 k4) := HS8.out.r.cell 9
    have r10 : V3.cell? ⟨w.heap.size + 1, 10, none⟩ = some (.int .i64 k5) := HS8.out.r.cell 10
    have r11 : V3.cell? ⟨w.heap.size + 1, 11, none⟩ = some (.int .i64 k6) := HS8.out.r.cell 11
    have r12 : V3.cell? ⟨w.heap.size + 1, 12, none⟩ = some (.string s7) := HS8.out.r.cell 12
    have r13 : V3.cell? ⟨w.heap.size + 1, 13, none⟩ = some (.string s8) := HS8.out.r.cell 13
    have r14 : V3.cell? ⟨w.heap.size + 1, 14, none⟩ = some (.int .i64 q) := HS8.out.r.cell 14
    have r15 : V3.cell? ⟨w.heap.size + 1, 15, none⟩ = some (.slice ar nr cr) := HS8.out.r.cell 15
    have HV3 : Hid (V2.setCell ⟨b', k * 3 + 1, none⟩ (.int .i64 (y + 1)) = V3) := hV3
    rw [← hV3] at g0 g1 g2 r0 r1 r2 r3 r4 r5 r6 r7 r8 r9 r10 r11 r12 r13 r14 r15
    clear HS7 HJ7 hV3
    go_wp2_with fail
    rw [HV3.out]
    clear y1 y2 g0 g1 g2 r0 r1 r2 r3 r4 r5 r6 r7 r8 r9 r10 r11 r12 r13 r14 r15 HV3
    as_aux_lemma =>
    refine (CC.out V3 HS8.out.w).mono ?_
    rintro e V4 ⟨rfl, hb⟩
    have HS9 : Hid (DoS w V4 #[.int .i64 Ep, .slice (some ⟨b, off, none⟩) 6 c, .int .i64 Op] #[.int .i64 Kd, .int .i64 F, .int .i64 C, .int .i64 S, .string H, .int .i64 k0, .int .i64 k1, .int .i64 k2, .int .i64 k3, .int .i64 k4, .int .i64 k5, .int .i64 k6, .string s7, .string s8, .int .i64 q, .slice ar nr cr]) := HS8.out.on hb
    have HJ9 : Hid (JgC w V4 h b' c' Ep Op (nextM l k)) := HJ8.out.on hb
    clear hb HS8 HJ8
    rw [HX2.out]
    cases X2 with
    | false =>
      obtain rfl : Q = ((Ep, nextM l k, Op), false) := HJG.out
      have j0 : V4.cell? ⟨h, 0, none⟩ = some (.int .i64 Ep) := HJ9.out.gg.cell 0
      have j1 : V4.cell? ⟨h, 1, none⟩ = some (.slice (some ⟨b', 0, none⟩) 6 c') := HJ9.out.gg.cell 1
      have j2 : V4.cell? ⟨h, 2, none⟩ = some (.int .i64 Op) := HJ9.out.gg.cell 2
      have X1 := HS9.out.z
      have HBX : Hid (Below w.heap.size w (V4.setRow (w.heap.size + 1 + 1) #[.int .i64 Ep, .slice (some ⟨b', 0, none⟩) 6 c', .int .i64 Op])) := below_setRow HS9.out.w (by omega) _
      have HMX : Hid (RowM (V4.setRow (w.heap.size + 1 + 1) #[.int .i64 Ep, .slice (some ⟨b', 0, none⟩) 6 c', .int .i64 Op]) b' c' (nextM l k)) := HJ9.out.mm.same (setRow_other V4 (w.heap.size + 1 + 1) b' _ (fun e => HJ9.out.mm.ne HS9.out.z e.symm))
      go_wp2_with (with_reducible refine wpList_storeBlk rfl 26 _ _ rfl (w.heap.size + 1 + 1) #[.int .i64 0, .slice none 0 0, .int .i64 0] #[.int .i64 Ep, .slice (some ⟨b', 0, none⟩) 6 c', .int .i64 Op] (by with_unfolding_all rfl) (by with_unfolding_all rfl) X1 rfl (by kernel_rfl) (by kernel_rfl) ?_)
      exact bodyPost_rowTmp2g rfl (w.heap.size + 1 + 1) #[.int .i64 Ep, .slice (some ⟨b', 0, none⟩) 6 c', .int .i64 Op] (.bool false) (.int .i64 0) rfl rfl rfl rfl (X1.setRow _) _ Tryd.underlying26 rfl (by kernel_rfl) ⟨.inr ⟨rfl, b', c', HJ9.out.nb, rfl, HMX.out⟩, HBX.out⟩
    | true =>
      obtain rfl : Q = (gdoP (Ep, nextM l k, Op) Kd q, true) := HJG.out
      have r0 : V4.cell? ⟨w.heap.size + 1, 0, none⟩ = some (.int .i64 Kd) := HS9.out.r.cell 0
      have r1 : V4.cell? ⟨w.heap.size + 1, 1, none⟩ = some (.int .i64 F) := HS9.out.r.cell 1
      have r2 : V4.cell? ⟨w.heap.size + 1, 2, none⟩ = some (.int .i64 C) := HS9.out.r.cell 2
      have r3 : V4.cell? ⟨w.heap.size + 1, 3, none⟩ = some (.int .i64 S) := HS9.out.r.cell 3
      have r4 : V4.cell? ⟨w.heap.size + 1, 4, none⟩ = some (.string H) := HS9.out.r.cell 4
      have r5 : V4.cell? ⟨w.heap.size + 1, 5, none⟩ = some (.int .i64 k0) := HS9.out.r.cell 5
      have r6 : V4.cell? ⟨w.heap.size + 1, 6, none⟩ = some (.int .i64 k1) := HS9.out.r.cell 6
      have r7 : V4.cell? ⟨w.heap.size + 1, 7, none⟩ = some (.int .i64 k2) := HS9.out.r.cell 7
      have r8 : V4.cell? ⟨w.heap.size + 1, 8, none⟩ = some (.int .i64 k3) := HS9.out.r.cell 8
      have r9 : V4.cell? ⟨w.heap.size + 1, 9, none⟩ = some (.int .i64 k4) := HS9.out.r.cell 9
      have r10 : V4.cell? ⟨w.heap.size + 1, 10, none⟩ = some (.int .i64 k5) := HS9.out.r.cell 10
      have r11 : V4.cell? ⟨w.heap.size + 1, 11, none⟩ = some (.int .i64 k6) := HS9.out.r.cell 11
      have r12 : V4.cell? ⟨w.heap.size + 1, 12, none⟩ = some (.string s7) := HS9.out.r.cell 12
      have r13 : V4.cell? ⟨w.heap.size + 1, 13, none⟩ = some (.string s8) := HS9.out.r.cell 13
      have r14 : V4.cell? ⟨w.heap.size + 1, 14, none⟩ = some (.int .i64 q) := HS9.out.r.cell 14
      have r15 : V4.cell? ⟨w.heap.size + 1, 15, none⟩ = some (.slice ar nr cr) := HS9.out.r.cell 15
      obtain ⟨⟨RE, Rl, RO⟩, hRR⟩ : ∃ Z, gdoP (Ep, nextM l k, Op) Kd q = Z := ⟨_, rfl⟩
      have CD : Hid (Calls Tryd.prog 20 #[.pointer (some ⟨h, 0, none⟩), .agg #[.int .i64 Kd, .int .i64 F, .int .i64 C, .int .i64 S, .string H, .int .i64 k0, .int .i64 k1, .int .i64 k2, .int .i64 k3, .int .i64 k4, .int .i64 k5, .int .i64 k6, .string s7, .string s8, .int .i64 q, .slice ar nr cr]] V4 fun e w' => e = .returned (.tuple #[]) ∧ Blk w' 26 h #[.int .i64 RE, .slice (some ⟨b', 0, none⟩) 6 c', .int .i64 RO] ∧ RowM w' b' c' Rl ∧ Kept2 h (some b') V4 w') := do20_any Ep Op Kd F C S H k0 k1 k2 k3 k4 k5 k6 s7 s8 q ar nr cr (nextM l k) h b' c' V4 RE RO Rl hRR HEO.out.1 HEO.out.2 HKK.out.1 HKK.out.2 HWN.out HJ9.out.gg HJ9.out.mm HJ9.out.ne
      have HRR : Hid (gdoP (Ep, nextM l k, Op) Kd q = (RE, Rl, RO)) := hRR
      clear hRR
      go_wp2_with fail
      refine Calls.mono CD.out ?_
      rintro e V5 ⟨rfl, p1, p2, p3⟩
      have j0 : V5.cell? ⟨h, 0, none⟩ = some (.int .i64 RE) := p1.cell 0
      have j1 : V5.cell? ⟨h, 1, none⟩ = some (.slice (some ⟨b', 0, none⟩) 6 c') := p1.cell 1
      have j2 : V5.cell? ⟨h, 2, none⟩ = some (.int .i64 RO) := p1.cell 2
      have X1 : Blk V5 26 (w.heap.size + 1 + 1) #[.int .i64 0, .slice none 0 0, .int .i64 0] := HS9.out.z.kept p3 (by have := HJ9.out.nh; omega) (fun e => HJ9.out.mm.ne HS9.out.z (by cases e; rfl))
      have B5 : Below w.heap.size w V5 := HS9.out.w.trans (p3.below w.heap.size HS9.out.w.size (by have := HJ9.out.nh; omega) (fun j e => by cases e; exact HJ9.out.nb))
      have HBX : Hid (Below w.heap.size w (V5.setRow (w.heap.size + 1 + 1) #[.int .i64 RE, .slice (some ⟨b', 0, none⟩) 6 c', .int .i64 RO])) := below_setRow B5 (by omega) _
      have HMX : Hid (RowM (V5.setRow (w.heap.size + 1 + 1) #[.int .i64 RE, .slice (some ⟨b', 0, none⟩) 6 c', .int .i64 RO]) b' c' Rl) := p2.same (setRow_other V5 (w.heap.size + 1 + 1) b' _ (fun e => p2.ne X1 e.symm))
      clear p1 p2 p3 B5 r0 r1 r2 r3 r4 r5 r6 r7 r8 r9 r10 r11 r12 r13 r14 r15 CD
      go_wp2_with (with_reducible refine wpList_storeBlk rfl 26 _ _ rfl (w.heap.size + 1 + 1) #[.int .i64 0, .slice none 0 0, .int .i64 0] #[.int .i64 RE, .slice (some ⟨b', 0, none⟩) 6 c', .int .i64 RO] (by with_unfolding_all rfl) (by with_unfolding_all rfl) X1 rfl (by kernel_rfl) (by kernel_rfl) ?_)
      exact bodyPost_rowTmp2g rfl (w.heap.size + 1 + 1) #[.int .i64 RE, .slice (some ⟨b', 0, none⟩) 6 c', .int .i64 RO] (.bool true) (.int .i64 0) rfl rfl rfl rfl (X1.setRow _) _ Tryd.underlying26 rfl (by kernel_rfl) ⟨.inr ⟨rfl, b', c', HJ9.out.nb, by rw [HRR.out], by rw [HRR.out]; exact HMX.out⟩, HBX.out⟩
  · go_simp
    have HS4 : Hid (DoS w (w3.drew.alloc (.cells #[.int .i64 0, .slice none 0 0, .int .i64 0] 26)) #[.int .i64 Ep, .slice (some ⟨b, off, none⟩) 6 c, .int .i64 Op] #[.int .i64 Kd, .int .i64 F, .int .i64 C, .int .i64 S, .string H, .int .i64 k0, .int .i64 k1, .int .i64 k2, .int .i64 k3, .int .i64 k4, .int .i64 k5, .int .i64 k6, .string s7, .string s8, .int .i64 q, .slice ar nr cr]) := HSD.out.on (below_new _ _)
    have Z4 : Hid (Blk (w3.drew.alloc (.cells #[.int .i64 0, .slice none 0 0, .int .i64 0] 26)) 26 w3.heap.size #[.int .i64 0, .slice none 0 0, .int .i64 0]) := Blk.new' _ _ _ _ rfl
    refine hK.out _ _ (gCells HS4.out) (fun hHeld => ?_)
    clear hK K
    refine wpAnyH_ready (rs := [4]) (by kernel_rfl) (by simp) ?_
    refine AllReadyH.cons rfl (fun K hK => ?_) AllReadyH.nil
    go_simp
    refine (CL.out (w3.drew.alloc (.cells #[.int .i64 0, .slice none 0 0, .int .i64 0] 26)) HS4.out.w).mono ?_
    rintro e v1 ⟨b', c', rfl, hb', hm, hb⟩
    have HS5 : Hid (DoS w v1 #[.int .i64 Ep, .slice (some ⟨b, off, none⟩) 6 c, .int .i64 Op] #[.int .i64 Kd, .int .i64 F, .int .i64 C, .int .i64 S, .string H, .int .i64 k0, .int .i64 k1, .int .i64 k2, .int .i64 k3, .int .i64 k4, .int .i64 k5, .int .i64 k6, .string s7, .string s8, .int .i64 q, .slice ar nr cr]) := HS4.out.on hb
    have HM5 : Hid (w.heap.size ≤ b' ∧ RowM v1 b' c' l) := ⟨Nat.le_trans HS4.out.w.size hb', hm⟩
    have Z5 : Hid (Blk v1 26 w3.heap.size #[.int .i64 0, .slice none 0 0, .int .i64 0]) := Z4.out.on hb
    clear hb hb' hm HSD HS4 Z4 CL
    refine hK.out _ _ (gCells HS5.out) (fun hHeld => ?_)
    clear hK K
    refine take_at (i := 7) (v := ?_) rfl rfl (by kernel_rfl) (by kernel_rfl) (by kernel_rfl) (fun _ _ _ h => h) (Or.inl ⟨by rfl, ?_⟩) (by assumption) ?_
    rotate_left
    · intro w hSw; (try dsimp only at hSw); go_simp; try with_reducible rfl
    try simp only [Act.put, List.setIfInBounds_toArray, List.set_cons_zero, List.set_cons_succ]
    have i0 : v1.cell? ⟨w3.heap.size, 0, none⟩ = some (.int .i64 0) := Z5.out.cell 0
    have i1 : v1.cell? ⟨w3.heap.size, 1, none⟩ = some (.slice none 0 0) := Z5.out.cell 1
    have i2 : v1.cell? ⟨w3.heap.size, 2, none⟩ = some (.int .i64 0) := Z5.out.cell 2
    have j0 := Z5.out.free 0
    have j1 := Z5.out.free 1
    have j2 := Z5.out.free 2
    obtain ⟨V1, hV1⟩ : ∃ V1, V1 = ((v1.setCell ⟨w3.heap.size, 0, none⟩ (.int .i64 Ep)).setCell ⟨w3.heap.size, 1, none⟩ (.slice (some ⟨b', 0, none⟩) 6 c')).setCell ⟨w3.heap.size, 2, none⟩ (.int .i64 Op) := ⟨_, rfl⟩
    have HS6 : Hid (DoS w V1 #[.int .i64 Ep, .slice (some ⟨b, off, none⟩) 6 c, .int .i64 Op] #[.int .i64 Kd, .int .i64 F, .int .i64 C, .int .i64 S, .string H, .int .i64 k0, .int .i64 k1, .int .i64 k2, .int .i64 k3, .int .i64 k4, .int .i64 k5, .int .i64 k6, .string s7, .string s8, .int .i64 q, .slice ar nr cr]) := by
      show DoS _ _ _ _
      rw [hV1]
      exact ((HS5.out.setNew _ 0 HLT.out _).setNew _ 1 HLT.out _).setNew _ 2 HLT.out _
    have HJ : Hid (JgC w V1 w3.heap.size b' c' Ep Op l) := by
      have q0 := HM5.out.2.ne Z5.out
      have q2 : Blk V1 26 w3.heap.size #[.int .i64 Ep, .slice (some ⟨b', 0, none⟩) 6 c', .int .i64 Op] := by rw [hV1]; exact ((Z5.out.setAt 0 _).setAt 1 _).setAt 2 _
      have q3 : RowM V1 b' c' l := by rw [hV1]; exact ((HM5.out.2.other ⟨w3.heap.size, 0, none⟩ (fun e => q0 e.symm) _).other ⟨w3.heap.size, 1, none⟩ (fun e => q0 e.symm) _).other ⟨w3.heap.size, 2, none⟩ (fun e => q0 e.symm) _
      exact ⟨q2, q3, HLT.out, HM5.out.1, q0⟩
    refine wpAnyH_ready (rs := [9]) (by kernel_rfl) (by simp) ?_
    refine AllReadyH.cons rfl (fun K hK => ?_) AllReadyH.nil
    go_simp
    rw [← hV1]
    refine hK.out _ _ (gCells HS6.out) (fun hHeld => ?_)
    clear hK K
    refine wpAnyH_done (by kernel_rfl) (NoPanic.normal ?_) _
    obtain ⟨h, hh⟩ : ∃ h, h = w3.heap.size := ⟨_, rfl⟩
    rw [← hh] at HJ ⊢
    clear hV1 hh HS5 HM5 Z5 i0 i1 i2 j0 j1 j2 HLT
    as_aux_lemma =>
    obtain ⟨g0, g1, g2⟩ := gCells HS6.out
    have j1 : V1.cell? ⟨h, 1, none⟩ = some (.slice (some ⟨b', 0, none⟩) 6 c') := HJ.out.gg.cell 1
    have r1 : V1.cell? ⟨w.heap.size + 1, 1, none⟩ = some (.int .i64 F) := HS6.out.r.cell 1
    clear g0 g1 g2
    go_wp2_with fail
    refine (CB.out V1 b' c' HJ.out.mm).mono ?_
    rintro e V2 ⟨rfl, hb⟩
    have HS7 : Hid (DoS w V2 #[.int .i64 Ep, .slice (some ⟨b, off, none⟩) 6 c, .int .i64 Op] #[.int .i64 Kd, .int .i64 F, .int .i64 C, .int .i64 S, .string H, .int .i64 k0, .int .i64 k1, .int .i64 k2, .int .i64 k3, .int .i64 k4, .int .i64 k5, .int .i64 k6, .string s7, .string s8, .int .i64 q, .slice ar nr cr]) := HS6.out.on hb
    have HJ7 : Hid (JgC w V2 h b' c' Ep Op l) := HJ.out.on hb
    clear hb HS6 HJ j1 r1
    have y1 : V2.cell? ⟨b', k * 3 + 1, none⟩ = some (.int .i64 y) := by
      obtain ⟨_, _, _, cur, hb, _, hc⟩ := HJ7.out.mm
      rw [hb.cell, ← HY.out]; exact (hc k HK6.out).2.1
    have y2 : V2.frozen? ⟨b', k * 3 + 1, none⟩ = false := HJ7.out.mm.free _
    obtain ⟨V3, hV3⟩ : ∃ V3, V2.setCell ⟨b', k * 3 + 1, none⟩ (.int .i64 (y + 1)) = V3 := ⟨_, rfl⟩
    have HJ8 : Hid (JgC w V3 h b' c' Ep Op (nextM l k)) := by
      rw [← hV3]
      refine ⟨HJ7.out.gg.other ⟨b', k * 3 + 1, none⟩ HJ7.out.ne _, ?_, HJ7.out.nh, HJ7.out.nb, HJ7.out.ne⟩
      unfold nextM
      rw [← HY.out]; exact HJ7.out.mm.setN k HK6.out _
    have HS8 : Hid (DoS w V3 #[.int .i64 Ep, .slice (some ⟨b, off, none⟩) 6 c, .int .i64 Op] #[.int .i64 Kd, .int .i64 F, .int .i64 C, .int .i64 S, .string H, .int .i64 k0, .int .i64 k1, .int .i64 k2, .int .i64 k3, .int .i64 k4, .int .i64 k5, .int .i64 k6, .string s7, .string s8, .int .i64 q, .slice ar nr cr]) := by
      rw [← hV3]
      have nb := HJ7.out.mm
      have k7 := HS7.out
      have n1 := HJ7.out.mm.ne k7.g
      have n3 := HJ7.out.mm.ne k7.z
      exact ⟨k7.g.other _ n1 _, k7.r.other _ (HJ7.out.mm.neT k7.r (by decide)) _, k7.z.other _ n3 _, k7.w.setCell (p := ⟨b', k * 3 + 1, none⟩) HJ7.out.nb _⟩
    obtain ⟨g0, g1, g2⟩ := gCells HS8.out
    have r0 : V3.cell? ⟨w.heap.size + 1, 0, none⟩ = some (.int .i64 Kd) := HS8.out.r.cell 0
    have r1 : V3.cell? ⟨w.heap.size + 1, 1, none⟩ = some (.int .i64 F) := HS8.out.r.cell 1
    have r2 : V3.cell? ⟨w.heap.size + 1, 2, none⟩ = some (.int .i64 C) := HS8.out.r.cell 2
    have r3 : V3.cell? ⟨w.heap.size + 1, 3, none⟩ = some (.int .i64 S) := HS8.out.r.cell 3
    have r4 : V3.cell? ⟨w.heap.size + 1, 4, none⟩ = some (.string H) := HS8.out.r.cell 4
    have r5 : V3.cell? ⟨w.heap.size + 1, 5, none⟩ = some (.int .i64 k0) := HS8.out.r.cell 5
    have r6 : V3.cell? ⟨w.heap.size + 1, 6, none⟩ = some (.int .i64 k1) := HS8.out.r.cell 6
    have r7 : V3.cell? ⟨w.heap.size + 1, 7, none⟩ = some (.int .i64 k2) := HS8.out.r.cell 7
    have r8 : V3.cell? ⟨w.heap.size + 1, 8, none⟩ = some (.int .i64 k3) := HS8.out.r.cell 8
    have r9 : V3.cell? ⟨w.heap.size + 1, 9, none⟩ = some (.int .i64 k4) := HS8.out.r.cell 9
    have r10 : V3.cell? ⟨w.heap.size + 1, 10, none⟩ = some (.int .i64 k5) := HS8.out.r.cell 10
    have r11 : V3.cell? ⟨w.heap.size + 1, 11, none⟩ = some (.int .i64 k6) := HS8.out.r.cell 11
    have r12 : V3.cell? ⟨w.heap.size + 1, 12, none⟩ = some (.string s7) := HS8.out.r.cell 12
    have r13 : V3.cell? ⟨w.heap.size + 1, 13, none⟩ = some (.string s8) := HS8.out.r.cell 13
    have r14 : V3.cell? ⟨w.heap.size + 1, 14, none⟩ = some (.int .i64 q) := HS8.out.r.cell 14
    have r15 : V3.cell? ⟨w.heap.size + 1, 15, none⟩ = some (.slice ar nr cr) := HS8.out.r.cell 15
    have HV3 : Hid (V2.setCell ⟨b', k * 3 + 1, none⟩ (.int .i64 (y + 1)) = V3) := hV3
    rw [← hV3] at g0 g1 g2 r0 r1 r2 r3 r4 r5 r6 r7 r8 r9 r10 r11 r12 r13 r14 r15
    clear HS7 HJ7 hV3
    go_wp2_with fail
    rw [HV3.out]
    clear y1 y2 g0 g1 g2 r0 r1 r2 r3 r4 r5 r6 r7 r8 r9 r10 r11 r12 r13 r14 r15 HV3
    as_aux_lemma =>
    refine (CC.out V3 HS8.out.w).mono ?_
    rintro e V4 ⟨rfl, hb⟩
    have HS9 : Hid (DoS w V4 #[.int .i64 Ep, .slice (some ⟨b, off, none⟩) 6 c, .int .i64 Op] #[.int .i64 Kd, .int .i64 F, .int .i64 C, .int .i64 S, .string H, .int .i64 k0, .int .i64 k1, .int .i64 k2, .int .i64 k3, .int .i64 k4, .int .i64 k5, .int .i64 k6, .string s7, .string s8, .int .i64 q, .slice ar nr cr]) := HS8.out.on hb
    have HJ9 : Hid (JgC w V4 h b' c' Ep Op (nextM l k)) := HJ8.out.on hb
    clear hb HS8 HJ8
    rw [HX2.out]
    cases X2 with
    | false =>
      obtain rfl : Q = ((Ep, nextM l k, Op), false) := HJG.out
      have j0 : V4.cell? ⟨h, 0, none⟩ = some (.int .i64 Ep) := HJ9.out.gg.cell 0
      have j1 : V4.cell? ⟨h, 1, none⟩ = some (.slice (some ⟨b', 0, none⟩) 6 c') := HJ9.out.gg.cell 1
      have j2 : V4.cell? ⟨h, 2, none⟩ = some (.int .i64 Op) := HJ9.out.gg.cell 2
      have X1 := HS9.out.z
      have HBX : Hid (Below w.heap.size w (V4.setRow (w.heap.size + 1 + 1) #[.int .i64 Ep, .slice (some ⟨b', 0, none⟩) 6 c', .int .i64 Op])) := below_setRow HS9.out.w (by omega) _
      have HMX : Hid (RowM (V4.setRow (w.heap.size + 1 + 1) #[.int .i64 Ep, .slice (some ⟨b', 0, none⟩) 6 c', .int .i64 Op]) b' c' (nextM l k)) := HJ9.out.mm.same (setRow_other V4 (w.heap.size + 1 + 1) b' _ (fun e => HJ9.out.mm.ne HS9.out.z e.symm))
      go_wp2_with (with_reducible refine wpList_storeBlk rfl 26 _ _ rfl (w.heap.size + 1 + 1) #[.int .i64 0, .slice none 0 0, .int .i64 0] #[.int .i64 Ep, .slice (some ⟨b', 0, none⟩) 6 c', .int .i64 Op] (by with_unfolding_all rfl) (by with_unfolding_all rfl) X1 rfl (by kernel_rfl) (by kernel_rfl) ?_)
      exact bodyPost_rowTmp2g rfl (w.heap.size + 1 + 1) #[.int .i64 Ep, .slice (some ⟨b', 0, none⟩) 6 c', .int .i64 Op] (.bool false) (.int .i64 0) rfl rfl rfl rfl (X1.setRow _) _ Tryd.underlying26 rfl (by kernel_rfl) ⟨.inr ⟨rfl, b', c', HJ9.out.nb, rfl, HMX.out⟩, HBX.out⟩
    | true =>
      obtain rfl : Q = (gdoP (Ep, nextM l k, Op) Kd q, true) := HJG.out
      have r0 : V4.cell? ⟨w.heap.size + 1, 0, none⟩ = some (.int .i64 Kd) := HS9.out.r.cell 0
      have r1 : V4.cell? ⟨w.heap.size + 1, 1, none⟩ = some (.int .i64 F) := HS9.out.r.cell 1
      have r2 : V4.cell? ⟨w.heap.size + 1, 2, none⟩ = some (.int .i64 C) := HS9.out.r.cell 2
      have r3 : V4.cell? ⟨w.heap.size + 1, 3, none⟩ = some (.int .i64 S) := HS9.out.r.cell 3
      have r4 : V4.cell? ⟨w.heap.size + 1, 4, none⟩ = some (.string H) := HS9.out.r.cell 4
      have r5 : V4.cell? ⟨w.heap.size + 1, 5, none⟩ = some (.int .i64 k0) := HS9.out.r.cell 5
      have r6 : V4.cell? ⟨w.heap.size + 1, 6, none⟩ = some (.int .i64 k1) := HS9.out.r.cell 6
      have r7 : V4.cell? ⟨w.heap.size + 1, 7, none⟩ = some (.int .i64 k2) := HS9.out.r.cell 7
      have r8 : V4.cell? ⟨w.heap.size + 1, 8, none⟩ = some (.int .i64 k3) := HS9.out.r.cell 8
      have r9 : V4.cell? ⟨w.heap.size + 1, 9, none⟩ = some (.int .i64 k4) := HS9.out.r.cell 9
      have r10 : V4.cell? ⟨w.heap.size + 1, 10, none⟩ = some (.int .i64 k5) := HS9.out.r.cell 10
      have r11 : V4.cell? ⟨w.heap.size + 1, 11, none⟩ = some (.int .i64 k6) := HS9.out.r.cell 11
      have r12 : V4.cell? ⟨w.heap.size + 1, 12, none⟩ = some (.string s7) := HS9.out.r.cell 12
      have r13 : V4.cell? ⟨w.heap.size + 1, 13, none⟩ = some (.string s8) := HS9.out.r.cell 13
      have r14 : V4.cell? ⟨w.heap.size + 1, 14, none⟩ = some (.int .i64 q) := HS9.out.r.cell 14
      have r15 : V4.cell? ⟨w.heap.size + 1, 15, none⟩ = some (.slice ar nr cr) := HS9.out.r.cell 15
      obtain ⟨⟨RE, Rl, RO⟩, hRR⟩ : ∃ Z, gdoP (Ep, nextM l k, Op) Kd q = Z := ⟨_, rfl⟩
      have CD : Hid (Calls Tryd.prog 20 #[.pointer (some ⟨h, 0, none⟩), .agg #[.int .i64 Kd, .int .i64 F, .int .i64 C, .int .i64 S, .string H, .int .i64 k0, .int .i64 k1, .int .i64 k2, .int .i64 k3, .int .i64 k4, .int .i64 k5, .int .i64 k6, .string s7, .string s8, .int .i64 q, .slice ar nr cr]] V4 fun e w' => e = .returned (.tuple #[]) ∧ Blk w' 26 h #[.int .i64 RE, .slice (some ⟨b', 0, none⟩) 6 c', .int .i64 RO] ∧ RowM w' b' c' Rl ∧ Kept2 h (some b') V4 w') := do20_any Ep Op Kd F C S H k0 k1 k2 k3 k4 k5 k6 s7 s8 q ar nr cr (nextM l k) h b' c' V4 RE RO Rl hRR HEO.out.1 HEO.out.2 HKK.out.1 HKK.out.2 HWN.out HJ9.out.gg HJ9.out.mm HJ9.out.ne
      have HRR : Hid (gdoP (Ep, nextM l k, Op) Kd q = (RE, Rl, RO)) := hRR
      clear hRR
      go_wp2_with fail
      refine Calls.mono CD.out ?_
      rintro e V5 ⟨rfl, p1, p2, p3⟩
      have j0 : V5.cell? ⟨h, 0, none⟩ = some (.int .i64 RE) := p1.cell 0
      have j1 : V5.cell? ⟨h, 1, none⟩ = some (.slice (some ⟨b', 0, none⟩) 6 c') := p1.cell 1
      have j2 : V5.cell? ⟨h, 2, none⟩ = some (.int .i64 RO) := p1.cell 2
      have X1 : Blk V5 26 (w.heap.size + 1 + 1) #[.int .i64 0, .slice none 0 0, .int .i64 0] := HS9.out.z.kept p3 (by have := HJ9.out.nh; omega) (fun e => HJ9.out.mm.ne HS9.out.z (by cases e; rfl))
      have B5 : Below w.heap.size w V5 := HS9.out.w.trans (p3.below w.heap.size HS9.out.w.size (by have := HJ9.out.nh; omega) (fun j e => by cases e; exact HJ9.out.nb))
      have HBX : Hid (Below w.heap.size w (V5.setRow (w.heap.size + 1 + 1) #[.int .i64 RE, .slice (some ⟨b', 0, none⟩) 6 c', .int .i64 RO])) := below_setRow B5 (by omega) _
      have HMX : Hid (RowM (V5.setRow (w.heap.size + 1 + 1) #[.int .i64 RE, .slice (some ⟨b', 0, none⟩) 6 c', .int .i64 RO]) b' c' Rl) := p2.same (setRow_other V5 (w.heap.size + 1 + 1) b' _ (fun e => p2.ne X1 e.symm))
      clear p1 p2 p3 B5 r0 r1 r2 r3 r4 r5 r6 r7 r8 r9 r10 r11 r12 r13 r14 r15 CD
      go_wp2_with (with_reducible refine wpList_storeBlk rfl 26 _ _ rfl (w.heap.size + 1 + 1) #[.int .i64 0, .slice none 0 0, .int .i64 0] #[.int .i64 RE, .slice (some ⟨b', 0, none⟩) 6 c', .int .i64 RO] (by with_unfolding_all rfl) (by with_unfolding_all rfl) X1 rfl (by kernel_rfl) (by kernel_rfl) ?_)
      exact bodyPost_rowTmp2g rfl (w.heap.size + 1 + 1) #[.int .i64 RE, .slice (some ⟨b', 0, none⟩) 6 c', .int .i64 RO] (.bool true) (.int .i64 0) rfl rfl rfl rfl (X1.setRow _) _ Tryd.underlying26 rfl (by kernel_rfl) ⟨.inr ⟨rfl, b', c', HJ9.out.nb, by rw [HRR.out], by rw [HRR.out]; exact HMX.out⟩, HBX.out⟩

end Go.Proofs.YtkmdajenbidaaaaDoor
