/- StoreSpoilt, walked. -/
import Derived.Test.YtaakmcihpdbilaaGreatDoorSpA
import Derived.Test.YtaakmcihpdbilaaGreatDoorSdD
import Derived.Deep.DeepCutAuto
namespace Go.Proofs.YtaakmcihpdbilaaGreatDoor
open Go.RowKit
set_option maxRecDepth 100000
set_option linter.unusedSimpArgs false
set_option linter.unusedVariables false
set_option maxRecDepth 100000

/-- Both devices, of the law's own. -/
structure SpS (w W : World) (g b q : Nat) (D : DevT) (r c : Nat) : Prop where
  d : DevAt W g b D
  qb : Blk W 28 q (devA r c D)
  r : RowD W r c D.1
  bw : Below w.heap.size w W
  lo : w.heap.size ≤ g ∧ w.heap.size ≤ b ∧ w.heap.size ≤ q
theorem SpS.on {w W W' : World} {g b q : Nat} {D : DevT} {r c : Nat} (h : SpS w W g b q D r c) (hb : Below W.heap.size W W') : SpS w W' g b q D r c := ⟨h.d.on hb, h.qb.on hb, h.r.on hb, below_step h.bw (Nat.le_refl _) hb, h.lo⟩
theorem SpS.ne {w W : World} {g b q : Nat} {D : DevT} {r c : Nat} (h : SpS w W g b q D r c) : q ≠ g ∧ q ≠ b := by
  obtain ⟨F, e1, ⟨cs, e2, _⟩, _⟩ := h.d
  exact ⟨blk_apart h.qb e1 (by decide), blk_apart h.qb e2 (by decide)⟩



set_option maxHeartbeats 4000000 in
theorem storeSpoilt_walk (bs t : ByteArray) (y : Int) (w : World) (hG : GlobB w ∧ GlobK w) :
    Calls Tryz.prog 4 #[.string bs, .string t, .int .i64 y] w fun e w' => e = .returned (.bool true) ∧ Below w.heap.size w w' := by
  have HG : Hid (GlobB w ∧ GlobK w) := hG
  have HC : Hid (Sto18 StC w) := stC_sto w hG.1 hG.2
  clear hG
  by_cases h5 : 512 < bs.size
  · have d0 : (512 : Int) < (bs.size : Int) := by omega
    go_enter Tryz.func4, Tryz.ntmps4
    go_wp2_with fail
    refine (awake18_any _ HC.out).mono ?_
    rintro e w9 ⟨rfl, hb9⟩
    go_wp2
    go_ret
    exact ⟨rfl, hb9⟩
  have d0 : ¬ ((512 : Int) < (bs.size : Int)) := by omega
  by_cases h1 : 100 < t.size
  · have d1 : (100 : Int) < (t.size : Int) := by omega
    go_enter Tryz.func4, Tryz.ntmps4
    go_wp2_with fail
    refine (awake18_any _ HC.out).mono ?_
    rintro e w9 ⟨rfl, hb9⟩
    go_wp2
    go_ret
    exact ⟨rfl, hb9⟩
  have d1 : ¬ ((100 : Int) < (t.size : Int)) := by omega
  obtain ⟨p, hp⟩ : ∃ p, 512 - bs.size = p := ⟨_, rfl⟩
  have e1 : (512 : Int) - (bs.size : Int) = (p : Int) := by omega
  have hz : (zeroB p).size = p := zeroB_size p
  obtain ⟨Z, hZ⟩ : ∃ Z, zeroB p = Z := ⟨_, rfl⟩
  rw [hZ] at hz
  obtain ⟨AL, hAL⟩ : ∃ AL, bs ++ Z = AL := ⟨_, rfl⟩
  have hALs : AL.size = 512 := by rw [← hAL, ByteArray.size_append]; omega
  have hsum : ¬ (9223372036854775807 < bs.size + Z.size) := by omega
  have HZ : Hid (zeroB p = Z) := hZ
  clear hZ hp
  go_enter Tryz.func4, Tryz.ntmps4
  go_wp2_with fail
  refine (dnew_any 8 w ⟨by decide, by decide⟩).mono ?_
  rintro e w1 ⟨g, b, rfl, hd1, hg1, hb1, hB1⟩
  have HD1 : Hid (DevB w w1 g b (newB 8)) := ⟨hd1, hg1, hb1, hB1⟩
  clear hd1 hg1 hb1 hB1
  go_wp2_with fail
  refine (rnew17_any 8 w1 ⟨by decide, by decide⟩).mono ?_
  rintro e w2 ⟨v2, rfl, ⟨r, c, rfl, hr⟩, hb2⟩
  have HD2 : Hid (DevB w w2 g b (newB 8)) := HD1.out.on hb2
  have HR2 : Hid (RowD w2 r c (newB 8).1) := hr
  clear hr hb2 HD1
  have e9 : devA r c (newB 8) = #[.slice (some ⟨r, 0, none⟩) 8 c, .int .i64 (-1), .bool false, .int .i64 0] := rfl
  rw [e9]
  go_upto_region 7 with fail
  obtain ⟨q, hq⟩ : ∃ q, w2.heap.size = q := ⟨_, rfl⟩
  obtain ⟨V, hV⟩ : ∃ V, w2.alloc (.cells #[.slice (some ⟨r, 0, none⟩) 8 c, .int .i64 (-1), .bool false, .int .i64 0] 28) = V := ⟨_, rfl⟩
  have HS0 : Hid (SpS w V g b q (newB 8) r c) := by
    have hbV : Below w2.heap.size w2 V := by rw [← hV]; exact below_new w2 _
    have h9 := HD2.out.on hbV
    refine ⟨h9.1, ?_, HR2.out.on hbV, h9.2.2.2, h9.2.1, h9.2.2.1, by rw [← hq]; exact HD2.out.2.2.2.size⟩
    rw [e9, ← hV]
    exact Blk.new' w2 _ _ q hq
  rw [hV, hq]
  have m1 := make_zeros p (p : Int) rfl (by omega) V
  have v1 : (convert 43 9 (.slice (some ⟨V.heap.size, 0, none⟩) p p)).run Tryz.prog (V.alloc (.cells (zcells p) 5)) = .ok (.string Z) (V.alloc (.cells (zcells p) 5)) := by rw [← HZ.out]; exact conv_zeros (row_zeros p V)
  have HS1 : Hid (SpS w (V.alloc (.cells (zcells p) 5)) g b q (newB 8) r c) := HS0.out.on (below_new V _)
  clear HD2 HR2 HS0 e9 hV hq
  go_wp2_with fail
  generalize V.alloc (.cells (zcells p) 5) = w3 at *
  clear m1 v1
  go_loopw [12] (fun v wr => ∃ (k : Nat) (D : DevT) (r c : Nat), k ≤ 8 ∧ v = .int .i64 k ∧ Hid (SpS w wr g b q D r c) ∧ Hid (OnD D) ∧ Hid (DvO 8 (k : Int) D)) (fun v _ => 8 - (intOf v).toNat)
  case atStart => exact ⟨0, newB 8, r, c, by decide, rfl, HS1, newB_on 8, newB_dv 8⟩
  case round =>
    clear HS1
    obtain ⟨k, D, r, c, hk, rfl, HS, HO, HV⟩ := hrel
    by_cases hlt : k < 8
    · have k0 : (k : Int) < 8 := by omega
      have k1 : (64 : Int) * (k : Int) + 64 ≤ 512 := by omega
      have hk64 : 64 * k + 64 ≤ AL.size := by omega
      have c0 : wr.cell? ⟨q, 0, none⟩ = some (.slice (some ⟨r, 0, none⟩) D.1.length c) := HS.out.qb.cell 0
      have c1 : wr.cell? ⟨q, 1, none⟩ = some (.int .i64 D.2.1) := HS.out.qb.cell 1
      have c2 : wr.cell? ⟨q, 2, none⟩ = some (.bool D.2.2.1) := HS.out.qb.cell 2
      have c3 : wr.cell? ⟨q, 3, none⟩ = some (.int .i64 D.2.2.2) := HS.out.qb.cell 3
      obtain ⟨T, hT⟩ : ∃ T, AL.extract (64 * k) (64 * k + 64) = T := ⟨_, rfl⟩
      have hTs : T.size = 64 := by rw [← hT, ByteArray.size_extract]; omega
      obtain ⟨on1, on2⟩ := writeB_on D k T HO.out
      have hv2 := HV.out.wr k T
      have CR := rwriteB_any D (.agg (devA r c D)) 8 (k : Int) k T wr ⟨r, c, rfl, HS.out.r⟩ HV.out (by decide) (by omega) (by omega) hTs
      have CW : Hid (∀ W, SpS w W g b q D r c → Calls Tryz.prog 11 #[.pointer (some ⟨g, 0, none⟩), .int .i64 (k : Int), .string T] W fun e w' => e = .returned (.int .i64 0) ∧ DevTo W g b (writeB D k T).1 w') := fun W hW => by
        have h9 := dwriteB_any g b D 8 (k : Int) k T W hW.d HV.out (by omega) (by omega) hTs
        rw [on1] at h9
        exact h9
      rw [on1] at CR
      simp only [devA] at CR
      obtain ⟨D2, hD2⟩ : ∃ D2, (writeB D k T).1 = D2 := ⟨_, rfl⟩
      rw [hD2] at CR CW on2 hv2
      have HO2 : Hid (OnD D2) := on2
      have HV2 : Hid (DvO 8 ((k + 1 : Nat) : Int) D2) := hv2.mono (by omega)
      have Hl2 : Hid (D.1.length = 8 ∧ D2.1.length = 8) := ⟨HV.out.len, hv2.len⟩
      clear on1 on2 hv2 hD2
      go_wp2_with fail
      refine CR.mono ?_
      clear CR
      rintro e w5 ⟨v5, rfl, ⟨r5, c5, rfl, hr5⟩, hb5⟩
      have HS5 : Hid (SpS w w5 g b q D r c) := HS.out.on hb5
      have HR5 : Hid (RowD w5 r5 c5 D2.1) := hr5
      have e9 : devA r5 c5 D2 = #[.slice (some ⟨r5, 0, none⟩) D2.1.length c5, .int .i64 D2.2.1, .bool D2.2.2.1, .int .i64 D2.2.2.2] := rfl
      rw [e9]
      clear hr5 hb5 c0 c1 c2 c3 HS e9
      have HS6 : Hid (SpS w (w5.alloc (.cells #[.slice (some ⟨r5, 0, none⟩) D2.1.length c5, .int .i64 D2.2.1, .bool D2.2.2.1, .int .i64 D2.2.2.2] 28)) g b q D r c) := HS5.out.on (below_new w5 _)
      have HN6 : Hid (Blk (w5.alloc (.cells #[.slice (some ⟨r5, 0, none⟩) D2.1.length c5, .int .i64 D2.2.1, .bool D2.2.2.1, .int .i64 D2.2.2.2] 28)) 28 w5.heap.size #[.slice (some ⟨r5, 0, none⟩) D2.1.length c5, .int .i64 D2.2.1, .bool D2.2.2.1, .int .i64 D2.2.2.2]) := Blk.new _ _ _
      have HR6 : Hid (RowD (w5.alloc (.cells #[.slice (some ⟨r5, 0, none⟩) D2.1.length c5, .int .i64 D2.2.1, .bool D2.2.2.1, .int .i64 D2.2.2.2] 28)) r5 c5 D2.1) := HR5.out.on (below_new w5 _)
      have hh5 : g < w5.heap.size ∧ b < w5.heap.size ∧ q < w5.heap.size := ⟨HS5.out.d.lt.1, HS5.out.d.lt.2, HS5.out.qb.lt⟩
      clear HS5 HR5
      go_wp2_with fail
      refine (CW.out _ HS6.out).mono ?_
      rintro e w7 ⟨rfl, hd7⟩
      have hk7 := KeptS.ofDev hd7
      obtain ⟨q1, q2⟩ := HR6.out.apart (by rw [Hl2.out.2]; decide) HS6.out.d (by rw [Hl2.out.1]; decide)
      have HN7 : Blk w7 28 w5.heap.size #[.slice (some ⟨r5, 0, none⟩) D2.1.length c5, .int .i64 D2.2.1, .bool D2.2.2.1, .int .i64 D2.2.2.2] := HN6.out.keptS hk7 (fun e => by rcases e with e | e <;> omega)
      have HQ7 : Blk w7 28 q (devA r c D) := HS6.out.qb.keptS hk7 (fun e => e.elim HS6.out.ne.1 HS6.out.ne.2)
      have HR7 : Hid (RowD w7 r5 c5 D2.1) := HR6.out.keptS hk7 (fun e => e.elim q1 q2)
      have HD7 : Hid (DevAt w7 g b D2) := hd7.1
      have HB7 : Hid (Below w.heap.size w w7) := HS6.out.bw.trans (hk7.below _ HS6.out.bw.size (fun z hz => by have := HS6.out.lo; rcases hz with hz | hz <;> omega))
      have HLo : Hid (w.heap.size ≤ g ∧ w.heap.size ≤ b ∧ w.heap.size ≤ q) := HS6.out.lo
      have HNe : Hid (q ≠ g ∧ q ≠ b) := HS6.out.ne
      have n0 : w7.cell? ⟨w5.heap.size, 0, none⟩ = some (.slice (some ⟨r5, 0, none⟩) D2.1.length c5) := HN7.cell 0
      have n1 : w7.cell? ⟨w5.heap.size, 1, none⟩ = some (.int .i64 D2.2.1) := HN7.cell 1
      have n2 : w7.cell? ⟨w5.heap.size, 2, none⟩ = some (.bool D2.2.2.1) := HN7.cell 2
      have n3 : w7.cell? ⟨w5.heap.size, 3, none⟩ = some (.int .i64 D2.2.2.2) := HN7.cell 3
      have c0 : w7.cell? ⟨q, 0, none⟩ = some (.slice (some ⟨r, 0, none⟩) D.1.length c) := HQ7.cell 0
      have c1 : w7.cell? ⟨q, 1, none⟩ = some (.int .i64 D.2.1) := HQ7.cell 1
      have c2 : w7.cell? ⟨q, 2, none⟩ = some (.bool D.2.2.1) := HQ7.cell 2
      have c3 : w7.cell? ⟨q, 3, none⟩ = some (.int .i64 D.2.2.2) := HQ7.cell 3
      have f0 := HQ7.free 0
      have f1 := HQ7.free 1
      have f2 := HQ7.free 2
      have f3 := HQ7.free 3
      obtain ⟨w8, hw8⟩ : ∃ w8, (((w7.setCell ⟨q, 0, none⟩ (.slice (some ⟨r5, 0, none⟩) D2.1.length c5)).setCell ⟨q, 1, none⟩ (.int .i64 D2.2.1)).setCell ⟨q, 2, none⟩ (.bool D2.2.2.1)).setCell ⟨q, 3, none⟩ (.int .i64 D2.2.2.2) = w8 := ⟨_, rfl⟩
      have k78 : KeptS (fun z => z = q) w7 w8 := by rw [← hw8]; exact KeptS.ofKept (((((Kept2.refl q none w7).setCell ⟨q, 0, none⟩ rfl _).setCell ⟨q, 1, none⟩ rfl _).setCell ⟨q, 2, none⟩ rfl _).setCell ⟨q, 3, none⟩ rfl _)
      have HS8 : Hid (SpS w w8 g b q D2 r5 c5) := by
        refine ⟨HD7.out.keptS k78 (fun e => HNe.out.1 e.symm) (fun e => HNe.out.2 e.symm), by rw [← hw8]; exact (((HQ7.setAt 0 _).setAt 1 _).setAt 2 _).setAt 3 _, HR7.out.keptS k78 (HR7.out.apartB (by rw [Hl2.out.2]; decide) HQ7 rfl (fun s e => by cases e)), HB7.out.trans (k78.below _ HB7.out.size (fun z hz => by have := HLo.out; omega)), HLo.out⟩
      clear hd7 hk7 HN7 HQ7 HR7 HD7 HB7 HS6 HN6 HR6 k78 q1 q2 CW
      go_wp2_with fail
      refine ⟨⟨k + 1, D2, r5, c5, by omega, by go_num, HS8, HO2, HV2⟩, ?_⟩
      simp [intOf]; omega
    · as_aux_lemma =>
        obtain rfl : k = 8 := by omega
        have c0 : wr.cell? ⟨q, 0, none⟩ = some (.slice (some ⟨r, 0, none⟩) D.1.length c) := HS.out.qb.cell 0
        have c1 : wr.cell? ⟨q, 1, none⟩ = some (.int .i64 D.2.1) := HS.out.qb.cell 1
        have c2 : wr.cell? ⟨q, 2, none⟩ = some (.bool D.2.2.1) := HS.out.qb.cell 2
        have c3 : wr.cell? ⟨q, 3, none⟩ = some (.int .i64 D.2.2.2) := HS.out.qb.cell 3
        have hbX := below_new wr (.cells #[.pointer (some ⟨g, 0, none⟩), .pointer none, .slice (some ⟨r, 0, none⟩) D.1.length c, .int .i64 D.2.1, .bool D.2.2.1, .int .i64 D.2.2.2, .string ⟨#[]⟩, .slice none 0 0, .int .i64 0, .string ⟨#[]⟩] 32)
        have HX : Hid (SdP (wr.alloc (.cells #[.pointer (some ⟨g, 0, none⟩), .pointer none, .slice (some ⟨r, 0, none⟩) D.1.length c, .int .i64 D.2.1, .bool D.2.2.1, .int .i64 D.2.2.2, .string ⟨#[]⟩, .slice none 0 0, .int .i64 0, .string ⟨#[]⟩] 32)) wr.heap.size g b (.pointer none) D zeroT r c none 0) := ⟨Blk.new _ _ _, HS.out.d.on hbX, HS.out.r.on hbX⟩
        have HBX : Hid (Below w.heap.size w (wr.alloc (.cells #[.pointer (some ⟨g, 0, none⟩), .pointer none, .slice (some ⟨r, 0, none⟩) D.1.length c, .int .i64 D.2.1, .bool D.2.2.1, .int .i64 D.2.2.2, .string ⟨#[]⟩, .slice none 0 0, .int .i64 0, .string ⟨#[]⟩] 32))) := below_step HS.out.bw (Nat.le_refl _) hbX
        have HLo : Hid (w.heap.size ≤ g ∧ w.heap.size ≤ b ∧ w.heap.size ≤ wr.heap.size) := ⟨HS.out.lo.1, HS.out.lo.2.1, HS.out.bw.size⟩
        have Hl : Hid (D.1.length = 8) := HV.out.len
        have HV8 : Hid (DvO 8 8 (onB D)) := ⟨HV.out.len, HV.out.n0, HV.out.n1, by show (-1 : Int) ≤ -1; omega, by show (-1 : Int) ≤ _; omega⟩
        have HM8 : Hid (StM 8 (openP D.1)) := by
          have h9 := stM_open D.1 (by rw [Hl.out]; decide) HS.out.d.all
          rw [Hl.out] at h9
          exact h9
        clear hbX HS HO HV
        go_wp2_with fail
        refine (sd_opens wr.heap.size g b (.pointer none) D zeroT r c none 0 _ HX.out (by rw [Hl.out]; decide) (by rw [Hl.out]; decide) (fun W' e => by
          have h1 := HBX.out.trans (e.below _ HBX.out.size (fun z hz => by have := HLo.out; rcases hz with hz | hz | hz <;> omega))
          exact ⟨HG.out.1.below h1, HG.out.2.below h1⟩)).mono ?_
        rintro e w10 ⟨rfl, k10, gs, r4, c4, a4, cx4, B4, hs4, hg4⟩
        obtain ⟨x, hx⟩ : ∃ x, wr.heap.size = x := ⟨_, rfl⟩
        rw [hx] at hs4 HLo k10 ⊢
        have HB10 : Hid (Below w.heap.size w w10) := HBX.out.trans (k10.below _ HBX.out.size (fun z hz => by have := HLo.out; rcases hz with hz | hz | hz <;> omega))
        have Hgs : Hid (w.heap.size ≤ gs) := Nat.le_trans HBX.out.size hg4
        have HS10 : Hid (SdS w10 x gs g b (onB D) (openP D.1) r4 c4 a4 cx4 B4) := hs4
        have hG10 : GlobB w10 ∧ GlobK w10 := ⟨HG.out.1.below HB10.out, HG.out.2.below HB10.out⟩
        have hNe := hs4.ne
        have CL := slay_any gs g b (fun z => z = gs) (openP D.1) (onB D) 8 8 t w10 hs4.s hs4.d HV8.out HM8.out.t0 (by decide) (by decide) (by decide) hNe.2.2.2.1 hNe.2.2.2.2 hG10.1 hG10.2
        have l3 := lay_three (onB D) (openP D.1) t
        have hlay := spoilt_lay (onB D) (openP D.1) t
        have hst := lay_still (onB D) (openP D.1) t rfl
        have hvl := HV8.out.lay (openP D.1) t (by decide)
        have hon := lay_onD (onB D) (openP D.1) t ⟨rfl, rfl⟩
        obtain ⟨⟨D1, X1, z⟩, hq9⟩ : ∃ z, layS (onB D) (openP D.1) t = z := ⟨_, rfl⟩
        rw [hq9] at CL l3 hst hvl hon
        simp only at CL l3 hst hvl hon
        have HOn : Hid (OnD D1) := hon
        have k1 : w10.cell? ⟨x, 1, none⟩ = some (.pointer (some ⟨gs, 0, none⟩)) := hs4.bl.cell 1
        have HX10 : Hid (Blk w10 32 x (sideC g (.pointer (some ⟨gs, 0, none⟩)) (onB D) (openP D.1) r4 c4 a4 cx4)) := hs4.bl
        have HNe : Hid (x ≠ gs ∧ x ≠ g ∧ x ≠ b ∧ gs ≠ g ∧ gs ≠ b) := hNe
        have Hq9 : Hid (layS (onB D) (openP D.1) t = (D1, X1, z)) := hq9
        have Hlay : Hid (∀ D1 X1, layS (onB D) (openP D.1) t = (D1, X1, 0) → _) := fun D1 X1 hh => hlay D1 X1 Hl.out HM8.out.t0 hh
        have Hst : Hid (z ≠ 170 → D1.2.2.1 = false) := hst
        have Hvl : Hid (DvO 8 (8 + 1024) D1) := hvl
        have Hl3 : Hid (z = 0 ∨ z = 2 ∨ z = 170) := l3
        clear hs4 k10 hg4 hG10 hNe l3 hlay hst hvl hon hq9 hx HX HBX HS10 c0 c1 c2 c3
        go_wp2_with fail
        refine CL.mono ?_
        clear CL
        rintro e w11 ⟨rfl, a1, a2, a3⟩
        have HB11 : Hid (Below w.heap.size w w11) := HB10.out.trans (a2.below _ HB10.out.size (fun z hz => by have := HLo.out; have := Hgs.out; rcases hz with hz | hz | hz <;> omega))
        have HD11 : Hid (DevAt w11 g b D1) := a1
        have HX11 : Hid (Blk w11 32 x (sideC g (.pointer (some ⟨gs, 0, none⟩)) (onB D) (openP D.1) r4 c4 a4 cx4)) := HX10.out.keptS a2 (fun e => Or.elim e HNe.out.1 (fun e => Or.elim e HNe.out.2.1 HNe.out.2.2.1))
        have HC11 : Hid (z ≠ 170 → StC w11 (fun k => k = gs) gs g X1) := a3
        clear a1 a2 a3 HX10 k1 HB10
        by_cases hz0 : z = 0
        · subst hz0
          obtain ⟨turn, rfl, t1, t2, t3, t4, t5⟩ := Hlay.out D1 X1 Hq9.out
          have HT5 : Hid (∀ i, i < (txB t).size → bt (strL D1.1 (turn % 2 * 4 + 1 + i / 64)) (i % 64) = bt (txB t) i) := t5
          have HT4 : Hid (strL D1.1 (turn % 2 * 4) = hdB (turn : Int) (txB t)) := t4
          have HT3 : Hid ((txB t).size ≤ 192 ∧ 1 ≤ turn) := ⟨t3, t1⟩
          have HS11 : Hid (StC w11 (fun k => k = gs) gs g (t, [], (turn : Int), txB t)) := HC11.out (by decide)
          have HO11 : Hid (D1.2.2.1 = false) := Hst.out (by decide)
          have CT : Hid (Calls _ _ _ _ _) := sturn_any gs g _ _ w11 HS11.out
          simp only at CT
          have k1 : w11.cell? ⟨x, 1, none⟩ = some (.pointer (some ⟨gs, 0, none⟩)) := HX11.out.cell 1
          have r9 : Int.tmod (turn : Int) 2 = ((turn % 2 : Nat) : Int) := by rw [show (2 : Int) = ((2 : Nat) : Int) from rfl, ← Int.ofNat_tmod]
          obtain ⟨u, hu⟩ : ∃ u, turn % 2 = u := ⟨_, rfl⟩
          have hu2 : u < 2 := by omega
          have Hu : Hid (turn % 2 = u) := hu
          rw [hu] at r9
          have hsz : (hdB (turn : Int) (txB t)).size = 64 := hdB_size _ _
          obtain ⟨H, hH⟩ : ∃ H, hdB (turn : Int) (txB t) = H := ⟨_, rfl⟩
          have HH : Hid (hdB (turn : Int) (txB t) = H) := hH
          rw [hH] at hsz
          have CD : Hid (∀ W, W = w11 → Calls Tryz.prog 14 #[.pointer (some ⟨g, 0, none⟩), .int .i64 ((u : Int) * 4)] W fun e w' => e = .returned (.tuple #[.string H, .int .i64 0]) ∧ w' = W) := fun W e => by
            subst e
            have h9 := dread_any g b D1 (u * 4) _ HD11.out (by rw [Hvl.out.len]; omega)
            have e9 : readB D1 (u * 4) = (H, 0) := by unfold readB; rw [HO11.out, ← Hu.out, HT4.out, HH.out]; rfl
            rw [e9, show ((u * 4 : Nat) : Int) = (u : Int) * 4 by omega] at h9
            exact h9
          obtain ⟨cp, w12, hcv, hcp, R12, hb12⟩ := bytes_new (P := Tryz.prog) w11 9 43 5 H Tryz.underlying9 Tryz.underlying43 Tryz.underlying5
          rw [hsz] at hcv hcp R12
          obtain ⟨m, hm, hm2⟩ : ∃ m : Nat, bits .and .i64 y 255 = (m : Int) ∧ m < 256 := ⟨(y % 256).toNat, by rw [i64_mask y 8 (by decide) 255 (by decide)]; omega, by omega⟩
          have r3 : Int.tmod (m : Int) 14 = ((m % 14 : Nat) : Int) := by rw [show (14 : Int) = ((14 : Nat) : Int) from rfl, ← Int.ofNat_tmod]
          obtain ⟨jj, hjj⟩ : ∃ jj, m % 14 = jj := ⟨_, rfl⟩
          have hj14 : jj < 14 := by omega
          rw [hjj] at r3
          clear t1 t2 t3 t4 t5 hu hH hjj Hlay Hq9 Hst Hl3 HC11 HX11
          go_wp2_with fail
          refine CT.out.mono ?_
          rintro e w13 ⟨rfl, hw13⟩
          subst hw13
          go_wp2_with fail
          refine (CD.out _ rfl).mono ?_
          rintro e w14 ⟨rfl, hw14⟩
          subst hw14
          clear CT CD
          obtain ⟨s, hand, hs8⟩ : ∃ s : Nat, bits .and .i64 (y / 256) 7 = (s : Int) ∧ s < 8 := ⟨(y / 256 % 8).toNat, by rw [i64_mask (y / 256) 3 (by decide) 7 (by decide)]; omega, by omega⟩
          obtain ⟨cc, hcc, hcc0, hshl⟩ : ∃ c : Nat, c < 256 ∧ c ≠ 0 ∧ IntKind.u8.wrap ((2 : Int) ^ s) = (c : Int) := ⟨_, bit_s s hs8⟩
          obtain ⟨bb, hbb⟩ : ∃ bb, w14.heap.size = bb := ⟨_, rfl⟩
          rw [hbb] at hcv R12
          have HR12 : Hid (Row8 w12 bb 64 (bt H)) := R12
          have Hb12 : Hid (Below w14.heap.size w14 w12 ∧ w14.heap.size ≤ bb) := ⟨hb12, by omega⟩
          have Hcc : Hid (cc < 256 ∧ cc ≠ 0) := ⟨hcc, hcc0⟩
          clear R12 hb12 hcc hcc0 hbb
          by_cases h6 : 5 < jj
          · have s0 : (5 : Int) < (jj : Int) := by omega
            have j1 : (jj : Int) + 6 < 64 := by omega
            have j0 : (0 : Int) ≤ (jj : Int) + 6 := by omega
            have jn : ((jj : Int) + 6).toNat = jj + 6 := by omega
            obtain ⟨j, hj⟩ : ∃ j, jj + 6 = j := ⟨_, rfl⟩
            have HJ : Hid (j < 6 ∨ (12 ≤ j ∧ j < 20)) := by show _ ∨ _; omega
            have c2 := HR12.out.cell (jj + 6) (by omega)
            have f2 := HR12.out.free (jj + 6) (by omega)
            obtain ⟨XX, hXX⟩ : ∃ XX, bt H (jj + 6) = XX := ⟨_, rfl⟩
            rw [hXX] at c2
            have hxr : bits .xor .u8 (XX : Int) (cc : Int) = ((XX ^^^ cc : Nat) : Int) := u8_xor_s XX cc (by rw [← hXX]; exact bt_lt H _) Hcc.out.1
            obtain ⟨w15, hw15⟩ : ∃ v, Hid (v = (w12.setCell ⟨bb, jj + 6, none⟩ (.int .u8 ((XX ^^^ cc : Nat) : Int))).drew) := ⟨_, rfl⟩
            have R15 : Row8 w15 bb 64 (bentF H (jj + 6) (bt H (jj + 6) ^^^ cc)) := by rw [hw15.out, ← hXX]; exact Row8.set (w := w12) HR12.out (jj + 6) (bt H (jj + 6) ^^^ cc)
            have hb15 : Below w14.heap.size w14 w15 := by rw [hw15.out]; exact (Hb12.out.1.setCell (p := ⟨bb, jj + 6, none⟩) Hb12.out.2 _).drew
            rw [hj] at R15
            have kc := Row8.conv (P := Tryz.prog) (w := w15) R15 (bentF_lt H j cc Hcc.out.1) 64 cp (Nat.le_refl _) 43 9 Tryz.underlying43 Tryz.underlying5 Tryz.underlying9
            obtain ⟨H2, HH2⟩ : ∃ H2, Hid (bentS H j cc = H2) := ⟨_, rfl⟩
            rw [show (⟨(bytesOf 64 (bentF H j (bt H j ^^^ cc))).toArray⟩ : ByteArray) = H2 by rw [← HH2.out, ← hsz]; rfl] at kc
            have hH2 : H2.size = 64 := by rw [← HH2.out, bentS_size]; exact hsz
            have HD15 : Hid (DevAt w15 g b D1) := HD11.out.on hb15
            have HB15 : Hid (Below w.heap.size w w15) := below_step HB11.out (Nat.le_refl _) hb15
            obtain ⟨on1, on2⟩ := writeB_on D1 (u * 4) H2 HOn.out
            have hD2 : (writeB D1 (u * 4) H2).1.1 = D1.1.set (u * 4) H2 := writeB_yes D1 (u * 4) H2 on1
            have CW : Hid (Calls _ _ _ _ _) := dwriteB_any g b D1 8 (8 + 1024) (u * 4) H2 w15 HD15.out Hvl.out (by decide) (by omega) hH2
            rw [on1, show ((u * 4 : Nat) : Int) = (u : Int) * 4 by omega] at CW
            have HSp : Hid ((openP (D1.1.set (u * 4) H2)).2.2.1 ≠ (turn : Int)) := by
              have h9 := spoilt_open D1.1 turn j cc t Hvl.out.len HD11.out.all HT3.out.2 HT3.out.1 HT4.out HT5.out HJ.out Hcc.out.1 Hcc.out.2
              rw [HH.out, HH2.out, Hu.out] at h9
              exact h9
            obtain ⟨D2, hD2q⟩ : ∃ D2, (writeB D1 (u * 4) H2).1 = D2 := ⟨_, rfl⟩
            rw [hD2q] at CW on2 hD2
            have Hl2 : Hid (D2.1.length = 8 ∧ D2.2.2.1 = false ∧ openP D2.1 = openP (D1.1.set (u * 4) H2)) := ⟨by rw [hD2, List.length_set]; exact Hvl.out.len, on2.1, by rw [hD2]⟩
            clear R15 hb15 on1 on2 hD2 hD2q HD11 HB11 HT3 HT4 HT5 HR12 Hb12 hj hXX
            go_wp2_with fail
            refine wp_region_noPanic ?_
            refine wp_region_held_drew (S := fun _ => True) (by kernel_rfl) (by first | exact trivial | assumption | exact ⟨by assumption, by assumption⟩) (fun hHeld => ?_)
            refine take_at (i := 0) (v := ?_) rfl rfl (by kernel_rfl) (by kernel_rfl) (by kernel_rfl) (fun _ _ _ h => h) (Or.inl ⟨by rfl, ?_⟩) (by assumption) ?_
            rotate_left
            · intro w hSw; (try dsimp only at hSw); go_simp; try with_reducible rfl
            try simp only [Act.put, List.setIfInBounds_toArray, List.set_cons_zero, List.set_cons_succ]
            refine take_at (i := 1) (v := ?_) rfl rfl (by kernel_rfl) (by kernel_rfl) (by kernel_rfl) (fun _ _ _ h => h) (Or.inl ⟨by rfl, ?_⟩) (by assumption) ?_
            rotate_left
            · intro w hSw; (try dsimp only at hSw); go_simp; try with_reducible rfl
            try simp only [Act.put, List.setIfInBounds_toArray, List.set_cons_zero, List.set_cons_succ]
            refine take_at (i := 2) (v := ?_) rfl rfl (by kernel_rfl) (by kernel_rfl) (by kernel_rfl) (fun _ _ _ h => h) (Or.inl ⟨by rfl, ?_⟩) (by assumption) ?_
            rotate_left
            · intro w hSw; (try dsimp only at hSw); go_simp; try with_reducible rfl
            try simp only [Act.put, List.setIfInBounds_toArray, List.set_cons_zero, List.set_cons_succ]
            refine take_at (i := 3) (v := ?_) rfl rfl (by kernel_rfl) (by kernel_rfl) (by kernel_rfl) (fun _ _ _ h => h) (Or.inl ⟨by rfl, ?_⟩) (by assumption) ?_
            rotate_left
            · intro w hSw; (try dsimp only at hSw); go_simp; try with_reducible rfl
            try simp only [Act.put, List.setIfInBounds_toArray, List.set_cons_zero, List.set_cons_succ]
            refine take_at (i := 4) (v := ?_) rfl rfl (by kernel_rfl) (by kernel_rfl) (by kernel_rfl) (fun _ _ _ h => h) (Or.inl ⟨by rfl, ?_⟩) (by assumption) ?_
            rotate_left
            · intro w hSw; (try dsimp only at hSw); go_simp; try with_reducible rfl
            try simp only [Act.put, List.setIfInBounds_toArray, List.set_cons_zero, List.set_cons_succ]
            refine take_at (i := 6) (v := ?_) rfl rfl (by kernel_rfl) (by kernel_rfl) (by kernel_rfl) (fun _ _ _ h => h) (Or.inl ⟨by rfl, ?_⟩) (by assumption) ?_
            rotate_left
            · intro w hSw; (try dsimp only at hSw); go_simp; try with_reducible rfl
            try simp only [Act.put, List.setIfInBounds_toArray, List.set_cons_zero, List.set_cons_succ]
            refine take_at (i := 7) (v := ?_) rfl rfl (by kernel_rfl) (by kernel_rfl) (by kernel_rfl) (fun _ _ _ h => h) (Or.inl ⟨by rfl, ?_⟩) (by assumption) ?_
            rotate_left
            · intro w hSw; (try dsimp only at hSw); go_simp; try with_reducible rfl
            try simp only [Act.put, List.setIfInBounds_toArray, List.set_cons_zero, List.set_cons_succ]
            refine take_at (i := 8) (v := ?_) rfl rfl (by kernel_rfl) (by kernel_rfl) (by kernel_rfl) (fun _ _ _ h => h) (Or.inl ⟨by rfl, ?_⟩) (by assumption) ?_
            rotate_left
            · intro w hSw; (try dsimp only at hSw); go_simp; try with_reducible rfl
            try simp only [Act.put, List.setIfInBounds_toArray, List.set_cons_zero, List.set_cons_succ]
            refine take_at (i := 9) (v := ?_) rfl rfl (by kernel_rfl) (by kernel_rfl) (by kernel_rfl) (fun _ _ _ h => h) (Or.inl ⟨by rfl, ?_⟩) (by assumption) ?_
            rotate_left
            · intro w hSw; (try dsimp only at hSw); go_simp; try with_reducible rfl
            try simp only [Act.put, List.setIfInBounds_toArray, List.set_cons_zero, List.set_cons_succ]
            refine wpAnyH_ready (rs := [5]) (by kernel_rfl) (by simp) ?_
            refine AllReadyH.cons rfl (fun K hK => ?_) AllReadyH.nil
            go_simp
            refine hK.out _ _ trivial (fun hHeld => ?_)
            clear hK K
            refine take_at (i := 10) (v := ?_) rfl rfl (by kernel_rfl) (by kernel_rfl) (by kernel_rfl) (fun _ _ _ h => h) (Or.inl ⟨by rfl, ?_⟩) (by assumption) ?_
            rotate_left
            · intro w hSw; (try dsimp only at hSw); go_simp; try with_reducible rfl
            try simp only [Act.put, List.setIfInBounds_toArray, List.set_cons_zero, List.set_cons_succ]
            refine take_at (i := 11) (v := ?_) rfl rfl (by kernel_rfl) (by kernel_rfl) (by kernel_rfl) (fun _ _ _ h => h) (Or.inl ⟨by rfl, ?_⟩) (by assumption) ?_
            rotate_left
            · intro w hSw; (try dsimp only at hSw); go_simp; try with_reducible rfl
            try simp only [Act.put, List.setIfInBounds_toArray, List.set_cons_zero, List.set_cons_succ]
            refine wpAnyH_ready (rs := [12]) (by kernel_rfl) (by simp) ?_
            refine AllReadyH.cons rfl (fun K hK => ?_) AllReadyH.nil
            go_simp
            refine hK.out _ _ trivial (fun hHeld => ?_)
            clear hK K
            refine wpAnyH_done (by kernel_rfl) (NoPanic.normal ?_) _
            rw [← hw15.out]
            clear hw15 c2 f2 hcv
            go_wp2_with fail
            refine CW.out.mono ?_
            rintro e w16 ⟨rfl, hd16⟩
            have HB16 : Hid (Below w.heap.size w w16) := HB15.out.trans (hd16.below _ HB15.out.size HLo.out.1 HLo.out.2.1)
            have HD16 : Hid (DevAt w16 g b D2) := hd16.1
            clear hd16 CW kc HB15 HD15
            have CO : Hid (Calls _ _ _ _ _) := open18_any g b D2 w16 HD16.out (by rw [Hl2.out.1]; decide) (by rw [Hl2.out.1]; decide) Hl2.out.2.1 (HG.out.1.below HB16.out) (HG.out.2.below HB16.out)
            rw [Hl2.out.2.2] at CO
            generalize openP (D1.1.set (u * 4) H2) = Y at *
            go_wp2_with fail
            refine CO.out.mono ?_
            rintro e w17 ⟨gy, Sy, rfl, hs17, hn17, hb17⟩
            have HB17 : Hid (Below w.heap.size w w17) := below_step HB16.out (Nat.le_refl _) hb17
            have CT2 : Hid (Calls _ _ _ _ _) := sturn_any gy g Sy Y w17 hs17
            have qt : (Y.2.2.1 != (turn : Int)) = true := by rw [bne_iff_ne]; exact HSp.out
            clear hs17 hn17 hb17 CO HB16 HD16
            go_wp2_with fail
            refine CT2.out.mono ?_
            rintro e w18 ⟨rfl, hw18⟩
            subst hw18
            clear CT2
            go_wp2_with fail
            refine (awake18_any _ (HC.out.move HB17.out)).mono ?_
            rintro e w19 ⟨rfl, hb19⟩
            have hB := below_step HB17.out (Nat.le_refl _) hb19
            clear hb19 HB17
            go_wp2
            go_ret
            exact ⟨rfl, hB⟩
          · have s0 : ¬ ((5 : Int) < (jj : Int)) := by omega
            have j1 : (jj : Int) < 64 := by omega
            obtain ⟨j, hj⟩ : ∃ j, jj = j := ⟨_, rfl⟩
            have HJ : Hid (j < 6 ∨ (12 ≤ j ∧ j < 20)) := by show _ ∨ _; omega
            have c2 := HR12.out.cell jj (by omega)
            have f2 := HR12.out.free jj (by omega)
            obtain ⟨XX, hXX⟩ : ∃ XX, bt H jj = XX := ⟨_, rfl⟩
            rw [hXX] at c2
            have hxr : bits .xor .u8 (XX : Int) (cc : Int) = ((XX ^^^ cc : Nat) : Int) := u8_xor_s XX cc (by rw [← hXX]; exact bt_lt H _) Hcc.out.1
            obtain ⟨w15, hw15⟩ : ∃ v, Hid (v = (w12.setCell ⟨bb, jj, none⟩ (.int .u8 ((XX ^^^ cc : Nat) : Int))).drew) := ⟨_, rfl⟩
            have R15 : Row8 w15 bb 64 (bentF H jj (bt H jj ^^^ cc)) := by rw [hw15.out, ← hXX]; exact Row8.set (w := w12) HR12.out jj (bt H jj ^^^ cc)
            have hb15 : Below w14.heap.size w14 w15 := by rw [hw15.out]; exact (Hb12.out.1.setCell (p := ⟨bb, jj, none⟩) Hb12.out.2 _).drew
            rw [hj] at R15
            have kc := Row8.conv (P := Tryz.prog) (w := w15) R15 (bentF_lt H j cc Hcc.out.1) 64 cp (Nat.le_refl _) 43 9 Tryz.underlying43 Tryz.underlying5 Tryz.underlying9
            obtain ⟨H2, HH2⟩ : ∃ H2, Hid (bentS H j cc = H2) := ⟨_, rfl⟩
            rw [show (⟨(bytesOf 64 (bentF H j (bt H j ^^^ cc))).toArray⟩ : ByteArray) = H2 by rw [← HH2.out, ← hsz]; rfl] at kc
            have hH2 : H2.size = 64 := by rw [← HH2.out, bentS_size]; exact hsz
            have HD15 : Hid (DevAt w15 g b D1) := HD11.out.on hb15
            have HB15 : Hid (Below w.heap.size w w15) := below_step HB11.out (Nat.le_refl _) hb15
            obtain ⟨on1, on2⟩ := writeB_on D1 (u * 4) H2 HOn.out
            have hD2 : (writeB D1 (u * 4) H2).1.1 = D1.1.set (u * 4) H2 := writeB_yes D1 (u * 4) H2 on1
            have CW : Hid (Calls _ _ _ _ _) := dwriteB_any g b D1 8 (8 + 1024) (u * 4) H2 w15 HD15.out Hvl.out (by decide) (by omega) hH2
            rw [on1, show ((u * 4 : Nat) : Int) = (u : Int) * 4 by omega] at CW
            have HSp : Hid ((openP (D1.1.set (u * 4) H2)).2.2.1 ≠ (turn : Int)) := by
              have h9 := spoilt_open D1.1 turn j cc t Hvl.out.len HD11.out.all HT3.out.2 HT3.out.1 HT4.out HT5.out HJ.out Hcc.out.1 Hcc.out.2
              rw [HH.out, HH2.out, Hu.out] at h9
              exact h9
            obtain ⟨D2, hD2q⟩ : ∃ D2, (writeB D1 (u * 4) H2).1 = D2 := ⟨_, rfl⟩
            rw [hD2q] at CW on2 hD2
            have Hl2 : Hid (D2.1.length = 8 ∧ D2.2.2.1 = false ∧ openP D2.1 = openP (D1.1.set (u * 4) H2)) := ⟨by rw [hD2, List.length_set]; exact Hvl.out.len, on2.1, by rw [hD2]⟩
            clear R15 hb15 on1 on2 hD2 hD2q HD11 HB11 HT3 HT4 HT5 HR12 Hb12 hj hXX
            go_wp2_with fail
            refine wp_region_noPanic ?_
            refine wp_region_held_drew (S := fun _ => True) (by kernel_rfl) (by first | exact trivial | assumption | exact ⟨by assumption, by assumption⟩) (fun hHeld => ?_)
            refine take_at (i := 0) (v := ?_) rfl rfl (by kernel_rfl) (by kernel_rfl) (by kernel_rfl) (fun _ _ _ h => h) (Or.inl ⟨by rfl, ?_⟩) (by assumption) ?_
            rotate_left
            · intro w hSw; (try dsimp only at hSw); go_simp; try with_reducible rfl
            try simp only [Act.put, List.setIfInBounds_toArray, List.set_cons_zero, List.set_cons_succ]
            refine take_at (i := 1) (v := ?_) rfl rfl (by kernel_rfl) (by kernel_rfl) (by kernel_rfl) (fun _ _ _ h => h) (Or.inl ⟨by rfl, ?_⟩) (by assumption) ?_
            rotate_left
            · intro w hSw; (try dsimp only at hSw); go_simp; try with_reducible rfl
            try simp only [Act.put, List.setIfInBounds_toArray, List.set_cons_zero, List.set_cons_succ]
            refine take_at (i := 2) (v := ?_) rfl rfl (by kernel_rfl) (by kernel_rfl) (by kernel_rfl) (fun _ _ _ h => h) (Or.inl ⟨by rfl, ?_⟩) (by assumption) ?_
            rotate_left
            · intro w hSw; (try dsimp only at hSw); go_simp; try with_reducible rfl
            try simp only [Act.put, List.setIfInBounds_toArray, List.set_cons_zero, List.set_cons_succ]
            refine take_at (i := 3) (v := ?_) rfl rfl (by kernel_rfl) (by kernel_rfl) (by kernel_rfl) (fun _ _ _ h => h) (Or.inl ⟨by rfl, ?_⟩) (by assumption) ?_
            rotate_left
            · intro w hSw; (try dsimp only at hSw); go_simp; try with_reducible rfl
            try simp only [Act.put, List.setIfInBounds_toArray, List.set_cons_zero, List.set_cons_succ]
            refine take_at (i := 4) (v := ?_) rfl rfl (by kernel_rfl) (by kernel_rfl) (by kernel_rfl) (fun _ _ _ h => h) (Or.inl ⟨by rfl, ?_⟩) (by assumption) ?_
            rotate_left
            · intro w hSw; (try dsimp only at hSw); go_simp; try with_reducible rfl
            try simp only [Act.put, List.setIfInBounds_toArray, List.set_cons_zero, List.set_cons_succ]
            refine take_at (i := 6) (v := ?_) rfl rfl (by kernel_rfl) (by kernel_rfl) (by kernel_rfl) (fun _ _ _ h => h) (Or.inl ⟨by rfl, ?_⟩) (by assumption) ?_
            rotate_left
            · intro w hSw; (try dsimp only at hSw); go_simp; try with_reducible rfl
            try simp only [Act.put, List.setIfInBounds_toArray, List.set_cons_zero, List.set_cons_succ]
            refine take_at (i := 7) (v := ?_) rfl rfl (by kernel_rfl) (by kernel_rfl) (by kernel_rfl) (fun _ _ _ h => h) (Or.inl ⟨by rfl, ?_⟩) (by assumption) ?_
            rotate_left
            · intro w hSw; (try dsimp only at hSw); go_simp; try with_reducible rfl
            try simp only [Act.put, List.setIfInBounds_toArray, List.set_cons_zero, List.set_cons_succ]
            refine take_at (i := 8) (v := ?_) rfl rfl (by kernel_rfl) (by kernel_rfl) (by kernel_rfl) (fun _ _ _ h => h) (Or.inl ⟨by rfl, ?_⟩) (by assumption) ?_
            rotate_left
            · intro w hSw; (try dsimp only at hSw); go_simp; try with_reducible rfl
            try simp only [Act.put, List.setIfInBounds_toArray, List.set_cons_zero, List.set_cons_succ]
            refine take_at (i := 9) (v := ?_) rfl rfl (by kernel_rfl) (by kernel_rfl) (by kernel_rfl) (fun _ _ _ h => h) (Or.inl ⟨by rfl, ?_⟩) (by assumption) ?_
            rotate_left
            · intro w hSw; (try dsimp only at hSw); go_simp; try with_reducible rfl
            try simp only [Act.put, List.setIfInBounds_toArray, List.set_cons_zero, List.set_cons_succ]
            refine wpAnyH_ready (rs := [5]) (by kernel_rfl) (by simp) ?_
            refine AllReadyH.cons rfl (fun K hK => ?_) AllReadyH.nil
            go_simp
            refine hK.out _ _ trivial (fun hHeld => ?_)
            clear hK K
            refine take_at (i := 10) (v := ?_) rfl rfl (by kernel_rfl) (by kernel_rfl) (by kernel_rfl) (fun _ _ _ h => h) (Or.inl ⟨by rfl, ?_⟩) (by assumption) ?_
            rotate_left
            · intro w hSw; (try dsimp only at hSw); go_simp; try with_reducible rfl
            try simp only [Act.put, List.setIfInBounds_toArray, List.set_cons_zero, List.set_cons_succ]
            refine take_at (i := 11) (v := ?_) rfl rfl (by kernel_rfl) (by kernel_rfl) (by kernel_rfl) (fun _ _ _ h => h) (Or.inl ⟨by rfl, ?_⟩) (by assumption) ?_
            rotate_left
            · intro w hSw; (try dsimp only at hSw); go_simp; try with_reducible rfl
            try simp only [Act.put, List.setIfInBounds_toArray, List.set_cons_zero, List.set_cons_succ]
            refine wpAnyH_ready (rs := [12]) (by kernel_rfl) (by simp) ?_
            refine AllReadyH.cons rfl (fun K hK => ?_) AllReadyH.nil
            go_simp
            refine hK.out _ _ trivial (fun hHeld => ?_)
            clear hK K
            refine wpAnyH_done (by kernel_rfl) (NoPanic.normal ?_) _
            rw [← hw15.out]
            clear hw15 c2 f2 hcv
            go_wp2_with fail
            refine CW.out.mono ?_
            rintro e w16 ⟨rfl, hd16⟩
            have HB16 : Hid (Below w.heap.size w w16) := HB15.out.trans (hd16.below _ HB15.out.size HLo.out.1 HLo.out.2.1)
            have HD16 : Hid (DevAt w16 g b D2) := hd16.1
            clear hd16 CW kc HB15 HD15
            have CO : Hid (Calls _ _ _ _ _) := open18_any g b D2 w16 HD16.out (by rw [Hl2.out.1]; decide) (by rw [Hl2.out.1]; decide) Hl2.out.2.1 (HG.out.1.below HB16.out) (HG.out.2.below HB16.out)
            rw [Hl2.out.2.2] at CO
            generalize openP (D1.1.set (u * 4) H2) = Y at *
            go_wp2_with fail
            refine CO.out.mono ?_
            rintro e w17 ⟨gy, Sy, rfl, hs17, hn17, hb17⟩
            have HB17 : Hid (Below w.heap.size w w17) := below_step HB16.out (Nat.le_refl _) hb17
            have CT2 : Hid (Calls _ _ _ _ _) := sturn_any gy g Sy Y w17 hs17
            have qt : (Y.2.2.1 != (turn : Int)) = true := by rw [bne_iff_ne]; exact HSp.out
            clear hs17 hn17 hb17 CO HB16 HD16
            go_wp2_with fail
            refine CT2.out.mono ?_
            rintro e w18 ⟨rfl, hw18⟩
            subst hw18
            clear CT2
            go_wp2_with fail
            refine (awake18_any _ (HC.out.move HB17.out)).mono ?_
            rintro e w19 ⟨rfl, hb19⟩
            have hB := below_step HB17.out (Nat.le_refl _) hb19
            clear hb19 HB17
            go_wp2
            go_ret
            exact ⟨rfl, hB⟩
        · have q9 : (z != 0) = true := by rw [bne_iff_ne]; exact hz0
          go_wp2_with fail
          refine (awake18_any _ (HC.out.move HB11.out)).mono ?_
          rintro e w12 ⟨rfl, hb12⟩
          have hB := below_step HB11.out (Nat.le_refl _) hb12
          go_wp2
          go_ret
          exact ⟨rfl, hB⟩

end Go.Proofs.YtaakmcihpdbilaaGreatDoor
