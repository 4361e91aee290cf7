/- GroupBytes: the walk. -/
import Derived.Test.YtabhkebkbidfhaaDoorGpW
import Derived.Test.YtabhkebkbidfhaaDoorRGpG
import Derived.Test.YtabhkebkbidfhaaDoorRGpH
import Derived.Test.YtabhkebkbidfhaaDoorOpenG
namespace Go.Proofs.YtabhkebkbidfhaaDoor
open Go.RowKit
set_option maxRecDepth 100000
set_option linter.unusedSimpArgs false
set_option linter.unusedVariables false
set_option maxRecDepth 100000

theorem light20_any (G : GrpT) (a : Option Addr) (c : Nat) (w : World) : Calls Tryd.prog 8 #[.agg (grpA G a c)] w fun e w' => e = .returned (.bool (decide ((G.2.1.length : Int) ≤ 20))) ∧ Below w.heap.size w w' := by
  obtain ⟨Ep, l, Op⟩ := G
  simp only [grpA]
  obtain ⟨n, hn⟩ : ∃ n, l.length = n := ⟨_, rfl⟩
  rw [hn]
  have HB : Hid (Below w.heap.size w (w.alloc (.cells #[.int .i64 Ep, .slice a n c, .int .i64 Op] 24))) := below_new _ _
  clear hn
  go_enter Tryd.func8, Tryd.ntmps8
  go_wp2_with fail
  go_ret
  exact ⟨rfl, HB.out⟩

theorem takeGC_len (s : ByteArray) : (takeGC s).1.2.1.length ≤ 6 := by
  unfold takeGC
  by_cases hc : (putGC (readG s)).2 ≠ 0 ∨ (putGC (readG s)).1 ≠ s
  · rw [if_pos hc]; exact Nat.zero_le _
  · rw [if_neg hc]
    show (memsOf (readGL s).2).length ≤ 6
    rw [memsOf_len]
    unfold readGL
    rw [readLW_len]
    exact Nat.le_refl _

/-- Variables that hold groups, whoever's rows they are. -/
structure VrG (w : World) (h : Nat) (a : Option Addr) (n c : Nat) (E O : Int) (l : List MemT) (W : World) : Prop where
  gg : Blk W 24 h #[.int .i64 E, .slice a n c, .int .i64 O]
  mm : MmsAt W a n l
  bel : Below w.heap.size w W
theorem VrG.on {w W W' : World} {h : Nat} {a : Option Addr} {n c : Nat} {E O : Int} {l : List MemT} (k : VrG w h a n c E O l W) (hb : Below W.heap.size W W') : VrG w h a n c E O l W' := ⟨k.gg.on hb, k.mm.below hb, below_step k.bel (Nat.le_refl _) hb⟩



set_option maxHeartbeats 8000000 in
theorem groupBytes_law (G : GrpT) (a : Option Addr) (c : Nat) (s : ByteArray) (w : World) (hG : Glob8 w) (hI : MmsAt w a G.2.1.length G.2.1) (hw : ∀ i, i < 6 → -9223372036854775808 ≤ (mmL G.2.1 i).1 ∧ (mmL G.2.1 i).1 ≤ 9223372036854775807) (hz : s.size ≤ 9223372036854775807) :
    Calls Tryd.prog 5 #[.agg (grpA G a c), .string s] w fun e w' => e = .returned (.bool true) ∧ Below w.heap.size w w' := by
  have HG : Hid (Glob8 w) := hG
  have CL : Hid (∀ W, _) := fun W => light20_any G a c W
  have hput : G.2.1.length ≤ 1048576 → (∀ W, Below w.heap.size w W → _) := fun hn W hW => put20_any G a c W hn (hI.below hW)
  have hrput : G.2.1.length ≤ 1048576 → (∀ W, Below w.heap.size w W → _) := fun hn W hW => rput20_any G a c W hn (hI.below hW) hw
  have hsame : G.2.1.length ≤ 1048576 → (∀ (a' : Option Addr) (c' : Nat) W, Below w.heap.size w W → MmsAt W a' G.2.1.length G.2.1 → _) := fun hn a' c' W hW hI' => rsame20_any G G true (by simp) a' a c' c W hn hI' (hI.below hW)
  have hback := fun B => takeGC_put G B
  obtain ⟨P, hP⟩ : ∃ P, putGC G = P := ⟨_, rfl⟩
  rw [hP] at hput hrput hback
  obtain ⟨Ep, l, Op⟩ := G
  obtain ⟨B, E⟩ := P
  simp only [grpA] at CL hput hrput hsame hI hback ⊢
  obtain ⟨n, hnn⟩ : ∃ n, l.length = n := ⟨_, rfl⟩
  simp only [hnn] at CL hput hrput hsame hI ⊢
  have HP : Hid (n ≤ 1048576 → _) := hput
  have HRP : Hid (n ≤ 1048576 → _) := hrput
  have HSM : Hid (n ≤ 1048576 → _) := hsame
  have HBK : Hid (E = 0 → takeGC B = ((Ep, l, Op), 0)) := fun e => hback B (by rw [e])
  have HI : Hid (MmsAt w a n l) := hI
  have HLN : Hid (l.length = n) := hnn
  have HP0 : Hid (putGC (Ep, l, Op) = (B, E)) := hP
  have HV0 : Hid (VrG w w.heap.size a n c Ep Op l (w.alloc (.cells #[.int .i64 Ep, .slice a n c, .int .i64 Op] 24))) := ⟨Blk.new _ _ _, hI.below (below_new _ _), below_new _ _⟩
  clear hput hrput hsame hback hI hnn hP hG hw
  go_enter Tryd.func5, Tryd.ntmps5
  go_wp2_with fail
  obtain ⟨w0, hw0⟩ : ∃ w0, w.alloc (.cells #[.int .i64 Ep, .slice a n c, .int .i64 Op] 24) = w0 := ⟨_, rfl⟩
  obtain ⟨h2, hh2⟩ : ∃ h2, w.heap.size = h2 := ⟨_, rfl⟩
  rw [hw0] at HV0
  try rw [hw0]
  rw [show VrG w w.heap.size a n c Ep Op l w0 = VrG w h2 a n c Ep Op l w0 by rw [hh2]] at HV0
  try rw [hh2]
  clear hw0
  refine (CL.out w0).mono ?_
  rintro e w1 ⟨rfl, hb⟩
  have HV1 : Hid (VrG w h2 a n c Ep Op l w1) := HV0.out.on hb
  clear hb HV0 CL
  by_cases hn : n ≤ 20
  · have b0 : decide ((n : Int) ≤ 20) = true := decide_eq_true (by omega)
    by_cases hs : s.size ≤ 512
    · have b1 : ¬ ((512 : Int) < (s.size : Int)) := by omega
      have CPC := HP.out (by omega)
      have CRP := HRP.out (by omega)
      have CSM := HSM.out (by omega)
      have HCP : Hid (∀ W, Below w.heap.size w W → _) := CPC
      have HCR : Hid (∀ W, Below w.heap.size w W → _) := CRP
      have HCS : Hid (∀ (a' : Option Addr) (c' : Nat) W, Below w.heap.size w W → MmsAt W a' n l → _) := CSM
      clear CPC CRP CSM HP HRP HSM
      have d0 : w1.cell? ⟨h2, 0, none⟩ = some (.int .i64 Ep) := HV1.out.gg.cell 0
      have d1 : w1.cell? ⟨h2, 1, none⟩ = some (.slice a n c) := HV1.out.gg.cell 1
      have d2 : w1.cell? ⟨h2, 2, none⟩ = some (.int .i64 Op) := HV1.out.gg.cell 2
      go_wp2_with fail
      clear d0 d1 d2
      refine (HCP.out w1 HV1.out.bel).mono ?_
      rintro e w2 ⟨rfl, hb⟩
      have HV2 : Hid (VrG w h2 a n c Ep Op l w2) := HV1.out.on hb
      clear hb HV1 HCP
      have d0 : w2.cell? ⟨h2, 0, none⟩ = some (.int .i64 Ep) := HV2.out.gg.cell 0
      have d1 : w2.cell? ⟨h2, 1, none⟩ = some (.slice a n c) := HV2.out.gg.cell 1
      have d2 : w2.cell? ⟨h2, 2, none⟩ = some (.int .i64 Op) := HV2.out.gg.cell 2
      go_wp2_with fail
      clear d0 d1 d2
      refine (HCR.out w2 HV2.out.bel).mono ?_
      rintro e w3 ⟨rfl, hb⟩
      have HV3 : Hid (VrG w h2 a n c Ep Op l w3) := HV2.out.on hb
      clear hb HV2 HCR
      have htl := takeGC_len s
      have hinv := takeGC_inv s
      obtain ⟨⟨⟨tE, tl, tO⟩, H⟩, hT⟩ : ∃ X, takeGC s = X := ⟨_, rfl⟩
      have hT2 : takeGP s = ((tE, tl, tO), H) := by rw [← takeG_same]; exact hT
      rw [hT] at htl hinv
      obtain ⟨tn, htn⟩ : ∃ tn, tl.length = tn := ⟨_, rfl⟩
      have htl6 : tn ≤ 6 := by rw [← htn]; exact htl
      have CT : Hid (∀ W, Calls Tryd.prog 22 #[.string s] W fun e w' => ∃ a c, e = .returned (.tuple #[.agg #[.int .i64 tE, .slice a tn c, .int .i64 tO], .int .i64 H]) ∧ MmsAt w' a tn tl ∧ Below W.heap.size W w') := fun W => by
        refine (take20_any s W (by omega)).mono ?_
        rw [hT]
        rintro e w' ⟨a, c, q1, _, _, q2, q3⟩
        unfold grpA at q1
        simp only [htn] at q1 q2
        exact ⟨a, c, q1, q2, q3⟩
      have CR : Hid (∀ W, Calls Tryd.prog 23 #[.string s] W fun e w' => ∃ a c, e = .returned (.tuple #[.agg #[.int .i64 tE, .slice a tn c, .int .i64 tO], .int .i64 H]) ∧ MmsAt w' a tn tl ∧ Below W.heap.size W w') := fun W => by
        refine (rtake20_any s W (by omega)).mono ?_
        rw [hT2]
        rintro e w' ⟨a, c, q1, _, _, q2, q3⟩
        unfold grpA at q1
        simp only [htn] at q1 q2
        exact ⟨a, c, q1, q2, q3⟩
      have CS2 : Hid (∀ (a1 a2 : Option Addr) (c1 c2 : Nat) W, MmsAt W a1 tn tl → MmsAt W a2 tn tl → Calls Tryd.prog 13 #[.agg #[.int .i64 tE, .slice a1 tn c1, .int .i64 tO], .agg #[.int .i64 tE, .slice a2 tn c2, .int .i64 tO]] W fun e w' => e = .returned (.bool true) ∧ Below W.heap.size W w') := fun a1 a2 c1 c2 W m1 m2 => by
        have q := rsame20_any (tE, tl, tO) (tE, tl, tO) true (by simp) a1 a2 c1 c2 W (by show tl.length ≤ _; omega) (by show MmsAt W a1 tl.length tl; rw [htn]; exact m1) (by show MmsAt W a2 tl.length tl; rw [htn]; exact m2)
        unfold grpA at q
        simp only [htn] at q
        exact q
      have HPT : Hid (H = 0 → ∀ a' c' W, MmsAt W a' tn tl → Calls Tryd.prog 20 #[.agg #[.int .i64 tE, .slice a' tn c', .int .i64 tO]] W fun e w' => e = .returned (.tuple #[.string s, .int .i64 0]) ∧ Below W.heap.size W w') := fun hH a' c' W m => by
        have q := put20_any (tE, tl, tO) a' c' W (by show tl.length ≤ _; omega) (by show MmsAt W a' tl.length tl; rw [htn]; exact m)
        rw [hinv hH] at q
        unfold grpA at q
        simp only [htn] at q
        exact q
      have hEE : (E != E) = false := by simp
      have hHH : (H != H) = false := by simp
      clear htl hinv hT hT2 htn htl6
      go_wp2_with fail
      refine (CT.out w3).mono ?_
      rintro e w4 ⟨a9, c9, rfl, hm9, hb⟩
      have n4 := below_new w4 (.cells #[.int .i64 tE, .slice a9 tn c9, .int .i64 tO] 24)
      have HV4 : Hid (VrG w h2 a n c Ep Op l (w4.alloc (.cells #[.int .i64 tE, .slice a9 tn c9, .int .i64 tO] 24))) := (HV3.out.on hb).on n4
      have HN4 : Hid (VrG w w4.heap.size a9 tn c9 tE tO tl (w4.alloc (.cells #[.int .i64 tE, .slice a9 tn c9, .int .i64 tO] 24))) := ⟨Blk.new _ _ _, hm9.below n4, HV4.out.bel⟩
      clear n4 hm9 hb HV3 CT
      go_wp2_with fail
      obtain ⟨w5, hw5⟩ : ∃ w5, w4.alloc (.cells #[.int .i64 tE, .slice a9 tn c9, .int .i64 tO] 24) = w5 := ⟨_, rfl⟩
      obtain ⟨h9, hh9⟩ : ∃ h9, w4.heap.size = h9 := ⟨_, rfl⟩
      rw [hw5] at HV4 HN4
      rw [hh9] at HN4
      try rw [hw5]
      try rw [hh9]
      clear hw5 hh9
      refine (CR.out w5).mono ?_
      rintro e w6 ⟨a11, c11, rfl, hm11, hb⟩
      have n6 := below_new w6 (.cells #[.int .i64 tE, .slice a11 tn c11, .int .i64 tO] 24)
      obtain ⟨w7, hw7⟩ : ∃ w7, w6.alloc (.cells #[.int .i64 tE, .slice a11 tn c11, .int .i64 tO] 24) = w7 := ⟨_, rfl⟩
      rw [hw7] at n6
      have HV7 : Hid (VrG w h2 a n c Ep Op l w7) := (HV4.out.on hb).on n6
      have HX7 : Hid (VrG w h9 a9 tn c9 tE tO tl w7) := (HN4.out.on hb).on n6
      have HN7 : Hid (VrG w w6.heap.size a11 tn c11 tE tO tl w7) := ⟨by rw [← hw7]; exact Blk.new _ _ _, hm11.below n6, HV7.out.bel⟩
      have d0 : w7.cell? ⟨h9, 0, none⟩ = some (.int .i64 tE) := HX7.out.gg.cell 0
      have d1 : w7.cell? ⟨h9, 1, none⟩ = some (.slice a9 tn c9) := HX7.out.gg.cell 1
      have d2 : w7.cell? ⟨h9, 2, none⟩ = some (.int .i64 tO) := HX7.out.gg.cell 2
      have HW7 : Hid (_ = w7) := hw7
      rw [← hw7] at d0 d1 d2
      clear n6 hm11 hb HV4 HN4 CR hw7
      go_wp2_with fail
      rw [HW7.out]
      clear HW7 d0 d1 d2
      refine (CS2.out a9 a11 c9 c11 w7 HX7.out.mm HN7.out.mm).mono ?_
      rintro e w8 ⟨rfl, hb⟩
      have HV8 : Hid (VrG w h2 a n c Ep Op l w8) := HV7.out.on hb
      have HX8 : Hid (VrG w h9 a9 tn c9 tE tO tl w8) := HX7.out.on hb
      clear hb HV7 HX7 HN7 CS2
      as_aux_lemma =>
      by_cases hE : E = 0
      · have hE' : (E == 0) = true := by simp [hE]
        have hBz : B.size ≤ 1048576 := by
          have q := HP0.out
          rw [hE] at q
          unfold putGC at q
          exact Nat.le_trans (putB_size _ _ _ q) (by decide)
        have hbk := HBK.out hE
        have CTB : Hid (∀ W, Calls Tryd.prog 22 #[.string B] W fun e w' => ∃ a' c', e = .returned (.tuple #[.agg #[.int .i64 Ep, .slice a' n c', .int .i64 Op], .int .i64 0]) ∧ MmsAt w' a' n l ∧ Below W.heap.size W w') := fun W => by
          refine (take20_any B W hBz).mono ?_
          rw [hbk]
          rintro e w' ⟨a, c, q1, _, _, q2, q3⟩
          unfold grpA at q1
          simp only [HLN.out] at q1 q2
          exact ⟨a, c, q1, q2, q3⟩
        clear hbk hBz hE HBK HP0
        go_wp2_with fail
        refine (CTB.out w8).mono ?_
        rintro e w9 ⟨a13, c13, rfl, hm13, hb⟩
        have n9 := below_new w9 (.cells #[.int .i64 Ep, .slice a13 n c13, .int .i64 Op] 24)
        obtain ⟨w10, hw10⟩ : ∃ w10, w9.alloc (.cells #[.int .i64 Ep, .slice a13 n c13, .int .i64 Op] 24) = w10 := ⟨_, rfl⟩
        rw [hw10] at n9
        have HVa : Hid (VrG w h2 a n c Ep Op l w10) := (HV8.out.on hb).on n9
        have HXa : Hid (VrG w h9 a9 tn c9 tE tO tl w10) := (HX8.out.on hb).on n9
        have HMa : Hid (MmsAt w10 a13 n l) := hm13.below n9
        have d0 : w10.cell? ⟨h2, 0, none⟩ = some (.int .i64 Ep) := HVa.out.gg.cell 0
        have d1 : w10.cell? ⟨h2, 1, none⟩ = some (.slice a n c) := HVa.out.gg.cell 1
        have d2 : w10.cell? ⟨h2, 2, none⟩ = some (.int .i64 Op) := HVa.out.gg.cell 2
        have HWa : Hid (_ = w10) := hw10
        rw [← hw10] at d0 d1 d2
        clear n9 hm13 hb HV8 HX8 CTB hw10
        go_wp2_with fail
        rw [HWa.out]
        clear HWa d0 d1 d2
        refine (HCS.out a13 c13 w10 HVa.out.bel HMa.out).mono ?_
        rintro e x ⟨rfl, hb⟩
        have HX9 : Hid (VrG w h9 a9 tn c9 tE tO tl x) := HXa.out.on hb
        clear hb HVa HXa HMa HCS
        as_aux_lemma =>
        by_cases hH : H = 0
        · obtain ⟨bH, hbH⟩ : ∃ b, (H == 0) = b := ⟨_, rfl⟩
          have hbH' : (H == 0) = true := by simp [hH]
          have CPT := HPT.out hH
          have HPX : Hid (∀ a' c' W, MmsAt W a' tn tl → Calls Tryd.prog 20 #[.agg #[.int .i64 tE, .slice a' tn c', .int .i64 tO]] W fun e w' => e = .returned (.tuple #[.string s, .int .i64 0]) ∧ Below W.heap.size W w') := CPT
          clear CPT hbH bH HPT
          have d0 : x.cell? ⟨h9, 0, none⟩ = some (.int .i64 tE) := HX9.out.gg.cell 0
          have d1 : x.cell? ⟨h9, 1, none⟩ = some (.slice a9 tn c9) := HX9.out.gg.cell 1
          have d2 : x.cell? ⟨h9, 2, none⟩ = some (.int .i64 tO) := HX9.out.gg.cell 2
          clear hH
          go_wp2_with fail
          clear d0 d1 d2
          refine (HPX.out a9 c9 x HX9.out.mm).mono ?_
          rintro e x2 ⟨rfl, hb⟩
          have HB : Hid (Below w.heap.size w x2) := below_step HX9.out.bel (Nat.le_refl _) hb
          clear hb HX9 HPX
          go_wp2_with fail
          refine (awake20_any x2 (HG.out.below HB.out)).mono ?_
          rintro e w99 ⟨rfl, hb⟩
          have HBX : Hid (Below w.heap.size w w99) := below_step HB.out (Nat.le_refl _) hb
          clear hb
          go_wp2_with fail
          go_ret
          exact ⟨rfl, HBX.out⟩
        · have hbH' : (H == 0) = false := by simp [hH]
          have HB : Hid (Below w.heap.size w x) := HX9.out.bel
          clear HX9 HPT hH
          go_wp2_with fail
          refine (awake20_any x (HG.out.below HB.out)).mono ?_
          rintro e w99 ⟨rfl, hb⟩
          have HBX : Hid (Below w.heap.size w w99) := below_step HB.out (Nat.le_refl _) hb
          clear hb
          go_wp2_with fail
          go_ret
          exact ⟨rfl, HBX.out⟩
      · have hE' : (E == 0) = false := by simp [hE]
        obtain ⟨x, hx⟩ : ∃ x, w8 = x := ⟨_, rfl⟩
        have HX9 : Hid (VrG w h9 a9 tn c9 tE tO tl x) := by rw [← hx]; exact HX8.out
        rw [hx]
        clear hx HV8 HX8 HCS HBK HP0 hE
        by_cases hH : H = 0
        · obtain ⟨bH, hbH⟩ : ∃ b, (H == 0) = b := ⟨_, rfl⟩
          have hbH' : (H == 0) = true := by simp [hH]
          have CPT := HPT.out hH
          have HPX : Hid (∀ a' c' W, MmsAt W a' tn tl → Calls Tryd.prog 20 #[.agg #[.int .i64 tE, .slice a' tn c', .int .i64 tO]] W fun e w' => e = .returned (.tuple #[.string s, .int .i64 0]) ∧ Below W.heap.size W w') := CPT
          clear CPT hbH bH HPT
          have d0 : x.cell? ⟨h9, 0, none⟩ = some (.int .i64 tE) := HX9.out.gg.cell 0
          have d1 : x.cell? ⟨h9, 1, none⟩ = some (.slice a9 tn c9) := HX9.out.gg.cell 1
          have d2 : x.cell? ⟨h9, 2, none⟩ = some (.int .i64 tO) := HX9.out.gg.cell 2
          clear hH
          go_wp2_with fail
          clear d0 d1 d2
          refine (HPX.out a9 c9 x HX9.out.mm).mono ?_
          rintro e x2 ⟨rfl, hb⟩
          have HB : Hid (Below w.heap.size w x2) := below_step HX9.out.bel (Nat.le_refl _) hb
          clear hb HX9 HPX
          go_wp2_with fail
          refine (awake20_any x2 (HG.out.below HB.out)).mono ?_
          rintro e w99 ⟨rfl, hb⟩
          have HBX : Hid (Below w.heap.size w w99) := below_step HB.out (Nat.le_refl _) hb
          clear hb
          go_wp2_with fail
          go_ret
          exact ⟨rfl, HBX.out⟩
        · have hbH' : (H == 0) = false := by simp [hH]
          have HB : Hid (Below w.heap.size w x) := HX9.out.bel
          clear HX9 HPT hH
          go_wp2_with fail
          refine (awake20_any x (HG.out.below HB.out)).mono ?_
          rintro e w99 ⟨rfl, hb⟩
          have HBX : Hid (Below w.heap.size w w99) := below_step HB.out (Nat.le_refl _) hb
          clear hb
          go_wp2_with fail
          go_ret
          exact ⟨rfl, HBX.out⟩
    · have b1 : (512 : Int) < (s.size : Int) := by omega
      have HB : Hid (Below w.heap.size w w1) := HV1.out.bel
      clear HV1 HI HLN HP HRP HSM HBK HP0
      go_wp2_with fail
      refine (awake20_any w1 (HG.out.below HB.out)).mono ?_
      rintro e w99 ⟨rfl, hb⟩
      have HBX : Hid (Below w.heap.size w w99) := below_step HB.out (Nat.le_refl _) hb
      clear hb
      go_wp2_with fail
      go_ret
      exact ⟨rfl, HBX.out⟩
  · have b0 : decide ((n : Int) ≤ 20) = false := decide_eq_false (by omega)
    have HB : Hid (Below w.heap.size w w1) := HV1.out.bel
    clear HV1 HI HLN HP HRP HSM HBK HP0
    go_wp2_with fail
    refine (awake20_any w1 (HG.out.below HB.out)).mono ?_
    rintro e w99 ⟨rfl, hb⟩
    have HBX : Hid (Below w.heap.size w w99) := below_step HB.out (Nat.le_refl _) hb
    clear hb
    go_wp2_with fail
    go_ret
    exact ⟨rfl, HBX.out⟩

theorem groupBytes_z (v : Value) (s : ByteArray) (w : World) (hG : Glob8 w) (z : ∃ (G : GrpT) (a : Option Addr) (c : Nat), v = .agg (grpA G a c) ∧ MmsAt w a G.2.1.length G.2.1 ∧ (∀ i, (Lit.int .i64 (mmL G.2.1 i).1).wf = true)) (hs : s.size ≤ 9223372036854775807) :
    Calls Tryd.prog 5 #[v, .string s] w fun e w' => e = .returned (.bool true) ∧ Below w.heap.size w w' := by
  obtain ⟨G, a, c, rfl, hI, hw⟩ := z
  exact groupBytes_law G a c s w hG hI (who_range hw) hs

end Go.Proofs.YtabhkebkbidfhaaDoor
