import Derived.Test.YtdmlffbpcjadfaaGreatDoorSnI
/- The walk of SnapOps (layer 13). -/
namespace Go.Proofs.YtdmlffbpcjadfaaGreatDoor
open Go.RowKit
set_option linter.unusedSimpArgs false

theorem encA_op_size (o : OpT) : (encA (opPs o)).size = 26 + o.2.2.2.2.1.size + o.2.2.2.2.2.size := by
  unfold opPs
  simp only [encA, enc1, enc3, enc4, ByteArray.size_append, bigB_size, ByteArray.size_empty]
  omega

/-- As take_same, of few bytes. -/
theorem take_few (M : OpT → Bool) (s : ByteArray) (hs : s.size ≤ 1024) : takeOpC M s = takeOpP M s := by
  have h := take_same (fun o => M o && decide (o.2.2.2.2.1.size ≤ 1024) && decide (o.2.2.2.2.2.size ≤ 1024)) s (by omega) (fun o ho => by
    simp only [Bool.and_eq_true, decide_eq_true_eq] at ho
    exact ⟨ho.1.2, ho.2⟩)
  by_cases he : ∃ o, putOpP M o = (s, 0)
  · obtain ⟨o, ho⟩ := he
    rw [takeC_put M o s ho]
    obtain ⟨h1, h2, h3⟩ := put_inv M o s ho
    have hz := encA_op_size o
    rw [← h3] at hz
    have hr := readOpP_back o ⟨#[]⟩ h2 (by omega) (by omega)
    have e : encA (opPs o) ++ ⟨#[]⟩ = s := by rw [h3]; exact ByteArray.append_empty
    rw [e] at hr
    unfold takeOpP
    rw [hr]
    simp only
    rw [h1, if_neg]
    rintro (k | k)
    · exact k rfl
    · cases k
  · rw [takeC_none M s (fun o ho => he ⟨o, ho⟩)]
    unfold takeOpP
    rw [if_pos]
    by_cases h1 : inDoneP (readOpP (s, 0)).1 = 0
    · refine .inr ?_
      cases hm : M (readOpP (s, 0)).2 with
      | false => rfl
      | true =>
        refine absurd ⟨(readOpP (s, 0)).2, ?_⟩ he
        unfold inDoneP at h1
        by_cases hz : (readOpP (s, 0)).1.2 = 0 ∧ ¬ (readOpP (s, 0)).1.1.size = 0
        · rw [if_pos hz] at h1; cases h1
        · rw [if_neg hz] at h1
          have h0 : (readOpP (s, 0)).1.1.size = 0 := Classical.byContradiction fun k => hz ⟨h1, k⟩
          obtain ⟨_, k2, k3⟩ := readOp_inv (s, 0) h1
          have e0 : (readOpP (s, 0)).1.1 = ByteArray.empty := bt_ext _ _ (by rw [h0]; rfl) (fun i hi => by omega)
          rw [e0, ByteArray.append_empty] at k2
          have k2' : s = encA (opPs (readOpP (s, 0)).2) := k2
          have hf := put_fit M (readOpP (s, 0)).2 hm k3 (by rw [← k2']; omega)
          rw [← k2'] at hf
          exact hf
    · exact .inl h1

theorem takeOpC_sizes (M : OpT → Bool) (s : ByteArray) : (takeOpC M s).1.2.2.2.2.1.size ≤ 1048576 ∧ (takeOpC M s).1.2.2.2.2.2.size ≤ 9223372036854775807 := by
  have h := readOpC_sizes (s, 0)
  unfold takeOpC
  split
  · exact ⟨Nat.zero_le _, Nat.zero_le _⟩
  · exact h

/-- The cells of the argument, and of what both take. -/
structure LoS (w : World) (h hc hd : Nat) (co cc : Array Value) (W : World) : Prop where
  bel : Below w.heap.size w W
  o : Blk W 25 h co
  c : Blk W 25 hc cc
  d : Blk W 25 hd cc

theorem LoS.on {w : World} {h hc hd : Nat} {co cc : Array Value} {W W' : World} (k : LoS w h hc hd co cc W) (hb : Below W.heap.size W W') : LoS w h hc hd co cc W' := ⟨below_step k.bel (Nat.le_refl _) hb, k.o.on hb, k.c.on hb, k.d.on hb⟩

set_option maxHeartbeats 8000000 in
set_option maxRecDepth 100000 in
theorem snapOps_walk (o : OpT) (s : ByteArray) (w : World) (ho : OpOk o) (hs : s.size ≤ maxLen) (hG : Glob8 w) :
    Calls Tryz.prog 3 #[.agg (opA o), .string s] w fun e w' => e = .returned (.bool true) ∧ Below w.heap.size w w' := by
  obtain ⟨M, hM⟩ := mayM_ex
  have CW : Hid (∀ W, Below w.heap.size w W → Calls Tryz.prog 7 #[] W fun e w' => e = .returned (.bool true) ∧ Below W.heap.size W w') := fun W hW => awake13 W (hG.below hW)
  have hsm : s.size ≤ 9223372036854775807 := hs
  obtain ⟨z7, z8⟩ := ho.2
  have CL' : ∀ D, (D = true ↔ LightO o) → ∀ W, _ := fun D hD W => rlight_any o D hD W z7 z8
  have FP : (LightO o → ∀ W, Below w.heap.size w W → _) := fun hL W hW => putOp_any M hM o W (hG.below hW) (by have := hL.1; omega) (by have := hL.2; omega)
  have FR : (LightO o → ∀ W : World, _) := fun hL W => rputOp_any M hM o W (by have := hL.1; omega) (by have := hL.2; omega)
  have FT : (s.size ≤ 512 → ∀ W, Below w.heap.size w W → _) := fun hz W hW => takeOp_any M hM s W (hG.below hW) (by omega)
  have FU : (s.size ≤ 512 → ∀ W : World, _) := fun hz W => rtakeL_any M hM s W (by omega)
  have hfew : s.size ≤ 512 → takeOpC M s = takeOpP M s := fun hz => take_few M s (by omega)
  have FA : (LightO o → (putOpP M o).2 = 0 → ∀ W, Below w.heap.size w W → Calls Tryz.prog 10 #[.string (putOpP M o).1] W fun e w' => e = .returned (.tuple #[.agg (opA o), .int .i64 0]) ∧ Below W.heap.size W w') := fun hL h0 W hW => by
    have hp : putOpP M o = ((putOpP M o).1, 0) := Prod.ext rfl h0
    obtain ⟨_, _, h3⟩ := put_inv M o _ hp
    have h := takeOp_any M hM (putOpP M o).1 W (hG.below hW) (by rw [h3, encA_op_size]; have := hL.1; have := hL.2; omega)
    rw [takeC_put M o _ hp] at h
    exact h
  have FC : ((takeOpC M s).2 = 0 → ∀ W, Below w.heap.size w W → Calls Tryz.prog 8 #[.agg (opA (takeOpC M s).1)] W fun e w' => e = .returned (.tuple #[.string s, .int .i64 0]) ∧ Below W.heap.size W w') := fun h0 W hW => by
    have h := putOp_any M hM (takeOpC M s).1 W (hG.below hW) (takeOpC_sizes M s).1 (takeOpC_sizes M s).2
    rw [takeC_inv M s h0] at h
    exact h
  obtain ⟨⟨A, E⟩, hp⟩ : ∃ p, putOpP M o = p := ⟨_, rfl⟩
  simp only [hp] at FP FR FA
  obtain ⟨⟨c, G⟩, hc⟩ : ∃ p, takeOpC M s = p := ⟨_, rfl⟩
  simp only [hc] at FT FC hfew
  have FU' : s.size ≤ 512 → ∀ W : World, Calls Tryz.prog 11 #[.string s] W fun e w' => e = .returned (.tuple #[.agg (opA c), .int .i64 G]) ∧ Below W.heap.size W w' := fun hz W => by
    have h := FU hz W
    rw [← hfew hz] at h
    exact h
  clear FU hfew hp hc
  have hEo := fun W => opEq_is o o true (decide_eq_true rfl) W
  have hEc := fun W => opEq_is c c true (decide_eq_true rfl) W
  have HLt : Hid (LightO o ↔ o.2.2.2.2.1.size ≤ 200 ∧ o.2.2.2.2.2.size ≤ 200) := Iff.rfl
  obtain ⟨D, hD⟩ : ∃ D : Bool, D = true ↔ LightO o := ⟨@decide (LightO o) (Classical.propDecidable _), by simp⟩
  have CL'' := CL' D hD
  have HDL : Hid (D = true → LightO o) := hD.1
  have FP2 : Hid (D = true → ∀ W, Below w.heap.size w W → _) := fun h => FP (hD.1 h)
  have FR2 : Hid (D = true → ∀ W : World, _) := fun h => FR (hD.1 h)
  have FA2 : Hid (D = true → E = 0 → ∀ W, Below w.heap.size w W → _) := fun h => FA (hD.1 h)
  clear FP FR FA CL' HDL HLt hD
  obtain ⟨k0, ⟨k1, k2⟩, ⟨k3, k4⟩, ⟨k5, k6⟩, s7, s8⟩ := o
  obtain ⟨m0, ⟨m1, m2⟩, ⟨m3, m4⟩, ⟨m5, m6⟩, t7, t8⟩ := c
  simp only [opA] at CL'' FP2 FR2 FA2 FT FC FU' hEo hEc ⊢
  have CL : Hid (∀ W, _) := CL''
  have CTk : Hid (s.size ≤ 512 → ∀ W, Below w.heap.size w W → _) := FT
  have CTr : Hid (s.size ≤ 512 → ∀ W : World, _) := FU'
  have CPC : Hid (G = 0 → ∀ W, Below w.heap.size w W → _) := FC
  clear CL'' FT FU' FC ho hs hG hM z7 z8
  have HB0 : Hid (Below w.heap.size w (w.alloc (.cells #[.int .i64 k0, .int .i64 k1, .int .i64 k2, .int .i64 k3, .int .i64 k4, .int .i64 k5, .int .i64 k6, .string s7, .string s8] 25))) := below_new _ _
  have HO0 : Hid (Blk (w.alloc (.cells #[.int .i64 k0, .int .i64 k1, .int .i64 k2, .int .i64 k3, .int .i64 k4, .int .i64 k5, .int .i64 k6, .string s7, .string s8] 25)) 25 w.heap.size #[.int .i64 k0, .int .i64 k1, .int .i64 k2, .int .i64 k3, .int .i64 k4, .int .i64 k5, .int .i64 k6, .string s7, .string s8]) := Blk.new _ _ _
  go_enter Tryz.func3, Tryz.ntmps3
  go_wp2_with fail
  obtain ⟨w0, hw0⟩ : ∃ w0, w.alloc (.cells #[.int .i64 k0, .int .i64 k1, .int .i64 k2, .int .i64 k3, .int .i64 k4, .int .i64 k5, .int .i64 k6, .string s7, .string s8] 25) = w0 := ⟨_, rfl⟩
  obtain ⟨h, hh⟩ : ∃ h, w.heap.size = h := ⟨_, rfl⟩
  rw [hw0] at HB0 HO0
  rw [hh] at HO0
  try rw [hw0]
  try rw [hh]
  clear hw0 hh
  refine (CL.out w0).mono ?_
  rintro e w1 ⟨rfl, hb1⟩
  have HB : Hid (Below w.heap.size w w1) := below_step HB0.out (Nat.le_refl _) hb1
  have HO1 : Hid (Blk w1 25 h #[.int .i64 k0, .int .i64 k1, .int .i64 k2, .int .i64 k3, .int .i64 k4, .int .i64 k5, .int .i64 k6, .string s7, .string s8]) := HO0.out.on hb1
  clear CL hb1 HB0 HO0
  cases D with
  | false =>
    clear HO1 FP2 FR2 FA2 CTk CTr CPC
    go_wp2_with fail
    refine (CW.out _ HB.out).mono ?_
    rintro e w99 ⟨rfl, hb99⟩
    have hB99 := below_step HB.out (Nat.le_refl _) hb99
    clear CW hb99 HB
    go_wp2_with fail
    go_ret
    exact ⟨rfl, hB99⟩
  | true =>
    have CP : Hid (∀ W, Below w.heap.size w W → _) := FP2.out rfl
    have CR : Hid (∀ W : World, _) := FR2.out rfl
    have CA : Hid (E = 0 → ∀ W, Below w.heap.size w W → _) := FA2.out rfl
    clear FP2 FR2 FA2
    by_cases hs : s.size ≤ 512
    · have bs : ¬ ((s.size : Int) > 512) := by omega
      have CT : Hid (∀ W, Below w.heap.size w W → _) := CTk.out hs
      have CU : Hid (∀ W : World, _) := CTr.out hs
      have x0 : w1.cell? ⟨h, 0, none⟩ = some (.int .i64 k0) := HO1.out.cell 0
      have x1 : w1.cell? ⟨h, 1, none⟩ = some (.int .i64 k1) := HO1.out.cell 1
      have x2 : w1.cell? ⟨h, 2, none⟩ = some (.int .i64 k2) := HO1.out.cell 2
      have x3 : w1.cell? ⟨h, 3, none⟩ = some (.int .i64 k3) := HO1.out.cell 3
      have x4 : w1.cell? ⟨h, 4, none⟩ = some (.int .i64 k4) := HO1.out.cell 4
      have x5 : w1.cell? ⟨h, 5, none⟩ = some (.int .i64 k5) := HO1.out.cell 5
      have x6 : w1.cell? ⟨h, 6, none⟩ = some (.int .i64 k6) := HO1.out.cell 6
      have x7 : w1.cell? ⟨h, 7, none⟩ = some (.string s7) := HO1.out.cell 7
      have x8 : w1.cell? ⟨h, 8, none⟩ = some (.string s8) := HO1.out.cell 8
      clear CTk CTr hs
      go_wp2_with fail
      refine (CP.out _ HB.out).mono ?_
      rintro e w2 ⟨rfl, hb2⟩
      have HB2 : Hid (Below w.heap.size w w2) := below_step HB.out (Nat.le_refl _) hb2
      have HO2 : Hid (Blk w2 25 h #[.int .i64 k0, .int .i64 k1, .int .i64 k2, .int .i64 k3, .int .i64 k4, .int .i64 k5, .int .i64 k6, .string s7, .string s8]) := HO1.out.on hb2
      have y0 : w2.cell? ⟨h, 0, none⟩ = some (.int .i64 k0) := HO2.out.cell 0
      have y1 : w2.cell? ⟨h, 1, none⟩ = some (.int .i64 k1) := HO2.out.cell 1
      have y2 : w2.cell? ⟨h, 2, none⟩ = some (.int .i64 k2) := HO2.out.cell 2
      have y3 : w2.cell? ⟨h, 3, none⟩ = some (.int .i64 k3) := HO2.out.cell 3
      have y4 : w2.cell? ⟨h, 4, none⟩ = some (.int .i64 k4) := HO2.out.cell 4
      have y5 : w2.cell? ⟨h, 5, none⟩ = some (.int .i64 k5) := HO2.out.cell 5
      have y6 : w2.cell? ⟨h, 6, none⟩ = some (.int .i64 k6) := HO2.out.cell 6
      have y7 : w2.cell? ⟨h, 7, none⟩ = some (.string s7) := HO2.out.cell 7
      have y8 : w2.cell? ⟨h, 8, none⟩ = some (.string s8) := HO2.out.cell 8
      clear hb2 HB HO1 CP x0 x1 x2 x3 x4 x5 x6 x7 x8
      go_wp2_with fail
      refine (CR.out _).mono ?_
      rintro e w3 ⟨rfl, hb3⟩
      have HB3 : Hid (Below w.heap.size w w3) := below_step HB2.out (Nat.le_refl _) hb3
      have HO3 : Hid (Blk w3 25 h #[.int .i64 k0, .int .i64 k1, .int .i64 k2, .int .i64 k3, .int .i64 k4, .int .i64 k5, .int .i64 k6, .string s7, .string s8]) := HO2.out.on hb3
      clear hb3 HB2 HO2 CR y0 y1 y2 y3 y4 y5 y6 y7 y8
      go_wp2_with fail
      refine (CT.out _ HB3.out).mono ?_
      rintro e w5 ⟨rfl, hb5⟩
      have HB5 : Hid (Below w.heap.size w w5) := below_step HB3.out (Nat.le_refl _) hb5
      have HO5 : Hid (Blk w5 25 h #[.int .i64 k0, .int .i64 k1, .int .i64 k2, .int .i64 k3, .int .i64 k4, .int .i64 k5, .int .i64 k6, .string s7, .string s8]) := HO3.out.on hb5
      have X1 : Blk (w5.alloc (.cells #[.int .i64 0, .int .i64 0, .int .i64 0, .int .i64 0, .int .i64 0, .int .i64 0, .int .i64 0, .string ⟨#[]⟩, .string ⟨#[]⟩] 25)) 25 w5.heap.size #[.int .i64 0, .int .i64 0, .int .i64 0, .int .i64 0, .int .i64 0, .int .i64 0, .int .i64 0, .string ⟨#[]⟩, .string ⟨#[]⟩] := Blk.new _ _ _
      have hb6 : Below w5.heap.size w5 ((w5.alloc (.cells #[.int .i64 0, .int .i64 0, .int .i64 0, .int .i64 0, .int .i64 0, .int .i64 0, .int .i64 0, .string ⟨#[]⟩, .string ⟨#[]⟩] 25)).setRow w5.heap.size #[.int .i64 m0, .int .i64 m1, .int .i64 m2, .int .i64 m3, .int .i64 m4, .int .i64 m5, .int .i64 m6, .string t7, .string t8]) := below_setRow (below_new _ _) (Nat.le_refl _) _
      have HB6 : Hid (Below w.heap.size w ((w5.alloc (.cells #[.int .i64 0, .int .i64 0, .int .i64 0, .int .i64 0, .int .i64 0, .int .i64 0, .int .i64 0, .string ⟨#[]⟩, .string ⟨#[]⟩] 25)).setRow w5.heap.size #[.int .i64 m0, .int .i64 m1, .int .i64 m2, .int .i64 m3, .int .i64 m4, .int .i64 m5, .int .i64 m6, .string t7, .string t8])) := below_step HB5.out (Nat.le_refl _) hb6
      have HO6 : Hid (Blk ((w5.alloc (.cells #[.int .i64 0, .int .i64 0, .int .i64 0, .int .i64 0, .int .i64 0, .int .i64 0, .int .i64 0, .string ⟨#[]⟩, .string ⟨#[]⟩] 25)).setRow w5.heap.size #[.int .i64 m0, .int .i64 m1, .int .i64 m2, .int .i64 m3, .int .i64 m4, .int .i64 m5, .int .i64 m6, .string t7, .string t8]) 25 h #[.int .i64 k0, .int .i64 k1, .int .i64 k2, .int .i64 k3, .int .i64 k4, .int .i64 k5, .int .i64 k6, .string s7, .string s8]) := HO5.out.on hb6
      have HC6 : Hid (Blk ((w5.alloc (.cells #[.int .i64 0, .int .i64 0, .int .i64 0, .int .i64 0, .int .i64 0, .int .i64 0, .int .i64 0, .string ⟨#[]⟩, .string ⟨#[]⟩] 25)).setRow w5.heap.size #[.int .i64 m0, .int .i64 m1, .int .i64 m2, .int .i64 m3, .int .i64 m4, .int .i64 m5, .int .i64 m6, .string t7, .string t8]) 25 w5.heap.size #[.int .i64 m0, .int .i64 m1, .int .i64 m2, .int .i64 m3, .int .i64 m4, .int .i64 m5, .int .i64 m6, .string t7, .string t8]) := X1.setRow _
      clear hb5 HB3 HO3 CT hb6 HB5 HO5
      go_wp2_with (with_reducible refine wpList_storeBlk rfl 25 _ _ rfl w5.heap.size #[.int .i64 0, .int .i64 0, .int .i64 0, .int .i64 0, .int .i64 0, .int .i64 0, .int .i64 0, .string ⟨#[]⟩, .string ⟨#[]⟩] #[.int .i64 m0, .int .i64 m1, .int .i64 m2, .int .i64 m3, .int .i64 m4, .int .i64 m5, .int .i64 m6, .string t7, .string t8] ?hx ?hy X1 rfl ?hi ?h1 ?_)
      try (case hx => rfl)
      try (case hy => rfl)
      try (case hi => kernel_rfl)
      try (case h1 => simp [Value.oneCell'])
      clear X1
      obtain ⟨w6, hw6⟩ : ∃ w6, ((w5.alloc (.cells #[.int .i64 0, .int .i64 0, .int .i64 0, .int .i64 0, .int .i64 0, .int .i64 0, .int .i64 0, .string ⟨#[]⟩, .string ⟨#[]⟩] 25)).setRow w5.heap.size #[.int .i64 m0, .int .i64 m1, .int .i64 m2, .int .i64 m3, .int .i64 m4, .int .i64 m5, .int .i64 m6, .string t7, .string t8]) = w6 := ⟨_, rfl⟩
      obtain ⟨hc, hhc⟩ : ∃ hc, w5.heap.size = hc := ⟨_, rfl⟩
      rw [hw6] at HB6 HO6 HC6
      rw [hhc] at HC6
      try rw [hw6]
      try rw [hhc]
      clear hw6 hhc
      refine (CU.out w6).mono ?_
      rintro e w7 ⟨rfl, hb7⟩
      have HO7 : Hid (Blk w7 25 h #[.int .i64 k0, .int .i64 k1, .int .i64 k2, .int .i64 k3, .int .i64 k4, .int .i64 k5, .int .i64 k6, .string s7, .string s8]) := HO6.out.on hb7
      have HC7 : Hid (Blk w7 25 hc #[.int .i64 m0, .int .i64 m1, .int .i64 m2, .int .i64 m3, .int .i64 m4, .int .i64 m5, .int .i64 m6, .string t7, .string t8]) := HC6.out.on hb7
      have X2 : Blk (w7.alloc (.cells #[.int .i64 0, .int .i64 0, .int .i64 0, .int .i64 0, .int .i64 0, .int .i64 0, .int .i64 0, .string ⟨#[]⟩, .string ⟨#[]⟩] 25)) 25 w7.heap.size #[.int .i64 0, .int .i64 0, .int .i64 0, .int .i64 0, .int .i64 0, .int .i64 0, .int .i64 0, .string ⟨#[]⟩, .string ⟨#[]⟩] := Blk.new _ _ _
      have hb8 : Below w7.heap.size w7 ((w7.alloc (.cells #[.int .i64 0, .int .i64 0, .int .i64 0, .int .i64 0, .int .i64 0, .int .i64 0, .int .i64 0, .string ⟨#[]⟩, .string ⟨#[]⟩] 25)).setRow w7.heap.size #[.int .i64 m0, .int .i64 m1, .int .i64 m2, .int .i64 m3, .int .i64 m4, .int .i64 m5, .int .i64 m6, .string t7, .string t8]) := below_setRow (below_new _ _) (Nat.le_refl _) _
      have HS : Hid (LoS w h hc w7.heap.size #[.int .i64 k0, .int .i64 k1, .int .i64 k2, .int .i64 k3, .int .i64 k4, .int .i64 k5, .int .i64 k6, .string s7, .string s8] #[.int .i64 m0, .int .i64 m1, .int .i64 m2, .int .i64 m3, .int .i64 m4, .int .i64 m5, .int .i64 m6, .string t7, .string t8] ((w7.alloc (.cells #[.int .i64 0, .int .i64 0, .int .i64 0, .int .i64 0, .int .i64 0, .int .i64 0, .int .i64 0, .string ⟨#[]⟩, .string ⟨#[]⟩] 25)).setRow w7.heap.size #[.int .i64 m0, .int .i64 m1, .int .i64 m2, .int .i64 m3, .int .i64 m4, .int .i64 m5, .int .i64 m6, .string t7, .string t8])) := ⟨below_step HB6.out (Nat.le_refl _) (below_step hb7 (Nat.le_refl _) hb8), HO7.out.on hb8, HC7.out.on hb8, X2.setRow _⟩
      obtain ⟨wq, hwq⟩ : ∃ wq, ((w7.alloc (.cells #[.int .i64 0, .int .i64 0, .int .i64 0, .int .i64 0, .int .i64 0, .int .i64 0, .int .i64 0, .string ⟨#[]⟩, .string ⟨#[]⟩] 25)).setRow w7.heap.size #[.int .i64 m0, .int .i64 m1, .int .i64 m2, .int .i64 m3, .int .i64 m4, .int .i64 m5, .int .i64 m6, .string t7, .string t8]) = wq := ⟨_, rfl⟩
      rw [hwq] at HS
      have hHS := HS.out
      have x0 : wq.cell? ⟨hc, 0, none⟩ = some (.int .i64 m0) := hHS.c.cell 0
      have x1 : wq.cell? ⟨hc, 1, none⟩ = some (.int .i64 m1) := hHS.c.cell 1
      have x2 : wq.cell? ⟨hc, 2, none⟩ = some (.int .i64 m2) := hHS.c.cell 2
      have x3 : wq.cell? ⟨hc, 3, none⟩ = some (.int .i64 m3) := hHS.c.cell 3
      have x4 : wq.cell? ⟨hc, 4, none⟩ = some (.int .i64 m4) := hHS.c.cell 4
      have x5 : wq.cell? ⟨hc, 5, none⟩ = some (.int .i64 m5) := hHS.c.cell 5
      have x6 : wq.cell? ⟨hc, 6, none⟩ = some (.int .i64 m6) := hHS.c.cell 6
      have x7 : wq.cell? ⟨hc, 7, none⟩ = some (.string t7) := hHS.c.cell 7
      have x8 : wq.cell? ⟨hc, 8, none⟩ = some (.string t8) := hHS.c.cell 8
      have y0 : wq.cell? ⟨w7.heap.size, 0, none⟩ = some (.int .i64 m0) := hHS.d.cell 0
      have y1 : wq.cell? ⟨w7.heap.size, 1, none⟩ = some (.int .i64 m1) := hHS.d.cell 1
      have y2 : wq.cell? ⟨w7.heap.size, 2, none⟩ = some (.int .i64 m2) := hHS.d.cell 2
      have y3 : wq.cell? ⟨w7.heap.size, 3, none⟩ = some (.int .i64 m3) := hHS.d.cell 3
      have y4 : wq.cell? ⟨w7.heap.size, 4, none⟩ = some (.int .i64 m4) := hHS.d.cell 4
      have y5 : wq.cell? ⟨w7.heap.size, 5, none⟩ = some (.int .i64 m5) := hHS.d.cell 5
      have y6 : wq.cell? ⟨w7.heap.size, 6, none⟩ = some (.int .i64 m6) := hHS.d.cell 6
      have y7 : wq.cell? ⟨w7.heap.size, 7, none⟩ = some (.string t7) := hHS.d.cell 7
      have y8 : wq.cell? ⟨w7.heap.size, 8, none⟩ = some (.string t8) := hHS.d.cell 8
      clear hb7 HB6 HO6 HC6 CU hb8 HO7 HC7 hHS
      by_cases hEz : E = 0
      · subst hEz
        have CAa : Hid (∀ W, Below w.heap.size w W → _) := CA.out rfl
        clear CA
        go_wp2_with (with_reducible refine wpList_storeBlk rfl 25 _ _ rfl w7.heap.size #[.int .i64 0, .int .i64 0, .int .i64 0, .int .i64 0, .int .i64 0, .int .i64 0, .int .i64 0, .string ⟨#[]⟩, .string ⟨#[]⟩] #[.int .i64 m0, .int .i64 m1, .int .i64 m2, .int .i64 m3, .int .i64 m4, .int .i64 m5, .int .i64 m6, .string t7, .string t8] ?hx ?hy X2 rfl ?hi ?h1 ?_)
        try (case hx => rfl)
        try (case hy => rfl)
        try (case hi => kernel_rfl)
        try (case h1 => simp [Value.oneCell'])
        try rw [hwq]
        obtain ⟨hd, hhd⟩ : ∃ hd, w7.heap.size = hd := ⟨_, rfl⟩
        rw [hhd] at HS
        try rw [hhd]
        clear X2 hwq hhd x0 x1 x2 x3 x4 x5 x6 x7 x8 y0 y1 y2 y3 y4 y5 y6 y7 y8
        refine (CAa.out wq HS.out.bel).mono ?_
        rintro e w8 ⟨rfl, hb8⟩
        have HS8 : Hid (LoS w h hc hd #[.int .i64 k0, .int .i64 k1, .int .i64 k2, .int .i64 k3, .int .i64 k4, .int .i64 k5, .int .i64 k6, .string s7, .string s8] #[.int .i64 m0, .int .i64 m1, .int .i64 m2, .int .i64 m3, .int .i64 m4, .int .i64 m5, .int .i64 m6, .string t7, .string t8] w8) := HS.out.on hb8
        have X3 : Blk (w8.alloc (.cells #[.int .i64 0, .int .i64 0, .int .i64 0, .int .i64 0, .int .i64 0, .int .i64 0, .int .i64 0, .string ⟨#[]⟩, .string ⟨#[]⟩] 25)) 25 w8.heap.size #[.int .i64 0, .int .i64 0, .int .i64 0, .int .i64 0, .int .i64 0, .int .i64 0, .int .i64 0, .string ⟨#[]⟩, .string ⟨#[]⟩] := Blk.new _ _ _
        have HSn : Hid (LoS w h hc hd #[.int .i64 k0, .int .i64 k1, .int .i64 k2, .int .i64 k3, .int .i64 k4, .int .i64 k5, .int .i64 k6, .string s7, .string s8] #[.int .i64 m0, .int .i64 m1, .int .i64 m2, .int .i64 m3, .int .i64 m4, .int .i64 m5, .int .i64 m6, .string t7, .string t8] ((w8.alloc (.cells #[.int .i64 0, .int .i64 0, .int .i64 0, .int .i64 0, .int .i64 0, .int .i64 0, .int .i64 0, .string ⟨#[]⟩, .string ⟨#[]⟩] 25)).setRow w8.heap.size #[.int .i64 k0, .int .i64 k1, .int .i64 k2, .int .i64 k3, .int .i64 k4, .int .i64 k5, .int .i64 k6, .string s7, .string s8])) := HS8.out.on (below_setRow (below_new _ _) (Nat.le_refl _) _)
        have HPn : Hid (Blk ((w8.alloc (.cells #[.int .i64 0, .int .i64 0, .int .i64 0, .int .i64 0, .int .i64 0, .int .i64 0, .int .i64 0, .string ⟨#[]⟩, .string ⟨#[]⟩] 25)).setRow w8.heap.size #[.int .i64 k0, .int .i64 k1, .int .i64 k2, .int .i64 k3, .int .i64 k4, .int .i64 k5, .int .i64 k6, .string s7, .string s8]) 25 w8.heap.size #[.int .i64 k0, .int .i64 k1, .int .i64 k2, .int .i64 k3, .int .i64 k4, .int .i64 k5, .int .i64 k6, .string s7, .string s8]) := X3.setRow _
        clear HS hb8 HS8 CAa
        obtain ⟨wq2, hwq2⟩ : ∃ wq2, ((w8.alloc (.cells #[.int .i64 0, .int .i64 0, .int .i64 0, .int .i64 0, .int .i64 0, .int .i64 0, .int .i64 0, .string ⟨#[]⟩, .string ⟨#[]⟩] 25)).setRow w8.heap.size #[.int .i64 k0, .int .i64 k1, .int .i64 k2, .int .i64 k3, .int .i64 k4, .int .i64 k5, .int .i64 k6, .string s7, .string s8]) = wq2 := ⟨_, rfl⟩
        rw [hwq2] at HSn HPn
        have hHS := HSn.out
        have x0 : wq2.cell? ⟨w8.heap.size, 0, none⟩ = some (.int .i64 k0) := HPn.out.cell 0
        have x1 : wq2.cell? ⟨w8.heap.size, 1, none⟩ = some (.int .i64 k1) := HPn.out.cell 1
        have x2 : wq2.cell? ⟨w8.heap.size, 2, none⟩ = some (.int .i64 k2) := HPn.out.cell 2
        have x3 : wq2.cell? ⟨w8.heap.size, 3, none⟩ = some (.int .i64 k3) := HPn.out.cell 3
        have x4 : wq2.cell? ⟨w8.heap.size, 4, none⟩ = some (.int .i64 k4) := HPn.out.cell 4
        have x5 : wq2.cell? ⟨w8.heap.size, 5, none⟩ = some (.int .i64 k5) := HPn.out.cell 5
        have x6 : wq2.cell? ⟨w8.heap.size, 6, none⟩ = some (.int .i64 k6) := HPn.out.cell 6
        have x7 : wq2.cell? ⟨w8.heap.size, 7, none⟩ = some (.string s7) := HPn.out.cell 7
        have x8 : wq2.cell? ⟨w8.heap.size, 8, none⟩ = some (.string s8) := HPn.out.cell 8
        have y0 : wq2.cell? ⟨h, 0, none⟩ = some (.int .i64 k0) := hHS.o.cell 0
        have y1 : wq2.cell? ⟨h, 1, none⟩ = some (.int .i64 k1) := hHS.o.cell 1
        have y2 : wq2.cell? ⟨h, 2, none⟩ = some (.int .i64 k2) := hHS.o.cell 2
        have y3 : wq2.cell? ⟨h, 3, none⟩ = some (.int .i64 k3) := hHS.o.cell 3
        have y4 : wq2.cell? ⟨h, 4, none⟩ = some (.int .i64 k4) := hHS.o.cell 4
        have y5 : wq2.cell? ⟨h, 5, none⟩ = some (.int .i64 k5) := hHS.o.cell 5
        have y6 : wq2.cell? ⟨h, 6, none⟩ = some (.int .i64 k6) := hHS.o.cell 6
        have y7 : wq2.cell? ⟨h, 7, none⟩ = some (.string s7) := hHS.o.cell 7
        have y8 : wq2.cell? ⟨h, 8, none⟩ = some (.string s8) := hHS.o.cell 8
        clear hHS HPn
        by_cases hGz : G = 0
        · subst hGz
          have CPc : Hid (∀ W, Below w.heap.size w W → _) := CPC.out rfl
          have hHS := HSn.out
          have u0 : wq2.cell? ⟨hc, 0, none⟩ = some (.int .i64 m0) := hHS.c.cell 0
          have u1 : wq2.cell? ⟨hc, 1, none⟩ = some (.int .i64 m1) := hHS.c.cell 1
          have u2 : wq2.cell? ⟨hc, 2, none⟩ = some (.int .i64 m2) := hHS.c.cell 2
          have u3 : wq2.cell? ⟨hc, 3, none⟩ = some (.int .i64 m3) := hHS.c.cell 3
          have u4 : wq2.cell? ⟨hc, 4, none⟩ = some (.int .i64 m4) := hHS.c.cell 4
          have u5 : wq2.cell? ⟨hc, 5, none⟩ = some (.int .i64 m5) := hHS.c.cell 5
          have u6 : wq2.cell? ⟨hc, 6, none⟩ = some (.int .i64 m6) := hHS.c.cell 6
          have u7 : wq2.cell? ⟨hc, 7, none⟩ = some (.string t7) := hHS.c.cell 7
          have u8 : wq2.cell? ⟨hc, 8, none⟩ = some (.string t8) := hHS.c.cell 8
          clear hHS CPC
          go_wp2_with (with_reducible refine wpList_storeBlk rfl 25 _ _ rfl w8.heap.size #[.int .i64 0, .int .i64 0, .int .i64 0, .int .i64 0, .int .i64 0, .int .i64 0, .int .i64 0, .string ⟨#[]⟩, .string ⟨#[]⟩] #[.int .i64 k0, .int .i64 k1, .int .i64 k2, .int .i64 k3, .int .i64 k4, .int .i64 k5, .int .i64 k6, .string s7, .string s8] ?hx ?hy X3 rfl ?hi ?h1 ?_)
          try (case hx => rfl)
          try (case hy => rfl)
          try (case hi => kernel_rfl)
          try (case h1 => simp [Value.oneCell'])
          try rw [hwq2]
          clear X3 hwq2 x0 x1 x2 x3 x4 x5 x6 x7 x8 y0 y1 y2 y3 y4 y5 y6 y7 y8
          refine (CPc.out _ HSn.out.bel).mono ?_
          rintro e wr ⟨rfl, hbr⟩
          have HB : Hid (Below w.heap.size w wr) := below_step HSn.out.bel (Nat.le_refl _) hbr
          clear hbr HSn CPc u0 u1 u2 u3 u4 u5 u6 u7 u8
          go_wp2_with fail
          refine (CW.out _ HB.out).mono ?_
          rintro e w99 ⟨rfl, hb99⟩
          have hB99 := below_step HB.out (Nat.le_refl _) hb99
          clear CW hb99 HB
          go_wp2_with fail
          go_ret
          exact ⟨rfl, hB99⟩
        · have hGz' : (G == 0) = false := by simp [hGz]
          clear CPC
          go_wp2_with (with_reducible refine wpList_storeBlk rfl 25 _ _ rfl w8.heap.size #[.int .i64 0, .int .i64 0, .int .i64 0, .int .i64 0, .int .i64 0, .int .i64 0, .int .i64 0, .string ⟨#[]⟩, .string ⟨#[]⟩] #[.int .i64 k0, .int .i64 k1, .int .i64 k2, .int .i64 k3, .int .i64 k4, .int .i64 k5, .int .i64 k6, .string s7, .string s8] ?hx ?hy X3 rfl ?hi ?h1 ?_)
          try (case hx => rfl)
          try (case hy => rfl)
          try (case hi => kernel_rfl)
          try (case h1 => simp [Value.oneCell'])
          try rw [hwq2]
          clear X3 hwq2 x0 x1 x2 x3 x4 x5 x6 x7 x8 y0 y1 y2 y3 y4 y5 y6 y7 y8
          have HB : Hid (Below w.heap.size w wq2) := HSn.out.bel
          clear HSn
          refine (CW.out _ HB.out).mono ?_
          rintro e w99 ⟨rfl, hb99⟩
          have hB99 := below_step HB.out (Nat.le_refl _) hb99
          clear CW hb99 HB
          go_wp2_with fail
          go_ret
          exact ⟨rfl, hB99⟩
      · have hEz' : (E == 0) = false := by simp [hEz]
        clear CA
        by_cases hGz : G = 0
        · subst hGz
          have CPc : Hid (∀ W, Below w.heap.size w W → _) := CPC.out rfl
          have hHS := HS.out
          have u0 : wq.cell? ⟨hc, 0, none⟩ = some (.int .i64 m0) := hHS.c.cell 0
          have u1 : wq.cell? ⟨hc, 1, none⟩ = some (.int .i64 m1) := hHS.c.cell 1
          have u2 : wq.cell? ⟨hc, 2, none⟩ = some (.int .i64 m2) := hHS.c.cell 2
          have u3 : wq.cell? ⟨hc, 3, none⟩ = some (.int .i64 m3) := hHS.c.cell 3
          have u4 : wq.cell? ⟨hc, 4, none⟩ = some (.int .i64 m4) := hHS.c.cell 4
          have u5 : wq.cell? ⟨hc, 5, none⟩ = some (.int .i64 m5) := hHS.c.cell 5
          have u6 : wq.cell? ⟨hc, 6, none⟩ = some (.int .i64 m6) := hHS.c.cell 6
          have u7 : wq.cell? ⟨hc, 7, none⟩ = some (.string t7) := hHS.c.cell 7
          have u8 : wq.cell? ⟨hc, 8, none⟩ = some (.string t8) := hHS.c.cell 8
          clear hHS CPC
          go_wp2_with (with_reducible refine wpList_storeBlk rfl 25 _ _ rfl w7.heap.size #[.int .i64 0, .int .i64 0, .int .i64 0, .int .i64 0, .int .i64 0, .int .i64 0, .int .i64 0, .string ⟨#[]⟩, .string ⟨#[]⟩] #[.int .i64 m0, .int .i64 m1, .int .i64 m2, .int .i64 m3, .int .i64 m4, .int .i64 m5, .int .i64 m6, .string t7, .string t8] ?hx ?hy X2 rfl ?hi ?h1 ?_)
          try (case hx => rfl)
          try (case hy => rfl)
          try (case hi => kernel_rfl)
          try (case h1 => simp [Value.oneCell'])
          try rw [hwq]
          clear X2 hwq x0 x1 x2 x3 x4 x5 x6 x7 x8 y0 y1 y2 y3 y4 y5 y6 y7 y8
          refine (CPc.out _ HS.out.bel).mono ?_
          rintro e wr ⟨rfl, hbr⟩
          have HB : Hid (Below w.heap.size w wr) := below_step HS.out.bel (Nat.le_refl _) hbr
          clear hbr HS CPc u0 u1 u2 u3 u4 u5 u6 u7 u8
          go_wp2_with fail
          refine (CW.out _ HB.out).mono ?_
          rintro e w99 ⟨rfl, hb99⟩
          have hB99 := below_step HB.out (Nat.le_refl _) hb99
          clear CW hb99 HB
          go_wp2_with fail
          go_ret
          exact ⟨rfl, hB99⟩
        · have hGz' : (G == 0) = false := by simp [hGz]
          clear CPC
          go_wp2_with (with_reducible refine wpList_storeBlk rfl 25 _ _ rfl w7.heap.size #[.int .i64 0, .int .i64 0, .int .i64 0, .int .i64 0, .int .i64 0, .int .i64 0, .int .i64 0, .string ⟨#[]⟩, .string ⟨#[]⟩] #[.int .i64 m0, .int .i64 m1, .int .i64 m2, .int .i64 m3, .int .i64 m4, .int .i64 m5, .int .i64 m6, .string t7, .string t8] ?hx ?hy X2 rfl ?hi ?h1 ?_)
          try (case hx => rfl)
          try (case hy => rfl)
          try (case hi => kernel_rfl)
          try (case h1 => simp [Value.oneCell'])
          try rw [hwq]
          clear X2 hwq x0 x1 x2 x3 x4 x5 x6 x7 x8 y0 y1 y2 y3 y4 y5 y6 y7 y8
          have HB : Hid (Below w.heap.size w wq) := HS.out.bel
          clear HS
          refine (CW.out _ HB.out).mono ?_
          rintro e w99 ⟨rfl, hb99⟩
          have hB99 := below_step HB.out (Nat.le_refl _) hb99
          clear CW hb99 HB
          go_wp2_with fail
          go_ret
          exact ⟨rfl, hB99⟩
    · have bs : (s.size : Int) > 512 := by omega
      clear HO1 CP CR CA CTk CTr CPC hs
      go_wp2_with fail
      refine (CW.out _ HB.out).mono ?_
      rintro e w99 ⟨rfl, hb99⟩
      have hB99 := below_step HB.out (Nat.le_refl _) hb99
      clear CW hb99 HB
      go_wp2_with fail
      go_ret
      exact ⟨rfl, hB99⟩
end Go.Proofs.YtdmlffbpcjadfaaGreatDoor
