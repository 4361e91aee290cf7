/- Layer 19, the document's: PutRecord. -/
import Derived.Test.YtmjjpfinkpfifaaDoorRWiS
import Derived.Test.YtmjjpfinkpfifaaDoorRWiM
import Derived.Test.YtmjjpfinkpfifaaDoorWiF
import Derived.Deep.DeepCutAuto
namespace Go.Proofs.YtmjjpfinkpfifaaDoor
open Go.RowKit
set_option maxRecDepth 100000
set_option linter.unusedSimpArgs false
set_option linter.unusedVariables false
set_option maxRecDepth 100000


set_option maxHeartbeats 16000000 in
theorem rputR_any (M : OpT → Bool) (hM : ∀ o, M o = true ↔ MayO o) (R : RecT) (a : Option Addr) (c : Nat) (w : World) (h7 : R.2.2.2.2.2.1.2.2.2.2.1.size ≤ 1000000) (h8 : R.2.2.2.2.2.1.2.2.2.2.2.size ≤ 1000000) (hI : WrAt w a R.2.2.2.2.2.2.2.length R.2.2.2.2.2.2.2) (hz : ∀ i, (wrL R.2.2.2.2.2.2.2 i).2.size ≤ 1000000) (hn : R.2.2.2.2.2.2.2.length ≤ 1048576) (hH : R.2.2.2.2.1.size ≤ 1000000) :
    Calls Tryd.prog 12 #[.agg (recA R a c)] w fun e w' => e = .returned (.tuple #[.string (putRC M R).1, .int .i64 (putRC M R).2]) ∧ Below w.heap.size w w' := by
  obtain ⟨p, hp⟩ : ∃ p, putRC M R = p := ⟨_, rfl⟩
  rw [hp]
  have CM' : ∀ W, Below w.heap.size w W → _ := fun W hW => rmayR_any M hM R a c W (by omega) (by omega) (hI.below hW) (fun i => Nat.le_trans (hz i) (by decide)) (by omega) (by omega)
  have CO' : ∀ W, _ := fun W => rputOp_any M hM R.2.2.2.2.2.1 W h7 h8
  obtain ⟨X, hX⟩ : ∃ X : Bool, mayRb M R = X := ⟨_, rfl⟩
  simp only [hX] at CM'
  obtain ⟨⟨ob, oe⟩, hob⟩ : ∃ b, putOpP M R.2.2.2.2.2.1 = b := ⟨_, rfl⟩
  rw [hob] at CO'
  have hp2 : putB X (rcPs R ob) = p := by rw [← hp, ← hX]; unfold putRC; rw [hob]
  have hok : X = true → ob.size ≤ 2074 ∧ (¬ R.1 = 1 → ob = ⟨#[]⟩) := by
    intro hx
    rw [hx] at hX
    obtain ⟨Kd, F, C, S, H, o, q, l⟩ := R
    obtain ⟨g1, g2, g3, g4, g5, g6, g7, g8, g9⟩ := mayR_ok M hM hX
    simp only at hob
    rw [hob] at g3 g7
    refine ⟨g3, fun hk => ?_⟩
    have h0 : ob.size = 0 := Classical.byContradiction fun k => hk (g7.1 k)
    exact bt_ext _ _ (by rw [h0]; rfl) (fun i hi => absurd hi (by rw [h0]; exact Nat.not_lt_zero i))
  obtain ⟨Kd, F, C, S, H, ⟨k0, ⟨k1, k2⟩, ⟨k3, k4⟩, ⟨k5, k6⟩, s7, s8⟩, q, l⟩ := R
  unfold putB at hp2
  rw [writeA_rcPs] at hp2
  simp only [recA, opA] at CM' CO' hp2 hn hI hz hH hok ⊢
  obtain ⟨n, hnn⟩ : ∃ n, l.length = n := ⟨_, rfl⟩
  simp only [hnn] at CM' hp2 hn hI ⊢
  have HL : Hid (l.length = n) := hnn
  have HI : Hid (WrAt w a n l) := hI
  have HZ : Hid (∀ i, (wrL l i).2.size ≤ 1000000) := hz
  have CM : Hid (∀ W, Below w.heap.size w W → _) := CM'
  have CO : Hid (∀ W, _) := CO'
  have hz_H := hH
  clear CM' CO' hp hX hnn hI hz hH hob h7 h8 hM
  have HB0 : Hid (Below w.heap.size w (w.alloc (.cells #[.int .i64 Kd, .int .i64 F, .int .i64 C, .int .i64 S, .string H, .int .i64 k0, .int .i64 k1, .int .i64 k2, .int .i64 k3, .int .i64 k4, .int .i64 k5, .int .i64 k6, .string s7, .string s8, .int .i64 q, .slice a n c] 28))) := below_new _ _
  have HK0 : Hid (Blk (w.alloc (.cells #[.int .i64 Kd, .int .i64 F, .int .i64 C, .int .i64 S, .string H, .int .i64 k0, .int .i64 k1, .int .i64 k2, .int .i64 k3, .int .i64 k4, .int .i64 k5, .int .i64 k6, .string s7, .string s8, .int .i64 q, .slice a n c] 28)) 28 w.heap.size #[.int .i64 Kd, .int .i64 F, .int .i64 C, .int .i64 S, .string H, .int .i64 k0, .int .i64 k1, .int .i64 k2, .int .i64 k3, .int .i64 k4, .int .i64 k5, .int .i64 k6, .string s7, .string s8, .int .i64 q, .slice a n c]) := Blk.new _ _ _
  cases X with
  | false =>
    obtain rfl : (⟨#[]⟩, 1) = p := by rwa [if_neg (by simp)] at hp2
    clear hok hz_H HL HI HZ CO
    go_enter Tryd.func12, Tryd.ntmps12
    go_wp2_with fail
    obtain ⟨w0, hw0⟩ : ∃ w0, w.alloc (.cells #[.int .i64 Kd, .int .i64 F, .int .i64 C, .int .i64 S, .string H, .int .i64 k0, .int .i64 k1, .int .i64 k2, .int .i64 k3, .int .i64 k4, .int .i64 k5, .int .i64 k6, .string s7, .string s8, .int .i64 q, .slice a n c] 28) = w0 := ⟨_, rfl⟩
    rw [hw0] at HB0
    try rw [hw0]
    clear hw0 HK0
    refine (CM.out w0 HB0.out).mono ?_
    rintro e w1 ⟨rfl, hb1⟩
    have hB1 := below_step HB0.out (Nat.le_refl _) hb1
    go_wp2_with fail
    go_ret2
    exact ⟨rfl, hB1⟩
  | true =>
    rw [if_pos rfl] at hp2
    obtain ⟨hob1, hob2⟩ := hok rfl
    have hz_ob : ob.size ≤ 1000000 := Nat.le_trans hob1 (by decide)
    have z0 : ((⟨#[]⟩ : ByteArray), false).1.size ≤ 65536 := by decide
    obtain ⟨⟨S1, b1⟩, e1⟩ : ∃ p, numP ((⟨#[]⟩ : ByteArray), false) (Kd) 1 255 = p := ⟨_, rfl⟩
    have z1 : (S1, b1).1.size ≤ 65536 := layP_sizeO z0 e1
    have C1' : ∀ W, _ := fun W => rbyte_any ((⟨#[]⟩ : ByteArray), false) (Kd) W z0
    rw [e1] at C1'
    simp only [outV] at C1'
    have C1 : Hid (∀ W, _) := C1'
    clear C1'
    obtain ⟨⟨S2, b2⟩, e2⟩ : ∃ p, numP (S1, b1) (F) 1 255 = p := ⟨_, rfl⟩
    have z2 : (S2, b2).1.size ≤ 65536 := layP_sizeO z1 e2
    have C2' : ∀ W, _ := fun W => rbyte_any (S1, b1) (F) W z1
    rw [e2] at C2'
    simp only [outV] at C2'
    have C2 : Hid (∀ W, _) := C2'
    clear C2'
    obtain ⟨⟨S3, b3⟩, e3⟩ : ∃ p, numP (S2, b2) (C) 6 1099511627775 = p := ⟨_, rfl⟩
    have z3 : (S3, b3).1.size ≤ 65536 := layP_sizeO z2 e3
    have C3' : ∀ W, _ := fun W => rnum_any (S2, b2) (C) W z2
    rw [e3] at C3'
    simp only [outV] at C3'
    have C3 : Hid (∀ W, _) := C3'
    clear C3'
    obtain ⟨⟨S4, b4⟩, e4⟩ : ∃ p, numP (S3, b3) (S) 6 1099511627775 = p := ⟨_, rfl⟩
    have z4 : (S4, b4).1.size ≤ 65536 := layP_sizeO z3 e4
    have C4' : ∀ W, _ := fun W => rnum_any (S3, b3) (S) W z3
    rw [e4] at C4'
    simp only [outV] at C4'
    have C4 : Hid (∀ W, _) := C4'
    clear C4'
    obtain ⟨⟨S5, b5⟩, e5⟩ : ∃ p, textP (S4, b4) H = p := ⟨_, rfl⟩
    have z5 : (S5, b5).1.size ≤ 65536 := textP_sizeO z4 e5
    have C5' : ∀ W, _ := fun W => rtext_any (S4, b4) H W z4 hz_H
    rw [e5] at C5'
    simp only [outV] at C5'
    have C5 : Hid (∀ W, _) := C5'
    clear C5'
    obtain ⟨⟨S6, b6⟩, e6⟩ : ∃ p, textP (S5, b5) ob = p := ⟨_, rfl⟩
    have z6 : (S6, b6).1.size ≤ 65536 := textP_sizeO z5 e6
    have C6' : ∀ W, _ := fun W => rtext_any (S5, b5) ob W z5 hz_ob
    rw [e6] at C6'
    simp only [outV] at C6'
    have C6 : Hid (∀ W, _) := C6'
    clear C6'
    obtain ⟨⟨S7, b7⟩, e7⟩ : ∃ p, numP (S6, b6) (q) 1 255 = p := ⟨_, rfl⟩
    have z7 : (S7, b7).1.size ≤ 65536 := layP_sizeO z6 e7
    have C7' : ∀ W, _ := fun W => rbyte_any (S6, b6) (q) W z6
    rw [e7] at C7'
    simp only [outV] at C7'
    have C7 : Hid (∀ W, _) := C7'
    clear C7'
    obtain ⟨⟨S8, b8⟩, e8⟩ : ∃ p, numP (S7, b7) ((n : Int)) 1 255 = p := ⟨_, rfl⟩
    have z8 : (S8, b8).1.size ≤ 65536 := layP_sizeO z7 e8
    have C8' : ∀ W, _ := fun W => rbyte_any (S7, b7) ((n : Int)) W z7
    rw [e8] at C8'
    simp only [outV] at C8'
    have C8 : Hid (∀ W, _) := C8'
    clear C8'
    simp only [e1, e2, e3, e4, e5, e6, e7, e8] at hp2
    have HSZ : Hid ((S8, b8).1.size ≤ 65536) := z8
    have HPP : Hid (doneQ (writeA (S8, b8) (l.flatMap wrPs)) = p) := hp2
    have HOB : Hid (¬ Kd = 1 → ob = ⟨#[]⟩) := hob2
    clear hp2 e1 e2 e3 e4 e5 e6 e7 e8 z0 z1 z2 z3 z4 z5 z6 z7 z8 hz_H hz_ob hob1 hob2 hok
    have CA := C1
    have CB := C2
    clear C1 C2
    go_enter Tryd.func12, Tryd.ntmps12
    go_wp2_with fail
    obtain ⟨w0, hw0⟩ : ∃ w0, w.alloc (.cells #[.int .i64 Kd, .int .i64 F, .int .i64 C, .int .i64 S, .string H, .int .i64 k0, .int .i64 k1, .int .i64 k2, .int .i64 k3, .int .i64 k4, .int .i64 k5, .int .i64 k6, .string s7, .string s8, .int .i64 q, .slice a n c] 28) = w0 := ⟨_, rfl⟩
    obtain ⟨h, hh⟩ : ∃ h, w.heap.size = h := ⟨_, rfl⟩
    have HLF : Hid (w.heap.size ≤ h) := Nat.le_of_eq hh
    rw [hw0] at HB0 HK0
    rw [hh] at HK0
    try rw [hw0]
    try rw [hh]
    clear hw0 hh
    refine (CM.out w0 HB0.out).mono ?_
    rintro e wm ⟨rfl, hb1⟩
    have HBm : Hid (Below w.heap.size w wm) := below_step HB0.out (Nat.le_refl _) hb1
    have HFm : Hid (Blk wm 28 h #[.int .i64 Kd, .int .i64 F, .int .i64 C, .int .i64 S, .string H, .int .i64 k0, .int .i64 k1, .int .i64 k2, .int .i64 k3, .int .i64 k4, .int .i64 k5, .int .i64 k6, .string s7, .string s8, .int .i64 q, .slice a n c]) := HK0.out.on hb1
    have m0 : wm.cell? ⟨h, 0, none⟩ = some (.int .i64 Kd) := HFm.out.cell 0
    clear hb1 HB0 HK0 CM
    by_cases hk : Kd = 1
    · have tk : (Kd == 1) = true := by simp [hk]
      have HKd : Hid (Kd = 1) := hk
      clear hk HOB
      have m5 : wm.cell? ⟨h, 5, none⟩ = some (.int .i64 k0) := HFm.out.cell 5
      have m6 : wm.cell? ⟨h, 6, none⟩ = some (.int .i64 k1) := HFm.out.cell 6
      have m7 : wm.cell? ⟨h, 7, none⟩ = some (.int .i64 k2) := HFm.out.cell 7
      have m8 : wm.cell? ⟨h, 8, none⟩ = some (.int .i64 k3) := HFm.out.cell 8
      have m9 : wm.cell? ⟨h, 9, none⟩ = some (.int .i64 k4) := HFm.out.cell 9
      have m10 : wm.cell? ⟨h, 10, none⟩ = some (.int .i64 k5) := HFm.out.cell 10
      have m11 : wm.cell? ⟨h, 11, none⟩ = some (.int .i64 k6) := HFm.out.cell 11
      have m12 : wm.cell? ⟨h, 12, none⟩ = some (.string s7) := HFm.out.cell 12
      have m13 : wm.cell? ⟨h, 13, none⟩ = some (.string s8) := HFm.out.cell 13
      go_wp2_with fail
      refine (CO.out wm).mono ?_
      rintro e w1 ⟨rfl, hb1⟩
      have HF1 : Hid (Blk w1 28 h #[.int .i64 Kd, .int .i64 F, .int .i64 C, .int .i64 S, .string H, .int .i64 k0, .int .i64 k1, .int .i64 k2, .int .i64 k3, .int .i64 k4, .int .i64 k5, .int .i64 k6, .string s7, .string s8, .int .i64 q, .slice a n c]) := HFm.out.on hb1
      have HB1 : Hid (Below w.heap.size w w1) := below_step HBm.out (Nat.le_refl _) hb1
      clear m0 m5 m6 m7 m8 m9 m10 m11 m12 m13 hb1 HFm HBm CO tk HKd
      go_wp2_with fail
      as_aux_lemma =>
      have HSS : Hid (∀ W', Below w1.heap.size w1 W' → W'.cell? ⟨h, 0, none⟩ = some (.int .i64 Kd) ∧ W'.cell? ⟨h, 1, none⟩ = some (.int .i64 F)) := fun W' hW => ⟨(HF1.out.on hW).cell 0, (HF1.out.on hW).cell 1⟩
      have hS0 := HSS.out w1 (Below.refl _ _)
      go_cut [5] (fun u wx => ∃ g : Nat, u = .pointer (some ⟨g, 0, none⟩) ∧ Hid (PtS 28 w h g #[.int .i64 Kd, .int .i64 F, .int .i64 C, .int .i64 S, .string H, .int .i64 k0, .int .i64 k1, .int .i64 k2, .int .i64 k3, .int .i64 k4, .int .i64 k5, .int .i64 k6, .string s7, .string s8, .int .i64 q, .slice a n c] (S2, b2) wx))
      case first =>
        refine wp_region_noPanic ?_
        refine wp_region_held_drew (S := fun W' => W'.cell? ⟨h, 0, none⟩ = some (.int .i64 Kd) ∧ W'.cell? ⟨h, 1, none⟩ = some (.int .i64 F)) (by kernel_rfl) (by first | exact trivial | assumption | exact ⟨by assumption, by assumption⟩) (fun hHeld => ?_)
        refine take_at (i := 0) (v := ?_) rfl rfl (by kernel_rfl) (by kernel_rfl) (by kernel_rfl) (fun _ _ _ h => h) (Or.inl ⟨by rfl, ?_⟩) (by assumption) ?_
        rotate_left
        · intro w hSw; (try dsimp only at hSw); go_simp; try with_reducible rfl
        try simp only [Act.put, List.setIfInBounds_toArray, List.set_cons_zero, List.set_cons_succ]
        refine take_at (i := 1) (v := ?_) rfl rfl (by kernel_rfl) (by kernel_rfl) (by kernel_rfl) (fun _ _ _ h => h) (Or.inl ⟨by rfl, ?_⟩) (by assumption) ?_
        rotate_left
        · intro w hSw; (try dsimp only at hSw); go_simp; try with_reducible rfl
        try simp only [Act.put, List.setIfInBounds_toArray, List.set_cons_zero, List.set_cons_succ]
        refine take_at (i := 2) (v := ?_) rfl rfl (by kernel_rfl) (by kernel_rfl) (by kernel_rfl) (fun _ _ _ h => h) (Or.inl ⟨by rfl, ?_⟩) (by assumption) ?_
        rotate_left
        · intro w hSw; (try dsimp only at hSw); go_simp; try with_reducible rfl
        try simp only [Act.put, List.setIfInBounds_toArray, List.set_cons_zero, List.set_cons_succ]
        refine take_at (i := 4) (v := ?_) rfl rfl (by kernel_rfl) (by kernel_rfl) (by kernel_rfl) (fun _ _ _ h => h) (Or.inl ⟨by rfl, ?_⟩) (by assumption) ?_
        rotate_left
        · intro w hSw; (try dsimp only at hSw); go_simp; try with_reducible rfl
        try simp only [Act.put, List.setIfInBounds_toArray, List.set_cons_zero, List.set_cons_succ]
        refine take_at (i := 5) (v := ?_) rfl rfl (by kernel_rfl) (by kernel_rfl) (by kernel_rfl) (fun _ _ _ h => h) (Or.inl ⟨by rfl, ?_⟩) (by assumption) ?_
        rotate_left
        · intro w hSw; (try dsimp only at hSw); go_simp; try with_reducible rfl
        try simp only [Act.put, List.setIfInBounds_toArray, List.set_cons_zero, List.set_cons_succ]
        refine wpAnyH_ready (rs := [3, 7]) (by kernel_rfl) (by simp) ?_
        refine AllReadyH.cons rfl (fun K hK => ?_) (AllReadyH.cons rfl (fun K hK => ?_) AllReadyH.nil)
        · go_simp
          refine (CA.out _).mono ?_
          rintro e V1 ⟨rfl, hb1⟩
          have hV1 : Below w1.heap.size w1 V1 := below_step (Below.refl _ _).drew (Nat.le_refl _) hb1
          refine hK.out _ _ (HSS.out _ hV1) (fun hHeld => ?_)
          clear hK K
          refine wpAnyH_ready (rs := [6, 7]) (by kernel_rfl) (by simp) ?_
          refine AllReadyH.cons rfl (fun K hK => ?_) (AllReadyH.cons rfl (fun K hK => ?_) AllReadyH.nil)
          · go_simp
            refine (CB.out _).mono ?_
            rintro e V2 ⟨rfl, hb2⟩
            have hV2 : Below w1.heap.size w1 V2 := below_step hV1 (Nat.le_refl _) hb2
            refine hK.out _ _ (HSS.out _ hV2) (fun hHeld => ?_)
            clear hK K
            refine wpAnyH_ready (rs := [7]) (by kernel_rfl) (by simp) ?_
            refine AllReadyH.cons rfl (fun K hK => ?_) AllReadyH.nil
            go_simp
            have hV3 : Below w1.heap.size w1 (V2.alloc (.cells #[.string ⟨#[]⟩, .bool false] 68)) := hV2.alloc hV2.size _
            refine hK.out _ _ (HSS.out _ hV3) (fun hHeld => ?_)
            clear hK K
            refine wpAnyH_ready (rs := [8]) (by kernel_rfl) (by simp) ?_
            refine AllReadyH.cons rfl (fun K hK => ?_) AllReadyH.nil
            refine step_storeRow rfl rfl 68 _ _ rfl V2.heap.size #[.string ⟨#[]⟩, .bool false] #[.string S2, .bool b2] rfl rfl (Blk.new V2 _ _) rfl (by kernel_rfl) (by simp [Value.oneCell']) ?_
            have hz := hV2.size
            have HP : Hid (PtS 28 w h V2.heap.size #[.int .i64 Kd, .int .i64 F, .int .i64 C, .int .i64 S, .string H, .int .i64 k0, .int .i64 k1, .int .i64 k2, .int .i64 k3, .int .i64 k4, .int .i64 k5, .int .i64 k6, .string s7, .string s8, .int .i64 q, .slice a n c] (S2, b2) ((V2.alloc (.cells #[.string ⟨#[]⟩, .bool false] 68)).setRow V2.heap.size #[.string S2, .bool b2])) := ⟨(HF1.out.on hV3).setRowOther _ (by have h1 := HF1.out.lt; omega) _, ((Blk.new V2 _ _)).setRow _, below_setRow (below_step HB1.out (Nat.le_refl _) hV3) (by have h1 := HB1.out.size; omega) _, HLF.out, by have h1 := HF1.out.lt; omega⟩
            refine hK.out _ _ (HSS.out _ (below_setRow hV3 hV2.size #[.string S2, .bool b2])) (fun hHeld => ?_)
            clear hK K
            refine wpAnyH_done (by kernel_rfl) (NoPanic.normal ?_) _
            go_wp2_with fail
            go_meet
            case rel => exact ⟨V2.heap.size, rfl, HP⟩
          · go_simp
            have hV2 : Below w1.heap.size w1 (V1.alloc (.cells #[.string ⟨#[]⟩, .bool false] 68)) := hV1.alloc hV1.size _
            have KV1 : Blk (V1.alloc (.cells #[.string ⟨#[]⟩, .bool false] 68)) 68 V1.heap.size #[.string ⟨#[]⟩, .bool false] := Blk.new V1 _ _
            refine hK.out _ _ (HSS.out _ hV2) (fun hHeld => ?_)
            clear hK K
            refine wpAnyH_ready (rs := [6]) (by kernel_rfl) (by simp) ?_
            refine AllReadyH.cons rfl (fun K hK => ?_) AllReadyH.nil
            go_simp
            refine (CB.out _).mono ?_
            rintro e V2 ⟨rfl, hb2⟩
            have hV3 : Below w1.heap.size w1 V2 := below_step hV2 (Nat.le_refl _) hb2
            have KV2 := KV1.on hb2
            refine hK.out _ _ (HSS.out _ hV3) (fun hHeld => ?_)
            clear hK K
            refine wpAnyH_ready (rs := [8]) (by kernel_rfl) (by simp) ?_
            refine AllReadyH.cons rfl (fun K hK => ?_) AllReadyH.nil
            refine step_storeRow rfl rfl 68 _ _ rfl V1.heap.size #[.string ⟨#[]⟩, .bool false] #[.string S2, .bool b2] rfl rfl KV2 rfl (by kernel_rfl) (by simp [Value.oneCell']) ?_
            have hz := hV1.size
            have HP : Hid (PtS 28 w h V1.heap.size #[.int .i64 Kd, .int .i64 F, .int .i64 C, .int .i64 S, .string H, .int .i64 k0, .int .i64 k1, .int .i64 k2, .int .i64 k3, .int .i64 k4, .int .i64 k5, .int .i64 k6, .string s7, .string s8, .int .i64 q, .slice a n c] (S2, b2) (V2.setRow V1.heap.size #[.string S2, .bool b2])) := ⟨(HF1.out.on hV3).setRowOther _ (by have h1 := HF1.out.lt; omega) _, (KV2).setRow _, below_setRow (below_step HB1.out (Nat.le_refl _) hV3) (by have h1 := HB1.out.size; omega) _, HLF.out, by have h1 := HF1.out.lt; omega⟩
            refine hK.out _ _ (HSS.out _ (below_setRow hV3 hV1.size #[.string S2, .bool b2])) (fun hHeld => ?_)
            clear hK K
            refine wpAnyH_done (by kernel_rfl) (NoPanic.normal ?_) _
            go_wp2_with fail
            go_meet
            case rel => exact ⟨V1.heap.size, rfl, HP⟩
        · go_simp
          have hV1 : Below w1.heap.size w1 (w1.alloc (.cells #[.string ⟨#[]⟩, .bool false] 68)) := below_new _ _
          have KV1 : Blk (w1.alloc (.cells #[.string ⟨#[]⟩, .bool false] 68)).drew 68 w1.heap.size #[.string ⟨#[]⟩, .bool false] := Blk.new w1 _ _
          refine hK.out _ _ (HSS.out _ hV1.drew) (fun hHeld => ?_)
          clear hK K
          refine wpAnyH_ready (rs := [3]) (by kernel_rfl) (by simp) ?_
          refine AllReadyH.cons rfl (fun K hK => ?_) AllReadyH.nil
          go_simp
          refine (CA.out _).mono ?_
          rintro e V2 ⟨rfl, hb2⟩
          have hV2 : Below w1.heap.size w1 V2 := below_step hV1.drew (by simp) hb2
          have KV2 := KV1.on hb2
          refine hK.out _ _ (HSS.out _ hV2) (fun hHeld => ?_)
          clear hK K
          refine wpAnyH_ready (rs := [6]) (by kernel_rfl) (by simp) ?_
          refine AllReadyH.cons rfl (fun K hK => ?_) AllReadyH.nil
          go_simp
          refine (CB.out _).mono ?_
          rintro e V3 ⟨rfl, hb3⟩
          have hV3 : Below w1.heap.size w1 V3 := below_step hV2 (Nat.le_refl _) hb3
          have KV3 := KV2.on hb3
          refine hK.out _ _ (HSS.out _ hV3) (fun hHeld => ?_)
          clear hK K
          refine wpAnyH_ready (rs := [8]) (by kernel_rfl) (by simp) ?_
          refine AllReadyH.cons rfl (fun K hK => ?_) AllReadyH.nil
          refine step_storeRow rfl rfl 68 _ _ rfl w1.heap.size #[.string ⟨#[]⟩, .bool false] #[.string S2, .bool b2] rfl rfl KV3 rfl (by kernel_rfl) (by simp [Value.oneCell']) ?_
          have hz := Nat.le_refl w1.heap.size
          have HP : Hid (PtS 28 w h w1.heap.size #[.int .i64 Kd, .int .i64 F, .int .i64 C, .int .i64 S, .string H, .int .i64 k0, .int .i64 k1, .int .i64 k2, .int .i64 k3, .int .i64 k4, .int .i64 k5, .int .i64 k6, .string s7, .string s8, .int .i64 q, .slice a n c] (S2, b2) (V3.setRow w1.heap.size #[.string S2, .bool b2])) := ⟨(HF1.out.on hV3).setRowOther _ (by have h1 := HF1.out.lt; omega) _, (KV3).setRow _, below_setRow (below_step HB1.out (Nat.le_refl _) hV3) (by have h1 := HB1.out.size; omega) _, HLF.out, by have h1 := HF1.out.lt; omega⟩
          refine hK.out _ _ (HSS.out _ (below_setRow hV3 (Nat.le_refl _) #[.string S2, .bool b2])) (fun hHeld => ?_)
          clear hK K
          refine wpAnyH_done (by kernel_rfl) (NoPanic.normal ?_) _
          go_wp2_with fail
          go_meet
          case rel => exact ⟨w1.heap.size, rfl, HP⟩
      case rest =>
        obtain ⟨g, rfl, HP⟩ := hcut
        clear HSS hS0 HF1 HB1 HLF CA CB
        try go_wp2_with fail
        refine wp_region_noPanic ?_
        refine till_begin 3 (fun W' => W'.cell? ⟨g, 0, none⟩ = some (.string S2) ∧ W'.cell? ⟨g, 1, none⟩ = some (.bool b2)) (fun W' => W'.cell? ⟨h, 2, none⟩ = some (.int .i64 C) ∧ W'.cell? ⟨h, 3, none⟩ = some (.int .i64 S)) (by kernel_rfl) ?_
        have HTT : Hid (∀ (o : ByteArray × Bool) W', PtS 28 w h g #[.int .i64 Kd, .int .i64 F, .int .i64 C, .int .i64 S, .string H, .int .i64 k0, .int .i64 k1, .int .i64 k2, .int .i64 k3, .int .i64 k4, .int .i64 k5, .int .i64 k6, .string s7, .string s8, .int .i64 q, .slice a n c] o W' → W'.cell? ⟨h, 2, none⟩ = some (.int .i64 C) ∧ W'.cell? ⟨h, 3, none⟩ = some (.int .i64 S)) := fun o W' k => ⟨k.f.cell 2, k.f.cell 3⟩
        have hT : wc.drew.cell? ⟨h, 2, none⟩ = some (.int .i64 C) ∧ wc.drew.cell? ⟨h, 3, none⟩ = some (.int .i64 S) := HTT.out _ _ (HP.out.on (Below.refl _ _).drew)
        have hS : wc.drew.cell? ⟨g, 0, none⟩ = some (.string S2) ∧ wc.drew.cell? ⟨g, 1, none⟩ = some (.bool b2) := ⟨HP.out.o.cell 0, HP.out.o.cell 1⟩
        refine till_take' (i := 0) (v := ?_) rfl rfl (by kernel_rfl) (by kernel_rfl) (by kernel_rfl) rfl (by kernel_rfl) (by kernel_rfl) (fun _ _ _ h => h) (Or.inl ⟨by rfl, ?_⟩) (by assumption) (by assumption) ?_
        rotate_left
        · intro w hSw; (try dsimp only at hSw); go_simp; try with_reducible rfl
        try simp only [Act.put, List.setIfInBounds_toArray, List.set_cons_zero, List.set_cons_succ]
        refine till_take (i := 1) (v := ?_) rfl rfl (by kernel_rfl) (by kernel_rfl) (by kernel_rfl) rfl (fun _ _ _ h => h) (Or.inl ⟨by rfl, ?_⟩) (by assumption) (fun _ => by assumption) ?_
        rotate_left
        · intro w hSw; (try dsimp only at hSw); go_simp; try with_reducible rfl
        try simp only [Act.put, List.setIfInBounds_toArray, List.set_cons_zero, List.set_cons_succ]
        refine till_take (i := 2) (v := ?_) rfl rfl (by kernel_rfl) (by kernel_rfl) (by kernel_rfl) rfl (fun _ _ _ h => h) (Or.inl ⟨by rfl, ?_⟩) (by assumption) (fun _ => by assumption) ?_
        rotate_left
        · intro w hSw; (try dsimp only at hSw); go_simp; try with_reducible rfl
        try simp only [Act.put, List.setIfInBounds_toArray, List.set_cons_zero, List.set_cons_succ]
        refine till_take (i := 4) (v := ?_) rfl rfl (by kernel_rfl) (by kernel_rfl) (by kernel_rfl) rfl (fun _ _ _ h => h) (Or.inl ⟨by rfl, ?_⟩) (by assumption) (fun _ => by assumption) ?_
        rotate_left
        · intro w hSw; (try dsimp only at hSw); go_simp; try with_reducible rfl
        try simp only [Act.put, List.setIfInBounds_toArray, List.set_cons_zero, List.set_cons_succ]
        refine till_take (i := 5) (v := ?_) rfl rfl (by kernel_rfl) (by kernel_rfl) (by kernel_rfl) rfl (fun _ _ _ h => h) (Or.inl ⟨by rfl, ?_⟩) (by assumption) (fun _ => by assumption) ?_
        rotate_left
        · intro w hSw; (try dsimp only at hSw); go_simp; try with_reducible rfl
        try simp only [Act.put, List.setIfInBounds_toArray, List.set_cons_zero, List.set_cons_succ]
        refine till_step (i := 3) (by kernel_rfl) rfl (fun K hK => ?_)
        go_simp
        refine (C3.out _).mono ?_
        rintro e wp ⟨rfl, hb⟩
        have HP1 : Hid (PtS 28 w h g #[.int .i64 Kd, .int .i64 F, .int .i64 C, .int .i64 S, .string H, .int .i64 k0, .int .i64 k1, .int .i64 k2, .int .i64 k3, .int .i64 k4, .int .i64 k5, .int .i64 k6, .string s7, .string s8, .int .i64 q, .slice a n c] (S2, b2) wp) := HP.out.on (below_step (Below.refl _ _).drew (Nat.le_refl _) hb)
        clear hb hS HP C3 hT
        refine hK.out _ _ (HTT.out _ _ HP1.out) (fun h => till_no (by kernel_rfl) h) ?_
        clear hK K
        refine till_step (i := 6) (by kernel_rfl) rfl (fun K hK => ?_)
        go_simp
        refine (C4.out _).mono ?_
        rintro e wq ⟨rfl, hb⟩
        have HP2 : Hid (PtS 28 w h g #[.int .i64 Kd, .int .i64 F, .int .i64 C, .int .i64 S, .string H, .int .i64 k0, .int .i64 k1, .int .i64 k2, .int .i64 k3, .int .i64 k4, .int .i64 k5, .int .i64 k6, .string s7, .string s8, .int .i64 q, .slice a n c] (S2, b2) wq) := HP1.out.on hb
        clear hb HP1 C4
        refine hK.out _ _ (HTT.out _ _ HP2.out) (fun h => till_no (by kernel_rfl) h) ?_
        clear hK K
        refine till_step (i := 7) (by kernel_rfl) rfl (fun K hK => ?_)
        refine step_storeRow rfl rfl 68 _ _ rfl g #[.string S2, .bool b2] #[.string S4, .bool b4] rfl rfl HP2.out.o rfl (by kernel_rfl) (by simp [Value.oneCell']) ?_
        have HP : Hid (PtS 28 w h g #[.int .i64 Kd, .int .i64 F, .int .i64 C, .int .i64 S, .string H, .int .i64 k0, .int .i64 k1, .int .i64 k2, .int .i64 k3, .int .i64 k4, .int .i64 k5, .int .i64 k6, .string s7, .string s8, .int .i64 q, .slice a n c] (S4, b4) (wq.setRow g #[.string S4, .bool b4])) := HP2.out.setO (S4, b4)
        clear HP2
        refine hK.out _ _ (HTT.out _ _ HP.out) (fun h => till_no (by kernel_rfl) h) ?_
        clear hK K
        refine till_done (by kernel_rfl) (NoPanic.normal ?_) _
        clear HTT
        obtain ⟨w4, hwx⟩ : ∃ wx, wq.setRow g #[.string S4, .bool b4] = wx := ⟨_, rfl⟩
        rw [hwx] at HP
        try rw [hwx]
        clear hwx wq
        have hp8 := HP.out
        have o0 : w4.cell? ⟨g, 0, none⟩ = some (.string S4) := hp8.o.cell 0
        have o1 : w4.cell? ⟨g, 1, none⟩ = some (.bool b4) := hp8.o.cell 1
        have o4 : w4.cell? ⟨h, 4, none⟩ = some (.string H) := hp8.f.cell 4
        clear hp8
        go_wp2_with fail
        refine (C5.out _).mono ?_
        rintro e w5 ⟨rfl, hb⟩
        have HP5 : Hid (PtS 28 w h g #[.int .i64 Kd, .int .i64 F, .int .i64 C, .int .i64 S, .string H, .int .i64 k0, .int .i64 k1, .int .i64 k2, .int .i64 k3, .int .i64 k4, .int .i64 k5, .int .i64 k6, .string s7, .string s8, .int .i64 q, .slice a n c] (S4, b4) w5) := HP.out.on hb
        clear hb HP C5 o0 o1 o4
        go_wp2_with fail
        refine (C6.out _).mono ?_
        rintro e w6 ⟨rfl, hb⟩
        have HP6 : Hid (PtS 28 w h g #[.int .i64 Kd, .int .i64 F, .int .i64 C, .int .i64 S, .string H, .int .i64 k0, .int .i64 k1, .int .i64 k2, .int .i64 k3, .int .i64 k4, .int .i64 k5, .int .i64 k6, .string s7, .string s8, .int .i64 q, .slice a n c] (S4, b4) w6) := HP5.out.on hb
        have X1 := HP6.out.o
        have HP : Hid (PtS 28 w h g #[.int .i64 Kd, .int .i64 F, .int .i64 C, .int .i64 S, .string H, .int .i64 k0, .int .i64 k1, .int .i64 k2, .int .i64 k3, .int .i64 k4, .int .i64 k5, .int .i64 k6, .string s7, .string s8, .int .i64 q, .slice a n c] (S6, b6) (w6.setRow g #[.string S6, .bool b6])) := HP6.out.setO (S6, b6)
        obtain ⟨w7, hw7⟩ : ∃ w7, w6.setRow g #[.string S6, .bool b6] = w7 := ⟨_, rfl⟩
        rw [hw7] at HP
        clear hb HP5 C6
        go_wp2_with (with_reducible refine wpList_storeBlk rfl 68 _ _ rfl g #[.string S4, .bool b4] #[.string S6, .bool b6] (by with_unfolding_all rfl) (by with_unfolding_all rfl) X1 rfl (by kernel_rfl) (by kernel_rfl) ?_)
        try rw [hw7]
        clear hw7 X1 HP6
        refine wp_region_noPanic ?_
        refine till_begin 3 (fun W' => W'.cell? ⟨g, 0, none⟩ = some (.string S6) ∧ W'.cell? ⟨g, 1, none⟩ = some (.bool b6)) (fun W' => W'.cell? ⟨h, 14, none⟩ = some (.int .i64 q) ∧ W'.cell? ⟨h, 15, none⟩ = some (.slice a n c)) (by kernel_rfl) ?_
        have HTT : Hid (∀ (o : ByteArray × Bool) W', PtS 28 w h g #[.int .i64 Kd, .int .i64 F, .int .i64 C, .int .i64 S, .string H, .int .i64 k0, .int .i64 k1, .int .i64 k2, .int .i64 k3, .int .i64 k4, .int .i64 k5, .int .i64 k6, .string s7, .string s8, .int .i64 q, .slice a n c] o W' → W'.cell? ⟨h, 14, none⟩ = some (.int .i64 q) ∧ W'.cell? ⟨h, 15, none⟩ = some (.slice a n c)) := fun o W' k => ⟨k.f.cell 14, k.f.cell 15⟩
        have hT : (w7).drew.cell? ⟨h, 14, none⟩ = some (.int .i64 q) ∧ (w7).drew.cell? ⟨h, 15, none⟩ = some (.slice a n c) := HTT.out _ _ (HP.out.on (Below.refl _ _).drew)
        have hS : (w7).drew.cell? ⟨g, 0, none⟩ = some (.string S6) ∧ (w7).drew.cell? ⟨g, 1, none⟩ = some (.bool b6) := ⟨HP.out.o.cell 0, HP.out.o.cell 1⟩
        refine till_take' (i := 0) (v := ?_) rfl rfl (by kernel_rfl) (by kernel_rfl) (by kernel_rfl) rfl (by kernel_rfl) (by kernel_rfl) (fun _ _ _ h => h) (Or.inl ⟨by rfl, ?_⟩) (by assumption) (by assumption) ?_
        rotate_left
        · intro w hSw; (try dsimp only at hSw); go_simp; try with_reducible rfl
        try simp only [Act.put, List.setIfInBounds_toArray, List.set_cons_zero, List.set_cons_succ]
        refine till_take (i := 1) (v := ?_) rfl rfl (by kernel_rfl) (by kernel_rfl) (by kernel_rfl) rfl (fun _ _ _ h => h) (Or.inl ⟨by rfl, ?_⟩) (by assumption) (fun _ => by assumption) ?_
        rotate_left
        · intro w hSw; (try dsimp only at hSw); go_simp; try with_reducible rfl
        try simp only [Act.put, List.setIfInBounds_toArray, List.set_cons_zero, List.set_cons_succ]
        refine till_take (i := 2) (v := ?_) rfl rfl (by kernel_rfl) (by kernel_rfl) (by kernel_rfl) rfl (fun _ _ _ h => h) (Or.inl ⟨by rfl, ?_⟩) (by assumption) (fun _ => by assumption) ?_
        rotate_left
        · intro w hSw; (try dsimp only at hSw); go_simp; try with_reducible rfl
        try simp only [Act.put, List.setIfInBounds_toArray, List.set_cons_zero, List.set_cons_succ]
        refine till_take (i := 4) (v := ?_) rfl rfl (by kernel_rfl) (by kernel_rfl) (by kernel_rfl) rfl (fun _ _ _ h => h) (Or.inl ⟨by rfl, ?_⟩) (by assumption) (fun _ => by assumption) ?_
        rotate_left
        · intro w hSw; (try dsimp only at hSw); go_simp; try with_reducible rfl
        try simp only [Act.put, List.setIfInBounds_toArray, List.set_cons_zero, List.set_cons_succ]
        refine till_take (i := 5) (v := ?_) rfl rfl (by kernel_rfl) (by kernel_rfl) (by kernel_rfl) rfl (fun _ _ _ h => h) (Or.inl ⟨by rfl, ?_⟩) (by assumption) (fun _ => by assumption) ?_
        rotate_left
        · intro w hSw; (try dsimp only at hSw); go_simp; try with_reducible rfl
        try simp only [Act.put, List.setIfInBounds_toArray, List.set_cons_zero, List.set_cons_succ]
        refine till_take (i := 6) (v := ?_) rfl rfl (by kernel_rfl) (by kernel_rfl) (by kernel_rfl) rfl (fun _ _ _ h => h) (Or.inl ⟨by rfl, ?_⟩) (by assumption) (fun _ => by assumption) ?_
        rotate_left
        · intro w hSw; (try dsimp only at hSw); go_simp; try with_reducible rfl
        try simp only [Act.put, List.setIfInBounds_toArray, List.set_cons_zero, List.set_cons_succ]
        refine till_step (i := 3) (by kernel_rfl) rfl (fun K hK => ?_)
        go_simp
        refine (C7.out _).mono ?_
        rintro e wp ⟨rfl, hb⟩
        have HP1 : Hid (PtS 28 w h g #[.int .i64 Kd, .int .i64 F, .int .i64 C, .int .i64 S, .string H, .int .i64 k0, .int .i64 k1, .int .i64 k2, .int .i64 k3, .int .i64 k4, .int .i64 k5, .int .i64 k6, .string s7, .string s8, .int .i64 q, .slice a n c] (S6, b6) wp) := HP.out.on (below_step (Below.refl _ _).drew (Nat.le_refl _) hb)
        clear hb hS HP C7 hT
        refine hK.out _ _ (HTT.out _ _ HP1.out) (fun h => till_no (by kernel_rfl) h) ?_
        clear hK K
        refine till_step (i := 7) (by kernel_rfl) rfl (fun K hK => ?_)
        go_simp
        refine (C8.out _).mono ?_
        rintro e wq ⟨rfl, hb⟩
        have HP2 : Hid (PtS 28 w h g #[.int .i64 Kd, .int .i64 F, .int .i64 C, .int .i64 S, .string H, .int .i64 k0, .int .i64 k1, .int .i64 k2, .int .i64 k3, .int .i64 k4, .int .i64 k5, .int .i64 k6, .string s7, .string s8, .int .i64 q, .slice a n c] (S6, b6) wq) := HP1.out.on hb
        clear hb HP1 C8
        refine hK.out _ _ (HTT.out _ _ HP2.out) (fun h => till_no (by kernel_rfl) h) ?_
        clear hK K
        refine till_step (i := 8) (by kernel_rfl) rfl (fun K hK => ?_)
        refine step_storeRow rfl rfl 68 _ _ rfl g #[.string S6, .bool b6] #[.string S8, .bool b8] rfl rfl HP2.out.o rfl (by kernel_rfl) (by simp [Value.oneCell']) ?_
        have HP : Hid (PtS 28 w h g #[.int .i64 Kd, .int .i64 F, .int .i64 C, .int .i64 S, .string H, .int .i64 k0, .int .i64 k1, .int .i64 k2, .int .i64 k3, .int .i64 k4, .int .i64 k5, .int .i64 k6, .string s7, .string s8, .int .i64 q, .slice a n c] (S8, b8) (wq.setRow g #[.string S8, .bool b8])) := HP2.out.setO (S8, b8)
        clear HP2
        refine hK.out _ _ (HTT.out _ _ HP.out) (fun h => till_no (by kernel_rfl) h) ?_
        clear hK K
        refine till_done (by kernel_rfl) (NoPanic.normal ?_) _
        clear HTT
        obtain ⟨w8, hwx⟩ : ∃ wx, wq.setRow g #[.string S8, .bool b8] = wx := ⟨_, rfl⟩
        rw [hwx] at HP
        try rw [hwx]
        clear hwx wq
        go_wp2_with fail
        have HP0 : Hid (PtS 28 w h g #[.int .i64 Kd, .int .i64 F, .int .i64 C, .int .i64 S, .string H, .int .i64 k0, .int .i64 k1, .int .i64 k2, .int .i64 k3, .int .i64 k4, .int .i64 k5, .int .i64 k6, .string s7, .string s8, .int .i64 q, .slice a n c] (writeA (S8, b8) ((l.take 0).flatMap wrPs)) w8) := HP.out
        clear HP
        go_loopw [6] (fun i wr => ∃ k : Nat, k ≤ n ∧ i = .int .i64 k ∧ Hid (PtS 28 w h g #[.int .i64 Kd, .int .i64 F, .int .i64 C, .int .i64 S, .string H, .int .i64 k0, .int .i64 k1, .int .i64 k2, .int .i64 k3, .int .i64 k4, .int .i64 k5, .int .i64 k6, .string s7, .string s8, .int .i64 q, .slice a n c] (writeA (S8, b8) ((l.take k).flatMap wrPs)) wr)) (fun i _ => n - (intOf i).toNat)
        case atStart => exact ⟨0, Nat.zero_le _, rfl, HP0⟩
        case round =>
          clear HP0
          obtain ⟨k, hk, rfl, HP⟩ := hrel
          have f6 : wr.cell? ⟨h, 15, none⟩ = some (.slice a n c) := HP.out.f.cell 15
          by_cases hlt : k < n
          · have d0 : (k : Int) < (n : Int) := by omega
            have d1 : (0 : Int) ≤ (k : Int) := by omega
            obtain ⟨lb, off, rfl, hcl⟩ := HI.out.2.resolve_left (by omega)
            have hnx := wlistW_take l k (by rw [HL.out]; exact hlt)
            have hz1 := HZ.out k
            have hsz : (writeA (S8, b8) ((l.take k).flatMap wrPs)).1.size ≤ 65536 := writeA_sizeW _ _ HSZ.out
            have hwn : writeA (S8, b8) ((l.take (k + 1)).flatMap wrPs) = textP (numP (writeA (S8, b8) ((l.take k).flatMap wrPs)) (wrL l k).1 1 255) (wrL l k).2 := by rw [hnx, writeA_app19, writeA_wrPs]
            obtain ⟨⟨Sx, bx⟩, ex⟩ : ∃ p, writeA (S8, b8) ((l.take k).flatMap wrPs) = p := ⟨_, rfl⟩
            rw [ex] at HP hsz hwn
            have HIW : Hid (∀ W', Below w.heap.size w W' → W'.cell? ⟨lb, off + k * 2, none⟩ = some (.int .i64 (wrL l k).1) ∧ W'.cell? ⟨lb, off + k * 2 + 1, none⟩ = some (.string (wrL l k).2)) := fun W' hW => by
              have q := (HI.out.below hW).2.resolve_left (by omega)
              obtain ⟨b', o', e', q⟩ := q
              injection e' with e'
              injection e' with e1 e2
              subst e1
              subst e2
              exact q k hlt
            clear hcl hnx ex
            obtain ⟨⟨x0, x1⟩, hx⟩ : ∃ x, wrL l k = x := ⟨_, rfl⟩
            rw [hx] at hz1 hwn HIW
            simp only at hz1 hwn HIW
            have zx : (Sx, bx).1.size ≤ 65536 := hsz
            obtain ⟨⟨Sy, by_⟩, ey⟩ : ∃ p, numP (Sx, bx) x0 1 255 = p := ⟨_, rfl⟩
            have zy : (Sy, by_).1.size ≤ 65536 := layP_sizeO zx ey
            have D1' : ∀ W, _ := fun W => rbyte_any (Sx, bx) x0 W zx
            rw [ey] at D1' hwn
            simp only [outV] at D1'
            have D1 : Hid (∀ W, _) := D1'
            obtain ⟨⟨Sz, bz⟩, ez⟩ : ∃ p, textP (Sy, by_) x1 = p := ⟨_, rfl⟩
            have D2' : ∀ W, _ := fun W => rtext_any (Sy, by_) x1 W zy hz1
            rw [ez] at D2' hwn
            simp only [outV] at D2'
            have D2 : Hid (∀ W, _) := D2'
            have HWN : Hid (writeA (S8, b8) ((l.take (k + 1)).flatMap wrPs) = (Sz, bz)) := hwn
            clear hwn D1' D2' zx zy ey ez hsz hx hz1
            go_wp2_with fail
            have HTT : Hid (∀ (o : ByteArray × Bool) W', PtS 28 w h g #[.int .i64 Kd, .int .i64 F, .int .i64 C, .int .i64 S, .string H, .int .i64 k0, .int .i64 k1, .int .i64 k2, .int .i64 k3, .int .i64 k4, .int .i64 k5, .int .i64 k6, .string s7, .string s8, .int .i64 q, .slice (some ⟨lb, off, none⟩) n c] o W' → W'.cell? ⟨h, 15, none⟩ = some (.slice (some ⟨lb, off, none⟩) n c) ∧ W'.cell? ⟨lb, off + k * 2, none⟩ = some (.int .i64 x0) ∧ W'.cell? ⟨lb, off + k * 2 + 1, none⟩ = some (.string x1)) := fun o W' k => ⟨k.f.cell 15, HIW.out W' k.bel⟩
            refine wp_region_noPanic ?_
            refine till_begin 7 (fun W' => W'.cell? ⟨g, 0, none⟩ = some (.string Sx) ∧ W'.cell? ⟨g, 1, none⟩ = some (.bool bx)) (fun W' => W'.cell? ⟨h, 15, none⟩ = some (.slice (some ⟨lb, off, none⟩) n c) ∧ W'.cell? ⟨lb, off + k * 2, none⟩ = some (.int .i64 x0) ∧ W'.cell? ⟨lb, off + k * 2 + 1, none⟩ = some (.string x1)) (by kernel_rfl) ?_
            have hT : wr.drew.cell? ⟨h, 15, none⟩ = some (.slice (some ⟨lb, off, none⟩) n c) ∧ wr.drew.cell? ⟨lb, off + k * 2, none⟩ = some (.int .i64 x0) ∧ wr.drew.cell? ⟨lb, off + k * 2 + 1, none⟩ = some (.string x1) := HTT.out _ _ (HP.out.on (Below.refl _ _).drew)
            have hS : wr.drew.cell? ⟨g, 0, none⟩ = some (.string Sx) ∧ wr.drew.cell? ⟨g, 1, none⟩ = some (.bool bx) := ⟨HP.out.o.cell 0, HP.out.o.cell 1⟩
            refine till_take' (i := 0) (v := ?_) rfl rfl (by kernel_rfl) (by kernel_rfl) (by kernel_rfl) rfl (by kernel_rfl) (by kernel_rfl) (fun _ _ _ h => h) (Or.inl ⟨by rfl, ?_⟩) (by assumption) (by assumption) ?_
            rotate_left
            · intro w hSw; (try dsimp only at hSw); go_simp; try with_reducible rfl
            try simp only [Act.put, List.setIfInBounds_toArray, List.set_cons_zero, List.set_cons_succ]
            refine till_take (i := 1) (v := ?_) rfl rfl (by kernel_rfl) (by kernel_rfl) (by kernel_rfl) rfl (fun _ _ _ h => h) (Or.inl ⟨by rfl, ?_⟩) (by assumption) (fun _ => by assumption) ?_
            rotate_left
            · intro w hSw; (try dsimp only at hSw); go_simp; try with_reducible rfl
            try simp only [Act.put, List.setIfInBounds_toArray, List.set_cons_zero, List.set_cons_succ]
            refine till_take (i := 2) (v := ?_) rfl rfl (by kernel_rfl) (by kernel_rfl) (by kernel_rfl) rfl (fun _ _ _ h => h) (Or.inl ⟨by rfl, ?_⟩) (by assumption) (fun _ => by assumption) ?_
            rotate_left
            · intro w hSw; (try dsimp only at hSw); go_simp; try with_reducible rfl
            try simp only [Act.put, List.setIfInBounds_toArray, List.set_cons_zero, List.set_cons_succ]
            refine till_take (i := 3) (v := ?_) rfl rfl (by kernel_rfl) (by kernel_rfl) (by kernel_rfl) rfl (fun _ _ _ h => h) (Or.inl ⟨by rfl, ?_⟩) (by assumption) (fun _ => by assumption) ?_
            rotate_left
            · intro w hSw; (try dsimp only at hSw); go_simp; try with_reducible rfl
            try simp only [Act.put, List.setIfInBounds_toArray, List.set_cons_zero, List.set_cons_succ]
            refine till_take (i := 4) (v := ?_) rfl rfl (by kernel_rfl) (by kernel_rfl) (by kernel_rfl) rfl (fun _ _ _ h => h) (Or.inl ⟨by rfl, ?_⟩) (by assumption) (fun _ => by assumption) ?_
            rotate_left
            · intro w hSw; (try dsimp only at hSw); go_simp; try with_reducible rfl
            try simp only [Act.put, List.setIfInBounds_toArray, List.set_cons_zero, List.set_cons_succ]
            refine till_take (i := 5) (v := ?_) rfl rfl (by kernel_rfl) (by kernel_rfl) (by kernel_rfl) rfl (fun _ _ _ h => h) (Or.inl ⟨by rfl, ?_⟩) (by assumption) (fun _ => by assumption) ?_
            rotate_left
            · intro w hSw; (try dsimp only at hSw); go_simp; try with_reducible rfl
            try simp only [Act.put, List.setIfInBounds_toArray, List.set_cons_zero, List.set_cons_succ]
            refine till_take (i := 6) (v := ?_) rfl rfl (by kernel_rfl) (by kernel_rfl) (by kernel_rfl) rfl (fun _ _ _ h => h) (Or.inl ⟨by rfl, ?_⟩) (by assumption) (fun _ => by assumption) ?_
            rotate_left
            · intro w hSw; (try dsimp only at hSw); go_simp; try with_reducible rfl
            try simp only [Act.put, List.setIfInBounds_toArray, List.set_cons_zero, List.set_cons_succ]
            refine till_take (i := 8) (v := ?_) rfl rfl (by kernel_rfl) (by kernel_rfl) (by kernel_rfl) rfl (fun _ _ _ h => h) (Or.inl ⟨by rfl, ?_⟩) (by assumption) (fun _ => by assumption) ?_
            rotate_left
            · intro w hSw; (try dsimp only at hSw); go_simp; try with_reducible rfl
            try simp only [Act.put, List.setIfInBounds_toArray, List.set_cons_zero, List.set_cons_succ]
            refine till_take (i := 9) (v := ?_) rfl rfl (by kernel_rfl) (by kernel_rfl) (by kernel_rfl) rfl (fun _ _ _ h => h) (Or.inl ⟨by rfl, ?_⟩) (by assumption) (fun _ => by assumption) ?_
            rotate_left
            · intro w hSw; (try dsimp only at hSw); go_simp; try with_reducible rfl
            try simp only [Act.put, List.setIfInBounds_toArray, List.set_cons_zero, List.set_cons_succ]
            refine till_take (i := 10) (v := ?_) rfl rfl (by kernel_rfl) (by kernel_rfl) (by kernel_rfl) rfl (fun _ _ _ h => h) (Or.inl ⟨by rfl, ?_⟩) (by assumption) (fun _ => by assumption) ?_
            rotate_left
            · intro w hSw; (try dsimp only at hSw); go_simp; try with_reducible rfl
            try simp only [Act.put, List.setIfInBounds_toArray, List.set_cons_zero, List.set_cons_succ]
            refine till_take (i := 11) (v := ?_) rfl rfl (by kernel_rfl) (by kernel_rfl) (by kernel_rfl) rfl (fun _ _ _ h => h) (Or.inl ⟨by rfl, ?_⟩) (by assumption) (fun _ => by assumption) ?_
            rotate_left
            · intro w hSw; (try dsimp only at hSw); go_simp; try with_reducible rfl
            try simp only [Act.put, List.setIfInBounds_toArray, List.set_cons_zero, List.set_cons_succ]
            refine till_take (i := 12) (v := ?_) rfl rfl (by kernel_rfl) (by kernel_rfl) (by kernel_rfl) rfl (fun _ _ _ h => h) (Or.inl ⟨by rfl, ?_⟩) (by assumption) (fun _ => by assumption) ?_
            rotate_left
            · intro w hSw; (try dsimp only at hSw); go_simp; try with_reducible rfl
            try simp only [Act.put, List.setIfInBounds_toArray, List.set_cons_zero, List.set_cons_succ]
            refine till_take (i := 13) (v := ?_) rfl rfl (by kernel_rfl) (by kernel_rfl) (by kernel_rfl) rfl (fun _ _ _ h => h) (Or.inl ⟨by rfl, ?_⟩) (by assumption) (fun _ => by assumption) ?_
            rotate_left
            · intro w hSw; (try dsimp only at hSw); go_simp; try with_reducible rfl
            try simp only [Act.put, List.setIfInBounds_toArray, List.set_cons_zero, List.set_cons_succ]
            refine till_step (i := 7) (by kernel_rfl) rfl (fun K hK => ?_)
            go_simp
            refine (D1.out _).mono ?_
            rintro e wp ⟨rfl, hb⟩
            have HP1 : Hid (PtS 28 w h g #[.int .i64 Kd, .int .i64 F, .int .i64 C, .int .i64 S, .string H, .int .i64 k0, .int .i64 k1, .int .i64 k2, .int .i64 k3, .int .i64 k4, .int .i64 k5, .int .i64 k6, .string s7, .string s8, .int .i64 q, .slice (some ⟨lb, off, none⟩) n c] (Sx, bx) wp) := HP.out.on (below_step (Below.refl _ _).drew (Nat.le_refl _) hb)
            clear hb hS HP D1 hT f6
            refine hK.out _ _ (HTT.out _ _ HP1.out) (fun h => till_no (by kernel_rfl) h) ?_
            clear hK K
            refine till_step (i := 14) (by kernel_rfl) rfl (fun K hK => ?_)
            go_simp
            refine (D2.out _).mono ?_
            rintro e wq ⟨rfl, hb⟩
            have HP2 : Hid (PtS 28 w h g #[.int .i64 Kd, .int .i64 F, .int .i64 C, .int .i64 S, .string H, .int .i64 k0, .int .i64 k1, .int .i64 k2, .int .i64 k3, .int .i64 k4, .int .i64 k5, .int .i64 k6, .string s7, .string s8, .int .i64 q, .slice (some ⟨lb, off, none⟩) n c] (Sx, bx) wq) := HP1.out.on hb
            clear hb HP1 D2
            refine hK.out _ _ (HTT.out _ _ HP2.out) (fun h => till_no (by kernel_rfl) h) ?_
            clear hK K
            refine till_step (i := 15) (by kernel_rfl) rfl (fun K hK => ?_)
            refine step_storeRow rfl rfl 68 _ _ rfl g #[.string Sx, .bool bx] #[.string Sz, .bool bz] rfl rfl HP2.out.o rfl (by kernel_rfl) (by simp [Value.oneCell']) ?_
            have HP : Hid (PtS 28 w h g #[.int .i64 Kd, .int .i64 F, .int .i64 C, .int .i64 S, .string H, .int .i64 k0, .int .i64 k1, .int .i64 k2, .int .i64 k3, .int .i64 k4, .int .i64 k5, .int .i64 k6, .string s7, .string s8, .int .i64 q, .slice (some ⟨lb, off, none⟩) n c] (writeA (S8, b8) ((l.take (k + 1)).flatMap wrPs)) (wq.setRow g #[.string Sz, .bool bz])) := by show PtS _ _ _ _ _ _ _; rw [HWN.out]; exact HP2.out.setO (Sz, bz)
            clear HP2 HWN
            refine hK.out _ _ (HTT.out _ _ HP.out) (fun h => till_no (by kernel_rfl) h) ?_
            clear hK K
            refine till_done (by kernel_rfl) (NoPanic.normal ?_) _
            clear HTT HIW
            go_wp2_with fail
            refine ⟨?_, ?_⟩
            · first
              | exact ⟨k + 1, by omega, by go_num, HP⟩
              | ((repeat apply Exists.intro); refine ⟨?_, rfl⟩; exact ⟨k + 1, by omega, by go_num, HP⟩)
            · simp [intOf] <;> omega
          · obtain rfl : k = n := by omega
            have d0 : ¬ ((k : Int) < (k : Int)) := by omega
            have hq := HPP.out
            have hp1 := HP.out
            rw [List.take_of_length_le (by rw [HL.out]; exact Nat.le_refl _)] at hp1
            obtain ⟨⟨Sx, bx⟩, ex⟩ : ∃ p, writeA (S8, b8) (l.flatMap wrPs) = p := ⟨_, rfl⟩
            rw [ex] at hq hp1
            have CD' : ∀ W, _ := fun W => rdone_any (Sx, bx) W
            rw [doneP_Q, hq] at CD'
            simp only [outV] at CD'
            have CD : Hid (∀ W, _) := CD'
            have o0 : wr.cell? ⟨g, 0, none⟩ = some (.string Sx) := hp1.o.cell 0
            have o1 : wr.cell? ⟨g, 1, none⟩ = some (.bool bx) := hp1.o.cell 1
            have HB : Hid (Below w.heap.size w wr) := hp1.bel
            clear hq hp1 ex CD' HP HPP
            go_wp2_with fail
            refine (CD.out _).mono ?_
            rintro e w9 ⟨rfl, hb⟩
            have hB := below_step HB.out (Nat.le_refl _) hb
            go_wp2_with fail
            go_ret2
            exact ⟨rfl, hB⟩
    · have tk : (Kd == 1) = false := by simp [hk]
      obtain rfl := HOB.out hk
      have HKd : Hid (¬ Kd = 1) := hk
      clear hk
      obtain ⟨w1, hw1⟩ : ∃ w1, wm = w1 := ⟨_, rfl⟩
      rw [hw1] at HFm HBm m0 ⊢
      have HF1 := HFm
      have HB1 := HBm
      clear hw1 HFm HBm CO HOB
      go_wp2_with fail
      clear tk m0 HKd
      as_aux_lemma =>
      have HSS : Hid (∀ W', Below w1.heap.size w1 W' → W'.cell? ⟨h, 0, none⟩ = some (.int .i64 Kd) ∧ W'.cell? ⟨h, 1, none⟩ = some (.int .i64 F)) := fun W' hW => ⟨(HF1.out.on hW).cell 0, (HF1.out.on hW).cell 1⟩
      have hS0 := HSS.out w1 (Below.refl _ _)
      go_cut [5] (fun u wx => ∃ g : Nat, u = .pointer (some ⟨g, 0, none⟩) ∧ Hid (PtS 28 w h g #[.int .i64 Kd, .int .i64 F, .int .i64 C, .int .i64 S, .string H, .int .i64 k0, .int .i64 k1, .int .i64 k2, .int .i64 k3, .int .i64 k4, .int .i64 k5, .int .i64 k6, .string s7, .string s8, .int .i64 q, .slice a n c] (S2, b2) wx))
      case first =>
        refine wp_region_noPanic ?_
        refine wp_region_held_drew (S := fun W' => W'.cell? ⟨h, 0, none⟩ = some (.int .i64 Kd) ∧ W'.cell? ⟨h, 1, none⟩ = some (.int .i64 F)) (by kernel_rfl) (by first | exact trivial | assumption | exact ⟨by assumption, by assumption⟩) (fun hHeld => ?_)
        refine take_at (i := 0) (v := ?_) rfl rfl (by kernel_rfl) (by kernel_rfl) (by kernel_rfl) (fun _ _ _ h => h) (Or.inl ⟨by rfl, ?_⟩) (by assumption) ?_
        rotate_left
        · intro w hSw; (try dsimp only at hSw); go_simp; try with_reducible rfl
        try simp only [Act.put, List.setIfInBounds_toArray, List.set_cons_zero, List.set_cons_succ]
        refine take_at (i := 1) (v := ?_) rfl rfl (by kernel_rfl) (by kernel_rfl) (by kernel_rfl) (fun _ _ _ h => h) (Or.inl ⟨by rfl, ?_⟩) (by assumption) ?_
        rotate_left
        · intro w hSw; (try dsimp only at hSw); go_simp; try with_reducible rfl
        try simp only [Act.put, List.setIfInBounds_toArray, List.set_cons_zero, List.set_cons_succ]
        refine take_at (i := 2) (v := ?_) rfl rfl (by kernel_rfl) (by kernel_rfl) (by kernel_rfl) (fun _ _ _ h => h) (Or.inl ⟨by rfl, ?_⟩) (by assumption) ?_
        rotate_left
        · intro w hSw; (try dsimp only at hSw); go_simp; try with_reducible rfl
        try simp only [Act.put, List.setIfInBounds_toArray, List.set_cons_zero, List.set_cons_succ]
        refine take_at (i := 4) (v := ?_) rfl rfl (by kernel_rfl) (by kernel_rfl) (by kernel_rfl) (fun _ _ _ h => h) (Or.inl ⟨by rfl, ?_⟩) (by assumption) ?_
        rotate_left
        · intro w hSw; (try dsimp only at hSw); go_simp; try with_reducible rfl
        try simp only [Act.put, List.setIfInBounds_toArray, List.set_cons_zero, List.set_cons_succ]
        refine take_at (i := 5) (v := ?_) rfl rfl (by kernel_rfl) (by kernel_rfl) (by kernel_rfl) (fun _ _ _ h => h) (Or.inl ⟨by rfl, ?_⟩) (by assumption) ?_
        rotate_left
        · intro w hSw; (try dsimp only at hSw); go_simp; try with_reducible rfl
        try simp only [Act.put, List.setIfInBounds_toArray, List.set_cons_zero, List.set_cons_succ]
        refine wpAnyH_ready (rs := [3, 7]) (by kernel_rfl) (by simp) ?_
        refine AllReadyH.cons rfl (fun K hK => ?_) (AllReadyH.cons rfl (fun K hK => ?_) AllReadyH.nil)
        · go_simp
          refine (CA.out _).mono ?_
          rintro e V1 ⟨rfl, hb1⟩
          have hV1 : Below w1.heap.size w1 V1 := below_step (Below.refl _ _).drew (Nat.le_refl _) hb1
          refine hK.out _ _ (HSS.out _ hV1) (fun hHeld => ?_)
          clear hK K
          refine wpAnyH_ready (rs := [6, 7]) (by kernel_rfl) (by simp) ?_
          refine AllReadyH.cons rfl (fun K hK => ?_) (AllReadyH.cons rfl (fun K hK => ?_) AllReadyH.nil)
          · go_simp
            refine (CB.out _).mono ?_
            rintro e V2 ⟨rfl, hb2⟩
            have hV2 : Below w1.heap.size w1 V2 := below_step hV1 (Nat.le_refl _) hb2
            refine hK.out _ _ (HSS.out _ hV2) (fun hHeld => ?_)
            clear hK K
            refine wpAnyH_ready (rs := [7]) (by kernel_rfl) (by simp) ?_
            refine AllReadyH.cons rfl (fun K hK => ?_) AllReadyH.nil
            go_simp
            have hV3 : Below w1.heap.size w1 (V2.alloc (.cells #[.string ⟨#[]⟩, .bool false] 68)) := hV2.alloc hV2.size _
            refine hK.out _ _ (HSS.out _ hV3) (fun hHeld => ?_)
            clear hK K
            refine wpAnyH_ready (rs := [8]) (by kernel_rfl) (by simp) ?_
            refine AllReadyH.cons rfl (fun K hK => ?_) AllReadyH.nil
            refine step_storeRow rfl rfl 68 _ _ rfl V2.heap.size #[.string ⟨#[]⟩, .bool false] #[.string S2, .bool b2] rfl rfl (Blk.new V2 _ _) rfl (by kernel_rfl) (by simp [Value.oneCell']) ?_
            have hz := hV2.size
            have HP : Hid (PtS 28 w h V2.heap.size #[.int .i64 Kd, .int .i64 F, .int .i64 C, .int .i64 S, .string H, .int .i64 k0, .int .i64 k1, .int .i64 k2, .int .i64 k3, .int .i64 k4, .int .i64 k5, .int .i64 k6, .string s7, .string s8, .int .i64 q, .slice a n c] (S2, b2) ((V2.alloc (.cells #[.string ⟨#[]⟩, .bool false] 68)).setRow V2.heap.size #[.string S2, .bool b2])) := ⟨(HF1.out.on hV3).setRowOther _ (by have h1 := HF1.out.lt; omega) _, ((Blk.new V2 _ _)).setRow _, below_setRow (below_step HB1.out (Nat.le_refl _) hV3) (by have h1 := HB1.out.size; omega) _, HLF.out, by have h1 := HF1.out.lt; omega⟩
            refine hK.out _ _ (HSS.out _ (below_setRow hV3 hV2.size #[.string S2, .bool b2])) (fun hHeld => ?_)
            clear hK K
            refine wpAnyH_done (by kernel_rfl) (NoPanic.normal ?_) _
            go_wp2_with fail
            go_meet
            case rel => exact ⟨V2.heap.size, rfl, HP⟩
          · go_simp
            have hV2 : Below w1.heap.size w1 (V1.alloc (.cells #[.string ⟨#[]⟩, .bool false] 68)) := hV1.alloc hV1.size _
            have KV1 : Blk (V1.alloc (.cells #[.string ⟨#[]⟩, .bool false] 68)) 68 V1.heap.size #[.string ⟨#[]⟩, .bool false] := Blk.new V1 _ _
            refine hK.out _ _ (HSS.out _ hV2) (fun hHeld => ?_)
            clear hK K
            refine wpAnyH_ready (rs := [6]) (by kernel_rfl) (by simp) ?_
            refine AllReadyH.cons rfl (fun K hK => ?_) AllReadyH.nil
            go_simp
            refine (CB.out _).mono ?_
            rintro e V2 ⟨rfl, hb2⟩
            have hV3 : Below w1.heap.size w1 V2 := below_step hV2 (Nat.le_refl _) hb2
            have KV2 := KV1.on hb2
            refine hK.out _ _ (HSS.out _ hV3) (fun hHeld => ?_)
            clear hK K
            refine wpAnyH_ready (rs := [8]) (by kernel_rfl) (by simp) ?_
            refine AllReadyH.cons rfl (fun K hK => ?_) AllReadyH.nil
            refine step_storeRow rfl rfl 68 _ _ rfl V1.heap.size #[.string ⟨#[]⟩, .bool false] #[.string S2, .bool b2] rfl rfl KV2 rfl (by kernel_rfl) (by simp [Value.oneCell']) ?_
            have hz := hV1.size
            have HP : Hid (PtS 28 w h V1.heap.size #[.int .i64 Kd, .int .i64 F, .int .i64 C, .int .i64 S, .string H, .int .i64 k0, .int .i64 k1, .int .i64 k2, .int .i64 k3, .int .i64 k4, .int .i64 k5, .int .i64 k6, .string s7, .string s8, .int .i64 q, .slice a n c] (S2, b2) (V2.setRow V1.heap.size #[.string S2, .bool b2])) := ⟨(HF1.out.on hV3).setRowOther _ (by have h1 := HF1.out.lt; omega) _, (KV2).setRow _, below_setRow (below_step HB1.out (Nat.le_refl _) hV3) (by have h1 := HB1.out.size; omega) _, HLF.out, by have h1 := HF1.out.lt; omega⟩
            refine hK.out _ _ (HSS.out _ (below_setRow hV3 hV1.size #[.string S2, .bool b2])) (fun hHeld => ?_)
            clear hK K
            refine wpAnyH_done (by kernel_rfl) (NoPanic.normal ?_) _
            go_wp2_with fail
            go_meet
            case rel => exact ⟨V1.heap.size, rfl, HP⟩
        · go_simp
          have hV1 : Below w1.heap.size w1 (w1.alloc (.cells #[.string ⟨#[]⟩, .bool false] 68)) := below_new _ _
          have KV1 : Blk (w1.alloc (.cells #[.string ⟨#[]⟩, .bool false] 68)).drew 68 w1.heap.size #[.string ⟨#[]⟩, .bool false] := Blk.new w1 _ _
          refine hK.out _ _ (HSS.out _ hV1.drew) (fun hHeld => ?_)
          clear hK K
          refine wpAnyH_ready (rs := [3]) (by kernel_rfl) (by simp) ?_
          refine AllReadyH.cons rfl (fun K hK => ?_) AllReadyH.nil
          go_simp
          refine (CA.out _).mono ?_
          rintro e V2 ⟨rfl, hb2⟩
          have hV2 : Below w1.heap.size w1 V2 := below_step hV1.drew (by simp) hb2
          have KV2 := KV1.on hb2
          refine hK.out _ _ (HSS.out _ hV2) (fun hHeld => ?_)
          clear hK K
          refine wpAnyH_ready (rs := [6]) (by kernel_rfl) (by simp) ?_
          refine AllReadyH.cons rfl (fun K hK => ?_) AllReadyH.nil
          go_simp
          refine (CB.out _).mono ?_
          rintro e V3 ⟨rfl, hb3⟩
          have hV3 : Below w1.heap.size w1 V3 := below_step hV2 (Nat.le_refl _) hb3
          have KV3 := KV2.on hb3
          refine hK.out _ _ (HSS.out _ hV3) (fun hHeld => ?_)
          clear hK K
          refine wpAnyH_ready (rs := [8]) (by kernel_rfl) (by simp) ?_
          refine AllReadyH.cons rfl (fun K hK => ?_) AllReadyH.nil
          refine step_storeRow rfl rfl 68 _ _ rfl w1.heap.size #[.string ⟨#[]⟩, .bool false] #[.string S2, .bool b2] rfl rfl KV3 rfl (by kernel_rfl) (by simp [Value.oneCell']) ?_
          have hz := Nat.le_refl w1.heap.size
          have HP : Hid (PtS 28 w h w1.heap.size #[.int .i64 Kd, .int .i64 F, .int .i64 C, .int .i64 S, .string H, .int .i64 k0, .int .i64 k1, .int .i64 k2, .int .i64 k3, .int .i64 k4, .int .i64 k5, .int .i64 k6, .string s7, .string s8, .int .i64 q, .slice a n c] (S2, b2) (V3.setRow w1.heap.size #[.string S2, .bool b2])) := ⟨(HF1.out.on hV3).setRowOther _ (by have h1 := HF1.out.lt; omega) _, (KV3).setRow _, below_setRow (below_step HB1.out (Nat.le_refl _) hV3) (by have h1 := HB1.out.size; omega) _, HLF.out, by have h1 := HF1.out.lt; omega⟩
          refine hK.out _ _ (HSS.out _ (below_setRow hV3 (Nat.le_refl _) #[.string S2, .bool b2])) (fun hHeld => ?_)
          clear hK K
          refine wpAnyH_done (by kernel_rfl) (NoPanic.normal ?_) _
          go_wp2_with fail
          go_meet
          case rel => exact ⟨w1.heap.size, rfl, HP⟩
      case rest =>
        obtain ⟨g, rfl, HP⟩ := hcut
        clear HSS hS0 HF1 HB1 HLF CA CB
        try go_wp2_with fail
        refine wp_region_noPanic ?_
        refine till_begin 3 (fun W' => W'.cell? ⟨g, 0, none⟩ = some (.string S2) ∧ W'.cell? ⟨g, 1, none⟩ = some (.bool b2)) (fun W' => W'.cell? ⟨h, 2, none⟩ = some (.int .i64 C) ∧ W'.cell? ⟨h, 3, none⟩ = some (.int .i64 S)) (by kernel_rfl) ?_
        have HTT : Hid (∀ (o : ByteArray × Bool) W', PtS 28 w h g #[.int .i64 Kd, .int .i64 F, .int .i64 C, .int .i64 S, .string H, .int .i64 k0, .int .i64 k1, .int .i64 k2, .int .i64 k3, .int .i64 k4, .int .i64 k5, .int .i64 k6, .string s7, .string s8, .int .i64 q, .slice a n c] o W' → W'.cell? ⟨h, 2, none⟩ = some (.int .i64 C) ∧ W'.cell? ⟨h, 3, none⟩ = some (.int .i64 S)) := fun o W' k => ⟨k.f.cell 2, k.f.cell 3⟩
        have hT : wc.drew.cell? ⟨h, 2, none⟩ = some (.int .i64 C) ∧ wc.drew.cell? ⟨h, 3, none⟩ = some (.int .i64 S) := HTT.out _ _ (HP.out.on (Below.refl _ _).drew)
        have hS : wc.drew.cell? ⟨g, 0, none⟩ = some (.string S2) ∧ wc.drew.cell? ⟨g, 1, none⟩ = some (.bool b2) := ⟨HP.out.o.cell 0, HP.out.o.cell 1⟩
        refine till_take' (i := 0) (v := ?_) rfl rfl (by kernel_rfl) (by kernel_rfl) (by kernel_rfl) rfl (by kernel_rfl) (by kernel_rfl) (fun _ _ _ h => h) (Or.inl ⟨by rfl, ?_⟩) (by assumption) (by assumption) ?_
        rotate_left
        · intro w hSw; (try dsimp only at hSw); go_simp; try with_reducible rfl
        try simp only [Act.put, List.setIfInBounds_toArray, List.set_cons_zero, List.set_cons_succ]
        refine till_take (i := 1) (v := ?_) rfl rfl (by kernel_rfl) (by kernel_rfl) (by kernel_rfl) rfl (fun _ _ _ h => h) (Or.inl ⟨by rfl, ?_⟩) (by assumption) (fun _ => by assumption) ?_
        rotate_left
        · intro w hSw; (try dsimp only at hSw); go_simp; try with_reducible rfl
        try simp only [Act.put, List.setIfInBounds_toArray, List.set_cons_zero, List.set_cons_succ]
        refine till_take (i := 2) (v := ?_) rfl rfl (by kernel_rfl) (by kernel_rfl) (by kernel_rfl) rfl (fun _ _ _ h => h) (Or.inl ⟨by rfl, ?_⟩) (by assumption) (fun _ => by assumption) ?_
        rotate_left
        · intro w hSw; (try dsimp only at hSw); go_simp; try with_reducible rfl
        try simp only [Act.put, List.setIfInBounds_toArray, List.set_cons_zero, List.set_cons_succ]
        refine till_take (i := 4) (v := ?_) rfl rfl (by kernel_rfl) (by kernel_rfl) (by kernel_rfl) rfl (fun _ _ _ h => h) (Or.inl ⟨by rfl, ?_⟩) (by assumption) (fun _ => by assumption) ?_
        rotate_left
        · intro w hSw; (try dsimp only at hSw); go_simp; try with_reducible rfl
        try simp only [Act.put, List.setIfInBounds_toArray, List.set_cons_zero, List.set_cons_succ]
        refine till_take (i := 5) (v := ?_) rfl rfl (by kernel_rfl) (by kernel_rfl) (by kernel_rfl) rfl (fun _ _ _ h => h) (Or.inl ⟨by rfl, ?_⟩) (by assumption) (fun _ => by assumption) ?_
        rotate_left
        · intro w hSw; (try dsimp only at hSw); go_simp; try with_reducible rfl
        try simp only [Act.put, List.setIfInBounds_toArray, List.set_cons_zero, List.set_cons_succ]
        refine till_step (i := 3) (by kernel_rfl) rfl (fun K hK => ?_)
        go_simp
        refine (C3.out _).mono ?_
        rintro e wp ⟨rfl, hb⟩
        have HP1 : Hid (PtS 28 w h g #[.int .i64 Kd, .int .i64 F, .int .i64 C, .int .i64 S, .string H, .int .i64 k0, .int .i64 k1, .int .i64 k2, .int .i64 k3, .int .i64 k4, .int .i64 k5, .int .i64 k6, .string s7, .string s8, .int .i64 q, .slice a n c] (S2, b2) wp) := HP.out.on (below_step (Below.refl _ _).drew (Nat.le_refl _) hb)
        clear hb hS HP C3 hT
        refine hK.out _ _ (HTT.out _ _ HP1.out) (fun h => till_no (by kernel_rfl) h) ?_
        clear hK K
        refine till_step (i := 6) (by kernel_rfl) rfl (fun K hK => ?_)
        go_simp
        refine (C4.out _).mono ?_
        rintro e wq ⟨rfl, hb⟩
        have HP2 : Hid (PtS 28 w h g #[.int .i64 Kd, .int .i64 F, .int .i64 C, .int .i64 S, .string H, .int .i64 k0, .int .i64 k1, .int .i64 k2, .int .i64 k3, .int .i64 k4, .int .i64 k5, .int .i64 k6, .string s7, .string s8, .int .i64 q, .slice a n c] (S2, b2) wq) := HP1.out.on hb
        clear hb HP1 C4
        refine hK.out _ _ (HTT.out _ _ HP2.out) (fun h => till_no (by kernel_rfl) h) ?_
        clear hK K
        refine till_step (i := 7) (by kernel_rfl) rfl (fun K hK => ?_)
        refine step_storeRow rfl rfl 68 _ _ rfl g #[.string S2, .bool b2] #[.string S4, .bool b4] rfl rfl HP2.out.o rfl (by kernel_rfl) (by simp [Value.oneCell']) ?_
        have HP : Hid (PtS 28 w h g #[.int .i64 Kd, .int .i64 F, .int .i64 C, .int .i64 S, .string H, .int .i64 k0, .int .i64 k1, .int .i64 k2, .int .i64 k3, .int .i64 k4, .int .i64 k5, .int .i64 k6, .string s7, .string s8, .int .i64 q, .slice a n c] (S4, b4) (wq.setRow g #[.string S4, .bool b4])) := HP2.out.setO (S4, b4)
        clear HP2
        refine hK.out _ _ (HTT.out _ _ HP.out) (fun h => till_no (by kernel_rfl) h) ?_
        clear hK K
        refine till_done (by kernel_rfl) (NoPanic.normal ?_) _
        clear HTT
        obtain ⟨w4, hwx⟩ : ∃ wx, wq.setRow g #[.string S4, .bool b4] = wx := ⟨_, rfl⟩
        rw [hwx] at HP
        try rw [hwx]
        clear hwx wq
        have hp8 := HP.out
        have o0 : w4.cell? ⟨g, 0, none⟩ = some (.string S4) := hp8.o.cell 0
        have o1 : w4.cell? ⟨g, 1, none⟩ = some (.bool b4) := hp8.o.cell 1
        have o4 : w4.cell? ⟨h, 4, none⟩ = some (.string H) := hp8.f.cell 4
        clear hp8
        go_wp2_with fail
        refine (C5.out _).mono ?_
        rintro e w5 ⟨rfl, hb⟩
        have HP5 : Hid (PtS 28 w h g #[.int .i64 Kd, .int .i64 F, .int .i64 C, .int .i64 S, .string H, .int .i64 k0, .int .i64 k1, .int .i64 k2, .int .i64 k3, .int .i64 k4, .int .i64 k5, .int .i64 k6, .string s7, .string s8, .int .i64 q, .slice a n c] (S4, b4) w5) := HP.out.on hb
        clear hb HP C5 o0 o1 o4
        go_wp2_with fail
        refine (C6.out _).mono ?_
        rintro e w6 ⟨rfl, hb⟩
        have HP6 : Hid (PtS 28 w h g #[.int .i64 Kd, .int .i64 F, .int .i64 C, .int .i64 S, .string H, .int .i64 k0, .int .i64 k1, .int .i64 k2, .int .i64 k3, .int .i64 k4, .int .i64 k5, .int .i64 k6, .string s7, .string s8, .int .i64 q, .slice a n c] (S4, b4) w6) := HP5.out.on hb
        have X1 := HP6.out.o
        have HP : Hid (PtS 28 w h g #[.int .i64 Kd, .int .i64 F, .int .i64 C, .int .i64 S, .string H, .int .i64 k0, .int .i64 k1, .int .i64 k2, .int .i64 k3, .int .i64 k4, .int .i64 k5, .int .i64 k6, .string s7, .string s8, .int .i64 q, .slice a n c] (S6, b6) (w6.setRow g #[.string S6, .bool b6])) := HP6.out.setO (S6, b6)
        obtain ⟨w7, hw7⟩ : ∃ w7, w6.setRow g #[.string S6, .bool b6] = w7 := ⟨_, rfl⟩
        rw [hw7] at HP
        clear hb HP5 C6
        go_wp2_with (with_reducible refine wpList_storeBlk rfl 68 _ _ rfl g #[.string S4, .bool b4] #[.string S6, .bool b6] (by with_unfolding_all rfl) (by with_unfolding_all rfl) X1 rfl (by kernel_rfl) (by kernel_rfl) ?_)
        try rw [hw7]
        clear hw7 X1 HP6
        refine wp_region_noPanic ?_
        refine till_begin 3 (fun W' => W'.cell? ⟨g, 0, none⟩ = some (.string S6) ∧ W'.cell? ⟨g, 1, none⟩ = some (.bool b6)) (fun W' => W'.cell? ⟨h, 14, none⟩ = some (.int .i64 q) ∧ W'.cell? ⟨h, 15, none⟩ = some (.slice a n c)) (by kernel_rfl) ?_
        have HTT : Hid (∀ (o : ByteArray × Bool) W', PtS 28 w h g #[.int .i64 Kd, .int .i64 F, .int .i64 C, .int .i64 S, .string H, .int .i64 k0, .int .i64 k1, .int .i64 k2, .int .i64 k3, .int .i64 k4, .int .i64 k5, .int .i64 k6, .string s7, .string s8, .int .i64 q, .slice a n c] o W' → W'.cell? ⟨h, 14, none⟩ = some (.int .i64 q) ∧ W'.cell? ⟨h, 15, none⟩ = some (.slice a n c)) := fun o W' k => ⟨k.f.cell 14, k.f.cell 15⟩
        have hT : (w7).drew.cell? ⟨h, 14, none⟩ = some (.int .i64 q) ∧ (w7).drew.cell? ⟨h, 15, none⟩ = some (.slice a n c) := HTT.out _ _ (HP.out.on (Below.refl _ _).drew)
        have hS : (w7).drew.cell? ⟨g, 0, none⟩ = some (.string S6) ∧ (w7).drew.cell? ⟨g, 1, none⟩ = some (.bool b6) := ⟨HP.out.o.cell 0, HP.out.o.cell 1⟩
        refine till_take' (i := 0) (v := ?_) rfl rfl (by kernel_rfl) (by kernel_rfl) (by kernel_rfl) rfl (by kernel_rfl) (by kernel_rfl) (fun _ _ _ h => h) (Or.inl ⟨by rfl, ?_⟩) (by assumption) (by assumption) ?_
        rotate_left
        · intro w hSw; (try dsimp only at hSw); go_simp; try with_reducible rfl
        try simp only [Act.put, List.setIfInBounds_toArray, List.set_cons_zero, List.set_cons_succ]
        refine till_take (i := 1) (v := ?_) rfl rfl (by kernel_rfl) (by kernel_rfl) (by kernel_rfl) rfl (fun _ _ _ h => h) (Or.inl ⟨by rfl, ?_⟩) (by assumption) (fun _ => by assumption) ?_
        rotate_left
        · intro w hSw; (try dsimp only at hSw); go_simp; try with_reducible rfl
        try simp only [Act.put, List.setIfInBounds_toArray, List.set_cons_zero, List.set_cons_succ]
        refine till_take (i := 2) (v := ?_) rfl rfl (by kernel_rfl) (by kernel_rfl) (by kernel_rfl) rfl (fun _ _ _ h => h) (Or.inl ⟨by rfl, ?_⟩) (by assumption) (fun _ => by assumption) ?_
        rotate_left
        · intro w hSw; (try dsimp only at hSw); go_simp; try with_reducible rfl
        try simp only [Act.put, List.setIfInBounds_toArray, List.set_cons_zero, List.set_cons_succ]
        refine till_take (i := 4) (v := ?_) rfl rfl (by kernel_rfl) (by kernel_rfl) (by kernel_rfl) rfl (fun _ _ _ h => h) (Or.inl ⟨by rfl, ?_⟩) (by assumption) (fun _ => by assumption) ?_
        rotate_left
        · intro w hSw; (try dsimp only at hSw); go_simp; try with_reducible rfl
        try simp only [Act.put, List.setIfInBounds_toArray, List.set_cons_zero, List.set_cons_succ]
        refine till_take (i := 5) (v := ?_) rfl rfl (by kernel_rfl) (by kernel_rfl) (by kernel_rfl) rfl (fun _ _ _ h => h) (Or.inl ⟨by rfl, ?_⟩) (by assumption) (fun _ => by assumption) ?_
        rotate_left
        · intro w hSw; (try dsimp only at hSw); go_simp; try with_reducible rfl
        try simp only [Act.put, List.setIfInBounds_toArray, List.set_cons_zero, List.set_cons_succ]
        refine till_take (i := 6) (v := ?_) rfl rfl (by kernel_rfl) (by kernel_rfl) (by kernel_rfl) rfl (fun _ _ _ h => h) (Or.inl ⟨by rfl, ?_⟩) (by assumption) (fun _ => by assumption) ?_
        rotate_left
        · intro w hSw; (try dsimp only at hSw); go_simp; try with_reducible rfl
        try simp only [Act.put, List.setIfInBounds_toArray, List.set_cons_zero, List.set_cons_succ]
        refine till_step (i := 3) (by kernel_rfl) rfl (fun K hK => ?_)
        go_simp
        refine (C7.out _).mono ?_
        rintro e wp ⟨rfl, hb⟩
        have HP1 : Hid (PtS 28 w h g #[.int .i64 Kd, .int .i64 F, .int .i64 C, .int .i64 S, .string H, .int .i64 k0, .int .i64 k1, .int .i64 k2, .int .i64 k3, .int .i64 k4, .int .i64 k5, .int .i64 k6, .string s7, .string s8, .int .i64 q, .slice a n c] (S6, b6) wp) := HP.out.on (below_step (Below.refl _ _).drew (Nat.le_refl _) hb)
        clear hb hS HP C7 hT
        refine hK.out _ _ (HTT.out _ _ HP1.out) (fun h => till_no (by kernel_rfl) h) ?_
        clear hK K
        refine till_step (i := 7) (by kernel_rfl) rfl (fun K hK => ?_)
        go_simp
        refine (C8.out _).mono ?_
        rintro e wq ⟨rfl, hb⟩
        have HP2 : Hid (PtS 28 w h g #[.int .i64 Kd, .int .i64 F, .int .i64 C, .int .i64 S, .string H, .int .i64 k0, .int .i64 k1, .int .i64 k2, .int .i64 k3, .int .i64 k4, .int .i64 k5, .int .i64 k6, .string s7, .string s8, .int .i64 q, .slice a n c] (S6, b6) wq) := HP1.out.on hb
        clear hb HP1 C8
        refine hK.out _ _ (HTT.out _ _ HP2.out) (fun h => till_no (by kernel_rfl) h) ?_
        clear hK K
        refine till_step (i := 8) (by kernel_rfl) rfl (fun K hK => ?_)
        refine step_storeRow rfl rfl 68 _ _ rfl g #[.string S6, .bool b6] #[.string S8, .bool b8] rfl rfl HP2.out.o rfl (by kernel_rfl) (by simp [Value.oneCell']) ?_
        have HP : Hid (PtS 28 w h g #[.int .i64 Kd, .int .i64 F, .int .i64 C, .int .i64 S, .string H, .int .i64 k0, .int .i64 k1, .int .i64 k2, .int .i64 k3, .int .i64 k4, .int .i64 k5, .int .i64 k6, .string s7, .string s8, .int .i64 q, .slice a n c] (S8, b8) (wq.setRow g #[.string S8, .bool b8])) := HP2.out.setO (S8, b8)
        clear HP2
        refine hK.out _ _ (HTT.out _ _ HP.out) (fun h => till_no (by kernel_rfl) h) ?_
        clear hK K
        refine till_done (by kernel_rfl) (NoPanic.normal ?_) _
        clear HTT
        obtain ⟨w8, hwx⟩ : ∃ wx, wq.setRow g #[.string S8, .bool b8] = wx := ⟨_, rfl⟩
        rw [hwx] at HP
        try rw [hwx]
        clear hwx wq
        go_wp2_with fail
        have HP0 : Hid (PtS 28 w h g #[.int .i64 Kd, .int .i64 F, .int .i64 C, .int .i64 S, .string H, .int .i64 k0, .int .i64 k1, .int .i64 k2, .int .i64 k3, .int .i64 k4, .int .i64 k5, .int .i64 k6, .string s7, .string s8, .int .i64 q, .slice a n c] (writeA (S8, b8) ((l.take 0).flatMap wrPs)) w8) := HP.out
        clear HP
        go_loopw [6] (fun i wr => ∃ k : Nat, k ≤ n ∧ i = .int .i64 k ∧ Hid (PtS 28 w h g #[.int .i64 Kd, .int .i64 F, .int .i64 C, .int .i64 S, .string H, .int .i64 k0, .int .i64 k1, .int .i64 k2, .int .i64 k3, .int .i64 k4, .int .i64 k5, .int .i64 k6, .string s7, .string s8, .int .i64 q, .slice a n c] (writeA (S8, b8) ((l.take k).flatMap wrPs)) wr)) (fun i _ => n - (intOf i).toNat)
        case atStart => exact ⟨0, Nat.zero_le _, rfl, HP0⟩
        case round =>
          clear HP0
          obtain ⟨k, hk, rfl, HP⟩ := hrel
          have f6 : wr.cell? ⟨h, 15, none⟩ = some (.slice a n c) := HP.out.f.cell 15
          by_cases hlt : k < n
          · have d0 : (k : Int) < (n : Int) := by omega
            have d1 : (0 : Int) ≤ (k : Int) := by omega
            obtain ⟨lb, off, rfl, hcl⟩ := HI.out.2.resolve_left (by omega)
            have hnx := wlistW_take l k (by rw [HL.out]; exact hlt)
            have hz1 := HZ.out k
            have hsz : (writeA (S8, b8) ((l.take k).flatMap wrPs)).1.size ≤ 65536 := writeA_sizeW _ _ HSZ.out
            have hwn : writeA (S8, b8) ((l.take (k + 1)).flatMap wrPs) = textP (numP (writeA (S8, b8) ((l.take k).flatMap wrPs)) (wrL l k).1 1 255) (wrL l k).2 := by rw [hnx, writeA_app19, writeA_wrPs]
            obtain ⟨⟨Sx, bx⟩, ex⟩ : ∃ p, writeA (S8, b8) ((l.take k).flatMap wrPs) = p := ⟨_, rfl⟩
            rw [ex] at HP hsz hwn
            have HIW : Hid (∀ W', Below w.heap.size w W' → W'.cell? ⟨lb, off + k * 2, none⟩ = some (.int .i64 (wrL l k).1) ∧ W'.cell? ⟨lb, off + k * 2 + 1, none⟩ = some (.string (wrL l k).2)) := fun W' hW => by
              have q := (HI.out.below hW).2.resolve_left (by omega)
              obtain ⟨b', o', e', q⟩ := q
              injection e' with e'
              injection e' with e1 e2
              subst e1
              subst e2
              exact q k hlt
            clear hcl hnx ex
            obtain ⟨⟨x0, x1⟩, hx⟩ : ∃ x, wrL l k = x := ⟨_, rfl⟩
            rw [hx] at hz1 hwn HIW
            simp only at hz1 hwn HIW
            have zx : (Sx, bx).1.size ≤ 65536 := hsz
            obtain ⟨⟨Sy, by_⟩, ey⟩ : ∃ p, numP (Sx, bx) x0 1 255 = p := ⟨_, rfl⟩
            have zy : (Sy, by_).1.size ≤ 65536 := layP_sizeO zx ey
            have D1' : ∀ W, _ := fun W => rbyte_any (Sx, bx) x0 W zx
            rw [ey] at D1' hwn
            simp only [outV] at D1'
            have D1 : Hid (∀ W, _) := D1'
            obtain ⟨⟨Sz, bz⟩, ez⟩ : ∃ p, textP (Sy, by_) x1 = p := ⟨_, rfl⟩
            have D2' : ∀ W, _ := fun W => rtext_any (Sy, by_) x1 W zy hz1
            rw [ez] at D2' hwn
            simp only [outV] at D2'
            have D2 : Hid (∀ W, _) := D2'
            have HWN : Hid (writeA (S8, b8) ((l.take (k + 1)).flatMap wrPs) = (Sz, bz)) := hwn
            clear hwn D1' D2' zx zy ey ez hsz hx hz1
            go_wp2_with fail
            have HTT : Hid (∀ (o : ByteArray × Bool) W', PtS 28 w h g #[.int .i64 Kd, .int .i64 F, .int .i64 C, .int .i64 S, .string H, .int .i64 k0, .int .i64 k1, .int .i64 k2, .int .i64 k3, .int .i64 k4, .int .i64 k5, .int .i64 k6, .string s7, .string s8, .int .i64 q, .slice (some ⟨lb, off, none⟩) n c] o W' → W'.cell? ⟨h, 15, none⟩ = some (.slice (some ⟨lb, off, none⟩) n c) ∧ W'.cell? ⟨lb, off + k * 2, none⟩ = some (.int .i64 x0) ∧ W'.cell? ⟨lb, off + k * 2 + 1, none⟩ = some (.string x1)) := fun o W' k => ⟨k.f.cell 15, HIW.out W' k.bel⟩
            refine wp_region_noPanic ?_
            refine till_begin 7 (fun W' => W'.cell? ⟨g, 0, none⟩ = some (.string Sx) ∧ W'.cell? ⟨g, 1, none⟩ = some (.bool bx)) (fun W' => W'.cell? ⟨h, 15, none⟩ = some (.slice (some ⟨lb, off, none⟩) n c) ∧ W'.cell? ⟨lb, off + k * 2, none⟩ = some (.int .i64 x0) ∧ W'.cell? ⟨lb, off + k * 2 + 1, none⟩ = some (.string x1)) (by kernel_rfl) ?_
            have hT : wr.drew.cell? ⟨h, 15, none⟩ = some (.slice (some ⟨lb, off, none⟩) n c) ∧ wr.drew.cell? ⟨lb, off + k * 2, none⟩ = some (.int .i64 x0) ∧ wr.drew.cell? ⟨lb, off + k * 2 + 1, none⟩ = some (.string x1) := HTT.out _ _ (HP.out.on (Below.refl _ _).drew)
            have hS : wr.drew.cell? ⟨g, 0, none⟩ = some (.string Sx) ∧ wr.drew.cell? ⟨g, 1, none⟩ = some (.bool bx) := ⟨HP.out.o.cell 0, HP.out.o.cell 1⟩
            refine till_take' (i := 0) (v := ?_) rfl rfl (by kernel_rfl) (by kernel_rfl) (by kernel_rfl) rfl (by kernel_rfl) (by kernel_rfl) (fun _ _ _ h => h) (Or.inl ⟨by rfl, ?_⟩) (by assumption) (by assumption) ?_
            rotate_left
            · intro w hSw; (try dsimp only at hSw); go_simp; try with_reducible rfl
            try simp only [Act.put, List.setIfInBounds_toArray, List.set_cons_zero, List.set_cons_succ]
            refine till_take (i := 1) (v := ?_) rfl rfl (by kernel_rfl) (by kernel_rfl) (by kernel_rfl) rfl (fun _ _ _ h => h) (Or.inl ⟨by rfl, ?_⟩) (by assumption) (fun _ => by assumption) ?_
            rotate_left
            · intro w hSw; (try dsimp only at hSw); go_simp; try with_reducible rfl
            try simp only [Act.put, List.setIfInBounds_toArray, List.set_cons_zero, List.set_cons_succ]
            refine till_take (i := 2) (v := ?_) rfl rfl (by kernel_rfl) (by kernel_rfl) (by kernel_rfl) rfl (fun _ _ _ h => h) (Or.inl ⟨by rfl, ?_⟩) (by assumption) (fun _ => by assumption) ?_
            rotate_left
            · intro w hSw; (try dsimp only at hSw); go_simp; try with_reducible rfl
            try simp only [Act.put, List.setIfInBounds_toArray, List.set_cons_zero, List.set_cons_succ]
            refine till_take (i := 3) (v := ?_) rfl rfl (by kernel_rfl) (by kernel_rfl) (by kernel_rfl) rfl (fun _ _ _ h => h) (Or.inl ⟨by rfl, ?_⟩) (by assumption) (fun _ => by assumption) ?_
            rotate_left
            · intro w hSw; (try dsimp only at hSw); go_simp; try with_reducible rfl
            try simp only [Act.put, List.setIfInBounds_toArray, List.set_cons_zero, List.set_cons_succ]
            refine till_take (i := 4) (v := ?_) rfl rfl (by kernel_rfl) (by kernel_rfl) (by kernel_rfl) rfl (fun _ _ _ h => h) (Or.inl ⟨by rfl, ?_⟩) (by assumption) (fun _ => by assumption) ?_
            rotate_left
            · intro w hSw; (try dsimp only at hSw); go_simp; try with_reducible rfl
            try simp only [Act.put, List.setIfInBounds_toArray, List.set_cons_zero, List.set_cons_succ]
            refine till_take (i := 5) (v := ?_) rfl rfl (by kernel_rfl) (by kernel_rfl) (by kernel_rfl) rfl (fun _ _ _ h => h) (Or.inl ⟨by rfl, ?_⟩) (by assumption) (fun _ => by assumption) ?_
            rotate_left
            · intro w hSw; (try dsimp only at hSw); go_simp; try with_reducible rfl
            try simp only [Act.put, List.setIfInBounds_toArray, List.set_cons_zero, List.set_cons_succ]
            refine till_take (i := 6) (v := ?_) rfl rfl (by kernel_rfl) (by kernel_rfl) (by kernel_rfl) rfl (fun _ _ _ h => h) (Or.inl ⟨by rfl, ?_⟩) (by assumption) (fun _ => by assumption) ?_
            rotate_left
            · intro w hSw; (try dsimp only at hSw); go_simp; try with_reducible rfl
            try simp only [Act.put, List.setIfInBounds_toArray, List.set_cons_zero, List.set_cons_succ]
            refine till_take (i := 8) (v := ?_) rfl rfl (by kernel_rfl) (by kernel_rfl) (by kernel_rfl) rfl (fun _ _ _ h => h) (Or.inl ⟨by rfl, ?_⟩) (by assumption) (fun _ => by assumption) ?_
            rotate_left
            · intro w hSw; (try dsimp only at hSw); go_simp; try with_reducible rfl
            try simp only [Act.put, List.setIfInBounds_toArray, List.set_cons_zero, List.set_cons_succ]
            refine till_take (i := 9) (v := ?_) rfl rfl (by kernel_rfl) (by kernel_rfl) (by kernel_rfl) rfl (fun _ _ _ h => h) (Or.inl ⟨by rfl, ?_⟩) (by assumption) (fun _ => by assumption) ?_
            rotate_left
            · intro w hSw; (try dsimp only at hSw); go_simp; try with_reducible rfl
            try simp only [Act.put, List.setIfInBounds_toArray, List.set_cons_zero, List.set_cons_succ]
            refine till_take (i := 10) (v := ?_) rfl rfl (by kernel_rfl) (by kernel_rfl) (by kernel_rfl) rfl (fun _ _ _ h => h) (Or.inl ⟨by rfl, ?_⟩) (by assumption) (fun _ => by assumption) ?_
            rotate_left
            · intro w hSw; (try dsimp only at hSw); go_simp; try with_reducible rfl
            try simp only [Act.put, List.setIfInBounds_toArray, List.set_cons_zero, List.set_cons_succ]
            refine till_take (i := 11) (v := ?_) rfl rfl (by kernel_rfl) (by kernel_rfl) (by kernel_rfl) rfl (fun _ _ _ h => h) (Or.inl ⟨by rfl, ?_⟩) (by assumption) (fun _ => by assumption) ?_
            rotate_left
            · intro w hSw; (try dsimp only at hSw); go_simp; try with_reducible rfl
            try simp only [Act.put, List.setIfInBounds_toArray, List.set_cons_zero, List.set_cons_succ]
            refine till_take (i := 12) (v := ?_) rfl rfl (by kernel_rfl) (by kernel_rfl) (by kernel_rfl) rfl (fun _ _ _ h => h) (Or.inl ⟨by rfl, ?_⟩) (by assumption) (fun _ => by assumption) ?_
            rotate_left
            · intro w hSw; (try dsimp only at hSw); go_simp; try with_reducible rfl
            try simp only [Act.put, List.setIfInBounds_toArray, List.set_cons_zero, List.set_cons_succ]
            refine till_take (i := 13) (v := ?_) rfl rfl (by kernel_rfl) (by kernel_rfl) (by kernel_rfl) rfl (fun _ _ _ h => h) (Or.inl ⟨by rfl, ?_⟩) (by assumption) (fun _ => by assumption) ?_
            rotate_left
            · intro w hSw; (try dsimp only at hSw); go_simp; try with_reducible rfl
            try simp only [Act.put, List.setIfInBounds_toArray, List.set_cons_zero, List.set_cons_succ]
            refine till_step (i := 7) (by kernel_rfl) rfl (fun K hK => ?_)
            go_simp
            refine (D1.out _).mono ?_
            rintro e wp ⟨rfl, hb⟩
            have HP1 : Hid (PtS 28 w h g #[.int .i64 Kd, .int .i64 F, .int .i64 C, .int .i64 S, .string H, .int .i64 k0, .int .i64 k1, .int .i64 k2, .int .i64 k3, .int .i64 k4, .int .i64 k5, .int .i64 k6, .string s7, .string s8, .int .i64 q, .slice (some ⟨lb, off, none⟩) n c] (Sx, bx) wp) := HP.out.on (below_step (Below.refl _ _).drew (Nat.le_refl _) hb)
            clear hb hS HP D1 hT f6
            refine hK.out _ _ (HTT.out _ _ HP1.out) (fun h => till_no (by kernel_rfl) h) ?_
            clear hK K
            refine till_step (i := 14) (by kernel_rfl) rfl (fun K hK => ?_)
            go_simp
            refine (D2.out _).mono ?_
            rintro e wq ⟨rfl, hb⟩
            have HP2 : Hid (PtS 28 w h g #[.int .i64 Kd, .int .i64 F, .int .i64 C, .int .i64 S, .string H, .int .i64 k0, .int .i64 k1, .int .i64 k2, .int .i64 k3, .int .i64 k4, .int .i64 k5, .int .i64 k6, .string s7, .string s8, .int .i64 q, .slice (some ⟨lb, off, none⟩) n c] (Sx, bx) wq) := HP1.out.on hb
            clear hb HP1 D2
            refine hK.out _ _ (HTT.out _ _ HP2.out) (fun h => till_no (by kernel_rfl) h) ?_
            clear hK K
            refine till_step (i := 15) (by kernel_rfl) rfl (fun K hK => ?_)
            refine step_storeRow rfl rfl 68 _ _ rfl g #[.string Sx, .bool bx] #[.string Sz, .bool bz] rfl rfl HP2.out.o rfl (by kernel_rfl) (by simp [Value.oneCell']) ?_
            have HP : Hid (PtS 28 w h g #[.int .i64 Kd, .int .i64 F, .int .i64 C, .int .i64 S, .string H, .int .i64 k0, .int .i64 k1, .int .i64 k2, .int .i64 k3, .int .i64 k4, .int .i64 k5, .int .i64 k6, .string s7, .string s8, .int .i64 q, .slice (some ⟨lb, off, none⟩) n c] (writeA (S8, b8) ((l.take (k + 1)).flatMap wrPs)) (wq.setRow g #[.string Sz, .bool bz])) := by show PtS _ _ _ _ _ _ _; rw [HWN.out]; exact HP2.out.setO (Sz, bz)
            clear HP2 HWN
            refine hK.out _ _ (HTT.out _ _ HP.out) (fun h => till_no (by kernel_rfl) h) ?_
            clear hK K
            refine till_done (by kernel_rfl) (NoPanic.normal ?_) _
            clear HTT HIW
            go_wp2_with fail
            refine ⟨?_, ?_⟩
            · first
              | exact ⟨k + 1, by omega, by go_num, HP⟩
              | ((repeat apply Exists.intro); refine ⟨?_, rfl⟩; exact ⟨k + 1, by omega, by go_num, HP⟩)
            · simp [intOf] <;> omega
          · obtain rfl : k = n := by omega
            have d0 : ¬ ((k : Int) < (k : Int)) := by omega
            have hq := HPP.out
            have hp1 := HP.out
            rw [List.take_of_length_le (by rw [HL.out]; exact Nat.le_refl _)] at hp1
            obtain ⟨⟨Sx, bx⟩, ex⟩ : ∃ p, writeA (S8, b8) (l.flatMap wrPs) = p := ⟨_, rfl⟩
            rw [ex] at hq hp1
            have CD' : ∀ W, _ := fun W => rdone_any (Sx, bx) W
            rw [doneP_Q, hq] at CD'
            simp only [outV] at CD'
            have CD : Hid (∀ W, _) := CD'
            have o0 : wr.cell? ⟨g, 0, none⟩ = some (.string Sx) := hp1.o.cell 0
            have o1 : wr.cell? ⟨g, 1, none⟩ = some (.bool bx) := hp1.o.cell 1
            have HB : Hid (Below w.heap.size w wr) := hp1.bel
            clear hq hp1 ex CD' HP HPP
            go_wp2_with fail
            refine (CD.out _).mono ?_
            rintro e w9 ⟨rfl, hb⟩
            have hB := below_step HB.out (Nat.le_refl _) hb
            go_wp2_with fail
            go_ret2
            exact ⟨rfl, hB⟩

end Go.Proofs.YtmjjpfinkpfifaaDoor
