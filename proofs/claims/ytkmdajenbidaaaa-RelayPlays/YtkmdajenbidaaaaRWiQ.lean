/- Layer 19, the document's: Put of frames. -/
import Derived.Test.YtkmdajenbidaaaaRWiS
import Derived.Test.YtkmdajenbidaaaaRWiF
import Derived.Test.YtkmdajenbidaaaaWiB
import Derived.Test.YtkmdajenbidaaaaG
import Derived.Deep.DeepCutAuto
namespace Go.Proofs.Ytkmdajenbidaaaa
open Go.RowKit
set_option maxRecDepth 100000
set_option linter.unusedSimpArgs false
set_option linter.unusedVariables false
set_option maxRecDepth 100000

set_option maxHeartbeats 16000000 in
theorem rputF_any (F : FrmT) (a : Option Addr) (c : Nat) (w : World) (hn : F.2.2.2.2.2.2.1.length ≤ 1048576) (hI : ItsAt w a F.2.2.2.2.2.2.1.length F.2.2.2.2.2.2.1) (hz : ∀ i, (itL F.2.2.2.2.2.2.1 i).2.2.size ≤ 1000000) (hb : F.2.2.2.2.2.1.size ≤ 1000000) :
    Calls Try.prog 8 #[.agg (frmA F a c)] w fun e w' => e = .returned (.tuple #[.string (putFC F).1, .int .i64 (putFC F).2]) ∧ Below w.heap.size w w' := by
  obtain ⟨p, hp⟩ : ∃ p, putFC F = p := ⟨_, rfl⟩
  rw [hp]
  have CM' : ∀ W, Below w.heap.size w W → _ := fun W hW => rmayF_any F a c W (mayFb F) (mayDoc_iff F) (hI.below hW) hn (fun i => Nat.le_trans (hz i) (by decide)) (Nat.le_trans hb (by decide))
  obtain ⟨X, hX⟩ : ∃ X : Bool, mayFb F = X := ⟨_, rfl⟩
  simp only [hX] at CM'
  have hp2 : putB X (frPs F) = p := by rw [← hp, ← hX]; exact putF_same F
  obtain ⟨Kd, G, S, E, M, bl, it, er⟩ := F
  unfold putB at hp2
  rw [writeA_frPs] at hp2
  simp only [frmA] at CM' hp2 hn hI hz hb ⊢
  obtain ⟨n, hnn⟩ : ∃ n, it.length = n := ⟨_, rfl⟩
  simp only [hnn] at CM' hp2 hn hI ⊢
  have HL : Hid (it.length = n) := hnn
  have HI : Hid (ItsAt w a n it) := hI
  have HZ : Hid (∀ i, (itL it i).2.2.size ≤ 1000000) := hz
  have CM : Hid (∀ W, Below w.heap.size w W → _) := CM'
  have hz_bl := hb
  clear CM' hp hX hnn hI hz hb
  have z0 : ((⟨#[]⟩ : ByteArray), false).1.size ≤ 65536 := by decide
  obtain ⟨⟨S1, b1⟩, e1⟩ : ∃ p, numP ((⟨#[]⟩ : ByteArray), false) (Kd) 1 255 = p := ⟨_, rfl⟩
  have z1 : (S1, b1).1.size ≤ 65536 := layP_sizeO z0 e1
  have C1' : ∀ W, _ := fun W => rbyte_any ((⟨#[]⟩ : ByteArray), false) (Kd) W z0
  rw [e1] at C1'
  simp only [outV] at C1'
  have C1 : Hid (∀ W, _) := C1'
  clear C1'
  obtain ⟨⟨S2, b2⟩, e2⟩ : ∃ p, numP (S1, b1) (G) 6 1099511627775 = p := ⟨_, rfl⟩
  have z2 : (S2, b2).1.size ≤ 65536 := layP_sizeO z1 e2
  have C2' : ∀ W, _ := fun W => rnum_any (S1, b1) (G) W z1
  rw [e2] at C2'
  simp only [outV] at C2'
  have C2 : Hid (∀ W, _) := C2'
  clear C2'
  obtain ⟨⟨S3, b3⟩, e3⟩ : ∃ p, numP (S2, b2) (S) 6 1099511627775 = p := ⟨_, rfl⟩
  have z3 : (S3, b3).1.size ≤ 65536 := layP_sizeO z2 e3
  have C3' : ∀ W, _ := fun W => rnum_any (S2, b2) (S) W z2
  rw [e3] at C3'
  simp only [outV] at C3'
  have C3 : Hid (∀ W, _) := C3'
  clear C3'
  obtain ⟨⟨S4, b4⟩, e4⟩ : ∃ p, numP (S3, b3) (E) 6 1099511627775 = p := ⟨_, rfl⟩
  have z4 : (S4, b4).1.size ≤ 65536 := layP_sizeO z3 e4
  have C4' : ∀ W, _ := fun W => rnum_any (S3, b3) (E) W z3
  rw [e4] at C4'
  simp only [outV] at C4'
  have C4 : Hid (∀ W, _) := C4'
  clear C4'
  obtain ⟨⟨S5, b5⟩, e5⟩ : ∃ p, numP (S4, b4) (M) 6 1099511627775 = p := ⟨_, rfl⟩
  have z5 : (S5, b5).1.size ≤ 65536 := layP_sizeO z4 e5
  have C5' : ∀ W, _ := fun W => rnum_any (S4, b4) (M) W z4
  rw [e5] at C5'
  simp only [outV] at C5'
  have C5 : Hid (∀ W, _) := C5'
  clear C5'
  obtain ⟨⟨S6, b6⟩, e6⟩ : ∃ p, numP (S5, b5) (er) 6 1099511627775 = p := ⟨_, rfl⟩
  have z6 : (S6, b6).1.size ≤ 65536 := layP_sizeO z5 e6
  have C6' : ∀ W, _ := fun W => rnum_any (S5, b5) (er) W z5
  rw [e6] at C6'
  simp only [outV] at C6'
  have C6 : Hid (∀ W, _) := C6'
  clear C6'
  obtain ⟨⟨S7, b7⟩, e7⟩ : ∃ p, textP (S6, b6) bl = p := ⟨_, rfl⟩
  have z7 : (S7, b7).1.size ≤ 65536 := textP_sizeO z6 e7
  have C7' : ∀ W, _ := fun W => rtext_any (S6, b6) bl W z6 hz_bl
  rw [e7] at C7'
  simp only [outV] at C7'
  have C7 : Hid (∀ W, _) := C7'
  clear C7'
  obtain ⟨⟨S8, b8⟩, e8⟩ : ∃ p, numP (S7, b7) ((n : Int)) 1 255 = p := ⟨_, rfl⟩
  have z8 : (S8, b8).1.size ≤ 65536 := layP_sizeO z7 e8
  have C8' : ∀ W, _ := fun W => rbyte_any (S7, b7) ((n : Int)) W z7
  rw [e8] at C8'
  simp only [outV] at C8'
  have C8 : Hid (∀ W, _) := C8'
  clear C8'
  simp only [e1, e2, e3, e4, e5, e6, e7, e8] at hp2
  have HSZ : Hid ((S8, b8).1.size ≤ 65536) := z8
  have HP : Hid (_ = p) := hp2
  clear hp2 e1 e2 e3 e4 e5 e6 e7 e8 z0 z1 z2 z3 z4 z5 z6 z7 z8 hz_bl
  have HB0 : Hid (Below w.heap.size w (w.alloc (.cells #[.int .i64 Kd, .int .i64 G, .int .i64 S, .int .i64 E, .int .i64 M, .string bl, .slice a n c, .int .i64 er] 39))) := below_new _ _
  have HK0 : Hid (Blk (w.alloc (.cells #[.int .i64 Kd, .int .i64 G, .int .i64 S, .int .i64 E, .int .i64 M, .string bl, .slice a n c, .int .i64 er] 39)) 39 w.heap.size #[.int .i64 Kd, .int .i64 G, .int .i64 S, .int .i64 E, .int .i64 M, .string bl, .slice a n c, .int .i64 er]) := Blk.new _ _ _
  go_enter Try.func8, Try.ntmps8
  go_wp2_with fail
  obtain ⟨w0, hw0⟩ : ∃ w0, w.alloc (.cells #[.int .i64 Kd, .int .i64 G, .int .i64 S, .int .i64 E, .int .i64 M, .string bl, .slice a n c, .int .i64 er] 39) = w0 := ⟨_, rfl⟩
  obtain ⟨h, hh⟩ : ∃ h, w.heap.size = h := ⟨_, rfl⟩
  have HLF : Hid (w.heap.size ≤ h) := Nat.le_of_eq hh
  rw [hw0] at HB0 HK0
  rw [hh] at HK0
  try rw [hw0]
  try rw [hh]
  clear hw0 hh
  refine (CM.out w0 HB0.out).mono ?_
  rintro e w1 ⟨rfl, hb1⟩
  have HB1 : Hid (Below w.heap.size w w1) := below_step HB0.out (Nat.le_refl _) hb1
  have HF1 : Hid (Blk w1 39 h #[.int .i64 Kd, .int .i64 G, .int .i64 S, .int .i64 E, .int .i64 M, .string bl, .slice a n c, .int .i64 er]) := HK0.out.on hb1
  clear hb1 HB0 HK0 CM
  cases X with
  | false =>
    obtain rfl : (⟨#[]⟩, 1) = p := by have h := HP.out; rwa [if_neg (by simp)] at h
    go_wp2_with fail
    go_ret2
    exact ⟨rfl, HB1.out⟩
  | true =>
    have hpp : doneQ (writeA (S8, b8) (it.flatMap itPs)) = p := by have h := HP.out; rwa [if_pos rfl] at h
    have HPP : Hid (doneQ (writeA (S8, b8) (it.flatMap itPs)) = p) := hpp
    have CA := C1
    have CB := C2
    clear HP hpp C1 C2
    go_wp2_with fail
    have HSS : Hid (∀ W', Below w1.heap.size w1 W' → W'.cell? ⟨h, 0, none⟩ = some (.int .i64 Kd) ∧ W'.cell? ⟨h, 1, none⟩ = some (.int .i64 G)) := fun W' hW => ⟨(HF1.out.on hW).cell 0, (HF1.out.on hW).cell 1⟩
    have hS0 := HSS.out w1 (Below.refl _ _)
    go_cut [4] (fun u wx => ∃ g : Nat, u = .pointer (some ⟨g, 0, none⟩) ∧ Hid (PtS 39 w h g #[.int .i64 Kd, .int .i64 G, .int .i64 S, .int .i64 E, .int .i64 M, .string bl, .slice a n c, .int .i64 er] (S2, b2) wx))
    case first =>
      refine wp_region_noPanic ?_
      refine wp_region_held_drew (S := fun W' => W'.cell? ⟨h, 0, none⟩ = some (.int .i64 Kd) ∧ W'.cell? ⟨h, 1, none⟩ = some (.int .i64 G)) (by kernel_rfl) (by first | exact trivial | assumption | exact ⟨by assumption, by assumption⟩) (fun hHeld => ?_)
      refine take_at (i := 0) (v := ?_) rfl rfl (by kernel_rfl) (by kernel_rfl) (by kernel_rfl) (fun _ _ _ h => h) (Or.inl ⟨by rfl, ?_⟩) (by assumption) ?_
      rotate_left
      · intro w hSw; (try dsimp only at hSw); go_simp; try with_reducible rfl
      try simp only [Act.put, List.setIfInBounds_toArray, List.set_cons_zero, List.set_cons_succ]
      refine take_at (i := 1) (v := ?_) rfl rfl (by kernel_rfl) (by kernel_rfl) (by kernel_rfl) (fun _ _ _ h => h) (Or.inl ⟨by rfl, ?_⟩) (by assumption) ?_
      rotate_left
      · intro w hSw; (try dsimp only at hSw); go_simp; try with_reducible rfl
      try simp only [Act.put, List.setIfInBounds_toArray, List.set_cons_zero, List.set_cons_succ]
      refine take_at (i := 2) (v := ?_) rfl rfl (by kernel_rfl) (by kernel_rfl) (by kernel_rfl) (fun _ _ _ h => h) (Or.inl ⟨by rfl, ?_⟩) (by assumption) ?_
      rotate_left
      · intro w hSw; (try dsimp only at hSw); go_simp; try with_reducible rfl
      try simp only [Act.put, List.setIfInBounds_toArray, List.set_cons_zero, List.set_cons_succ]
      refine take_at (i := 4) (v := ?_) rfl rfl (by kernel_rfl) (by kernel_rfl) (by kernel_rfl) (fun _ _ _ h => h) (Or.inl ⟨by rfl, ?_⟩) (by assumption) ?_
      rotate_left
      · intro w hSw; (try dsimp only at hSw); go_simp; try with_reducible rfl
      try simp only [Act.put, List.setIfInBounds_toArray, List.set_cons_zero, List.set_cons_succ]
      refine take_at (i := 5) (v := ?_) rfl rfl (by kernel_rfl) (by kernel_rfl) (by kernel_rfl) (fun _ _ _ h => h) (Or.inl ⟨by rfl, ?_⟩) (by assumption) ?_
      rotate_left
      · intro w hSw; (try dsimp only at hSw); go_simp; try with_reducible rfl
      try simp only [Act.put, List.setIfInBounds_toArray, List.set_cons_zero, List.set_cons_succ]
      refine wpAnyH_ready (rs := [3, 7]) (by kernel_rfl) (by simp) ?_
      refine AllReadyH.cons rfl (fun K hK => ?_) (AllReadyH.cons rfl (fun K hK => ?_) AllReadyH.nil)
      · go_simp
        refine (CA.out _).mono ?_
        rintro e V1 ⟨rfl, hb1⟩
        have hV1 : Below w1.heap.size w1 V1 := below_step (Below.refl _ _).drew (Nat.le_refl _) hb1
        refine hK.out _ _ (HSS.out _ hV1) (fun hHeld => ?_)
        clear hK K
        refine wpAnyH_ready (rs := [6, 7]) (by kernel_rfl) (by simp) ?_
        refine AllReadyH.cons rfl (fun K hK => ?_) (AllReadyH.cons rfl (fun K hK => ?_) AllReadyH.nil)
        · go_simp
          refine (CB.out _).mono ?_
          rintro e V2 ⟨rfl, hb2⟩
          have hV2 : Below w1.heap.size w1 V2 := below_step hV1 (Nat.le_refl _) hb2
          refine hK.out _ _ (HSS.out _ hV2) (fun hHeld => ?_)
          clear hK K
          refine wpAnyH_ready (rs := [7]) (by kernel_rfl) (by simp) ?_
          refine AllReadyH.cons rfl (fun K hK => ?_) AllReadyH.nil
          go_simp
          have hV3 : Below w1.heap.size w1 (V2.alloc (.cells #[.string ⟨#[]⟩, .bool false] 55)) := hV2.alloc hV2.size _
          refine hK.out _ _ (HSS.out _ hV3) (fun hHeld => ?_)
          clear hK K
          refine wpAnyH_ready (rs := [8]) (by kernel_rfl) (by simp) ?_
          refine AllReadyH.cons rfl (fun K hK => ?_) AllReadyH.nil
          refine step_storeRow rfl rfl 55 _ _ rfl V2.heap.size #[.string ⟨#[]⟩, .bool false] #[.string S2, .bool b2] rfl rfl (Blk.new V2 _ _) rfl (by kernel_rfl) (by simp [Value.oneCell']) ?_
          have hz := hV2.size
          have HP : Hid (PtS 39 w h V2.heap.size #[.int .i64 Kd, .int .i64 G, .int .i64 S, .int .i64 E, .int .i64 M, .string bl, .slice a n c, .int .i64 er] (S2, b2) ((V2.alloc (.cells #[.string ⟨#[]⟩, .bool false] 55)).setRow V2.heap.size #[.string S2, .bool b2])) := ⟨(HF1.out.on hV3).setRowOther _ (by have h1 := HF1.out.lt; omega) _, ((Blk.new V2 _ _)).setRow _, below_setRow (below_step HB1.out (Nat.le_refl _) hV3) (by have h1 := HB1.out.size; omega) _, HLF.out, by have h1 := HF1.out.lt; omega⟩
          refine hK.out _ _ (HSS.out _ (below_setRow hV3 hV2.size #[.string S2, .bool b2])) (fun hHeld => ?_)
          clear hK K
          refine wpAnyH_done (by kernel_rfl) (NoPanic.normal ?_) _
          go_wp2_with fail
          go_meet
          case rel => exact ⟨V2.heap.size, rfl, HP⟩
        · go_simp
          have hV2 : Below w1.heap.size w1 (V1.alloc (.cells #[.string ⟨#[]⟩, .bool false] 55)) := hV1.alloc hV1.size _
          have KV1 : Blk (V1.alloc (.cells #[.string ⟨#[]⟩, .bool false] 55)) 55 V1.heap.size #[.string ⟨#[]⟩, .bool false] := Blk.new V1 _ _
          refine hK.out _ _ (HSS.out _ hV2) (fun hHeld => ?_)
          clear hK K
          refine wpAnyH_ready (rs := [6]) (by kernel_rfl) (by simp) ?_
          refine AllReadyH.cons rfl (fun K hK => ?_) AllReadyH.nil
          go_simp
          refine (CB.out _).mono ?_
          rintro e V2 ⟨rfl, hb2⟩
          have hV3 : Below w1.heap.size w1 V2 := below_step hV2 (Nat.le_refl _) hb2
          have KV2 := KV1.on hb2
          refine hK.out _ _ (HSS.out _ hV3) (fun hHeld => ?_)
          clear hK K
          refine wpAnyH_ready (rs := [8]) (by kernel_rfl) (by simp) ?_
          refine AllReadyH.cons rfl (fun K hK => ?_) AllReadyH.nil
          refine step_storeRow rfl rfl 55 _ _ rfl V1.heap.size #[.string ⟨#[]⟩, .bool false] #[.string S2, .bool b2] rfl rfl KV2 rfl (by kernel_rfl) (by simp [Value.oneCell']) ?_
          have hz := hV1.size
          have HP : Hid (PtS 39 w h V1.heap.size #[.int .i64 Kd, .int .i64 G, .int .i64 S, .int .i64 E, .int .i64 M, .string bl, .slice a n c, .int .i64 er] (S2, b2) (V2.setRow V1.heap.size #[.string S2, .bool b2])) := ⟨(HF1.out.on hV3).setRowOther _ (by have h1 := HF1.out.lt; omega) _, (KV2).setRow _, below_setRow (below_step HB1.out (Nat.le_refl _) hV3) (by have h1 := HB1.out.size; omega) _, HLF.out, by have h1 := HF1.out.lt; omega⟩
          refine hK.out _ _ (HSS.out _ (below_setRow hV3 hV1.size #[.string S2, .bool b2])) (fun hHeld => ?_)
          clear hK K
          refine wpAnyH_done (by kernel_rfl) (NoPanic.normal ?_) _
          go_wp2_with fail
          go_meet
          case rel => exact ⟨V1.heap.size, rfl, HP⟩
      · go_simp
        have hV1 : Below w1.heap.size w1 (w1.alloc (.cells #[.string ⟨#[]⟩, .bool false] 55)) := below_new _ _
        have KV1 : Blk (w1.alloc (.cells #[.string ⟨#[]⟩, .bool false] 55)).drew 55 w1.heap.size #[.string ⟨#[]⟩, .bool false] := Blk.new w1 _ _
        refine hK.out _ _ (HSS.out _ hV1.drew) (fun hHeld => ?_)
        clear hK K
        refine wpAnyH_ready (rs := [3]) (by kernel_rfl) (by simp) ?_
        refine AllReadyH.cons rfl (fun K hK => ?_) AllReadyH.nil
        go_simp
        refine (CA.out _).mono ?_
        rintro e V2 ⟨rfl, hb2⟩
        have hV2 : Below w1.heap.size w1 V2 := below_step hV1.drew (by simp) hb2
        have KV2 := KV1.on hb2
        refine hK.out _ _ (HSS.out _ hV2) (fun hHeld => ?_)
        clear hK K
        refine wpAnyH_ready (rs := [6]) (by kernel_rfl) (by simp) ?_
        refine AllReadyH.cons rfl (fun K hK => ?_) AllReadyH.nil
        go_simp
        refine (CB.out _).mono ?_
        rintro e V3 ⟨rfl, hb3⟩
        have hV3 : Below w1.heap.size w1 V3 := below_step hV2 (Nat.le_refl _) hb3
        have KV3 := KV2.on hb3
        refine hK.out _ _ (HSS.out _ hV3) (fun hHeld => ?_)
        clear hK K
        refine wpAnyH_ready (rs := [8]) (by kernel_rfl) (by simp) ?_
        refine AllReadyH.cons rfl (fun K hK => ?_) AllReadyH.nil
        refine step_storeRow rfl rfl 55 _ _ rfl w1.heap.size #[.string ⟨#[]⟩, .bool false] #[.string S2, .bool b2] rfl rfl KV3 rfl (by kernel_rfl) (by simp [Value.oneCell']) ?_
        have hz := Nat.le_refl w1.heap.size
        have HP : Hid (PtS 39 w h w1.heap.size #[.int .i64 Kd, .int .i64 G, .int .i64 S, .int .i64 E, .int .i64 M, .string bl, .slice a n c, .int .i64 er] (S2, b2) (V3.setRow w1.heap.size #[.string S2, .bool b2])) := ⟨(HF1.out.on hV3).setRowOther _ (by have h1 := HF1.out.lt; omega) _, (KV3).setRow _, below_setRow (below_step HB1.out (Nat.le_refl _) hV3) (by have h1 := HB1.out.size; omega) _, HLF.out, by have h1 := HF1.out.lt; omega⟩
        refine hK.out _ _ (HSS.out _ (below_setRow hV3 (Nat.le_refl _) #[.string S2, .bool b2])) (fun hHeld => ?_)
        clear hK K
        refine wpAnyH_done (by kernel_rfl) (NoPanic.normal ?_) _
        go_wp2_with fail
        go_meet
        case rel => exact ⟨w1.heap.size, rfl, HP⟩
    case rest =>
      obtain ⟨g, rfl, HP⟩ := hcut
      clear HSS hS0 HF1 HB1 HLF CA CB
      try go_wp2_with fail
      refine wp_region_noPanic ?_
      refine till_begin 3 (fun W' => W'.cell? ⟨g, 0, none⟩ = some (.string S2) ∧ W'.cell? ⟨g, 1, none⟩ = some (.bool b2)) (fun W' => W'.cell? ⟨h, 2, none⟩ = some (.int .i64 S) ∧ W'.cell? ⟨h, 3, none⟩ = some (.int .i64 E)) (by kernel_rfl) ?_
      have HTT : Hid (∀ (o : ByteArray × Bool) W', PtS 39 w h g #[.int .i64 Kd, .int .i64 G, .int .i64 S, .int .i64 E, .int .i64 M, .string bl, .slice a n c, .int .i64 er] o W' → W'.cell? ⟨h, 2, none⟩ = some (.int .i64 S) ∧ W'.cell? ⟨h, 3, none⟩ = some (.int .i64 E)) := fun o W' k => ⟨k.f.cell 2, k.f.cell 3⟩
      have hT : wc.drew.cell? ⟨h, 2, none⟩ = some (.int .i64 S) ∧ wc.drew.cell? ⟨h, 3, none⟩ = some (.int .i64 E) := HTT.out _ _ (HP.out.on (Below.refl _ _).drew)
      have hS : wc.drew.cell? ⟨g, 0, none⟩ = some (.string S2) ∧ wc.drew.cell? ⟨g, 1, none⟩ = some (.bool b2) := ⟨HP.out.o.cell 0, HP.out.o.cell 1⟩
      refine till_take' (i := 0) (v := ?_) rfl rfl (by kernel_rfl) (by kernel_rfl) (by kernel_rfl) rfl (by kernel_rfl) (by kernel_rfl) (fun _ _ _ h => h) (Or.inl ⟨by rfl, ?_⟩) (by assumption) (by assumption) ?_
      rotate_left
      · intro w hSw; (try dsimp only at hSw); go_simp; try with_reducible rfl
      try simp only [Act.put, List.setIfInBounds_toArray, List.set_cons_zero, List.set_cons_succ]
      refine till_take (i := 1) (v := ?_) rfl rfl (by kernel_rfl) (by kernel_rfl) (by kernel_rfl) rfl (fun _ _ _ h => h) (Or.inl ⟨by rfl, ?_⟩) (by assumption) (fun _ => by assumption) ?_
      rotate_left
      · intro w hSw; (try dsimp only at hSw); go_simp; try with_reducible rfl
      try simp only [Act.put, List.setIfInBounds_toArray, List.set_cons_zero, List.set_cons_succ]
      refine till_take (i := 2) (v := ?_) rfl rfl (by kernel_rfl) (by kernel_rfl) (by kernel_rfl) rfl (fun _ _ _ h => h) (Or.inl ⟨by rfl, ?_⟩) (by assumption) (fun _ => by assumption) ?_
      rotate_left
      · intro w hSw; (try dsimp only at hSw); go_simp; try with_reducible rfl
      try simp only [Act.put, List.setIfInBounds_toArray, List.set_cons_zero, List.set_cons_succ]
      refine till_take (i := 4) (v := ?_) rfl rfl (by kernel_rfl) (by kernel_rfl) (by kernel_rfl) rfl (fun _ _ _ h => h) (Or.inl ⟨by rfl, ?_⟩) (by assumption) (fun _ => by assumption) ?_
      rotate_left
      · intro w hSw; (try dsimp only at hSw); go_simp; try with_reducible rfl
      try simp only [Act.put, List.setIfInBounds_toArray, List.set_cons_zero, List.set_cons_succ]
      refine till_take (i := 5) (v := ?_) rfl rfl (by kernel_rfl) (by kernel_rfl) (by kernel_rfl) rfl (fun _ _ _ h => h) (Or.inl ⟨by rfl, ?_⟩) (by assumption) (fun _ => by assumption) ?_
      rotate_left
      · intro w hSw; (try dsimp only at hSw); go_simp; try with_reducible rfl
      try simp only [Act.put, List.setIfInBounds_toArray, List.set_cons_zero, List.set_cons_succ]
      refine till_step (i := 3) (by kernel_rfl) rfl (fun K hK => ?_)
      go_simp
      refine (C3.out _).mono ?_
      rintro e wp ⟨rfl, hb⟩
      have HP1 : Hid (PtS 39 w h g #[.int .i64 Kd, .int .i64 G, .int .i64 S, .int .i64 E, .int .i64 M, .string bl, .slice a n c, .int .i64 er] (S2, b2) wp) := HP.out.on (below_step (Below.refl _ _).drew (Nat.le_refl _) hb)
      clear hb hS HP C3 hT
      refine hK.out _ _ (HTT.out _ _ HP1.out) (fun h => till_no (by kernel_rfl) h) ?_
      clear hK K
      refine till_step (i := 6) (by kernel_rfl) rfl (fun K hK => ?_)
      go_simp
      refine (C4.out _).mono ?_
      rintro e wq ⟨rfl, hb⟩
      have HP2 : Hid (PtS 39 w h g #[.int .i64 Kd, .int .i64 G, .int .i64 S, .int .i64 E, .int .i64 M, .string bl, .slice a n c, .int .i64 er] (S2, b2) wq) := HP1.out.on hb
      clear hb HP1 C4
      refine hK.out _ _ (HTT.out _ _ HP2.out) (fun h => till_no (by kernel_rfl) h) ?_
      clear hK K
      refine till_step (i := 7) (by kernel_rfl) rfl (fun K hK => ?_)
      refine step_storeRow rfl rfl 55 _ _ rfl g #[.string S2, .bool b2] #[.string S4, .bool b4] rfl rfl HP2.out.o rfl (by kernel_rfl) (by simp [Value.oneCell']) ?_
      have HP : Hid (PtS 39 w h g #[.int .i64 Kd, .int .i64 G, .int .i64 S, .int .i64 E, .int .i64 M, .string bl, .slice a n c, .int .i64 er] (S4, b4) (wq.setRow g #[.string S4, .bool b4])) := HP2.out.setO (S4, b4)
      clear HP2
      refine hK.out _ _ (HTT.out _ _ HP.out) (fun h => till_no (by kernel_rfl) h) ?_
      clear hK K
      refine till_done (by kernel_rfl) (NoPanic.normal ?_) _
      clear HTT
      obtain ⟨w4, hwx⟩ : ∃ wx, wq.setRow g #[.string S4, .bool b4] = wx := ⟨_, rfl⟩
      rw [hwx] at HP
      try rw [hwx]
      clear hwx wq
      go_wp2_with fail
      refine wp_region_noPanic ?_
      refine till_begin 3 (fun W' => W'.cell? ⟨g, 0, none⟩ = some (.string S4) ∧ W'.cell? ⟨g, 1, none⟩ = some (.bool b4)) (fun W' => W'.cell? ⟨h, 4, none⟩ = some (.int .i64 M) ∧ W'.cell? ⟨h, 7, none⟩ = some (.int .i64 er)) (by kernel_rfl) ?_
      have HTT : Hid (∀ (o : ByteArray × Bool) W', PtS 39 w h g #[.int .i64 Kd, .int .i64 G, .int .i64 S, .int .i64 E, .int .i64 M, .string bl, .slice a n c, .int .i64 er] o W' → W'.cell? ⟨h, 4, none⟩ = some (.int .i64 M) ∧ W'.cell? ⟨h, 7, none⟩ = some (.int .i64 er)) := fun o W' k => ⟨k.f.cell 4, k.f.cell 7⟩
      have hT : (w4).drew.cell? ⟨h, 4, none⟩ = some (.int .i64 M) ∧ (w4).drew.cell? ⟨h, 7, none⟩ = some (.int .i64 er) := HTT.out _ _ (HP.out.on (Below.refl _ _).drew)
      have hS : (w4).drew.cell? ⟨g, 0, none⟩ = some (.string S4) ∧ (w4).drew.cell? ⟨g, 1, none⟩ = some (.bool b4) := ⟨HP.out.o.cell 0, HP.out.o.cell 1⟩
      refine till_take' (i := 0) (v := ?_) rfl rfl (by kernel_rfl) (by kernel_rfl) (by kernel_rfl) rfl (by kernel_rfl) (by kernel_rfl) (fun _ _ _ h => h) (Or.inl ⟨by rfl, ?_⟩) (by assumption) (by assumption) ?_
      rotate_left
      · intro w hSw; (try dsimp only at hSw); go_simp; try with_reducible rfl
      try simp only [Act.put, List.setIfInBounds_toArray, List.set_cons_zero, List.set_cons_succ]
      refine till_take (i := 1) (v := ?_) rfl rfl (by kernel_rfl) (by kernel_rfl) (by kernel_rfl) rfl (fun _ _ _ h => h) (Or.inl ⟨by rfl, ?_⟩) (by assumption) (fun _ => by assumption) ?_
      rotate_left
      · intro w hSw; (try dsimp only at hSw); go_simp; try with_reducible rfl
      try simp only [Act.put, List.setIfInBounds_toArray, List.set_cons_zero, List.set_cons_succ]
      refine till_take (i := 2) (v := ?_) rfl rfl (by kernel_rfl) (by kernel_rfl) (by kernel_rfl) rfl (fun _ _ _ h => h) (Or.inl ⟨by rfl, ?_⟩) (by assumption) (fun _ => by assumption) ?_
      rotate_left
      · intro w hSw; (try dsimp only at hSw); go_simp; try with_reducible rfl
      try simp only [Act.put, List.setIfInBounds_toArray, List.set_cons_zero, List.set_cons_succ]
      refine till_take (i := 4) (v := ?_) rfl rfl (by kernel_rfl) (by kernel_rfl) (by kernel_rfl) rfl (fun _ _ _ h => h) (Or.inl ⟨by rfl, ?_⟩) (by assumption) (fun _ => by assumption) ?_
      rotate_left
      · intro w hSw; (try dsimp only at hSw); go_simp; try with_reducible rfl
      try simp only [Act.put, List.setIfInBounds_toArray, List.set_cons_zero, List.set_cons_succ]
      refine till_take (i := 5) (v := ?_) rfl rfl (by kernel_rfl) (by kernel_rfl) (by kernel_rfl) rfl (fun _ _ _ h => h) (Or.inl ⟨by rfl, ?_⟩) (by assumption) (fun _ => by assumption) ?_
      rotate_left
      · intro w hSw; (try dsimp only at hSw); go_simp; try with_reducible rfl
      try simp only [Act.put, List.setIfInBounds_toArray, List.set_cons_zero, List.set_cons_succ]
      refine till_step (i := 3) (by kernel_rfl) rfl (fun K hK => ?_)
      go_simp
      refine (C5.out _).mono ?_
      rintro e wp ⟨rfl, hb⟩
      have HP1 : Hid (PtS 39 w h g #[.int .i64 Kd, .int .i64 G, .int .i64 S, .int .i64 E, .int .i64 M, .string bl, .slice a n c, .int .i64 er] (S4, b4) wp) := HP.out.on (below_step (Below.refl _ _).drew (Nat.le_refl _) hb)
      clear hb hS HP C5 hT
      refine hK.out _ _ (HTT.out _ _ HP1.out) (fun h => till_no (by kernel_rfl) h) ?_
      clear hK K
      refine till_step (i := 6) (by kernel_rfl) rfl (fun K hK => ?_)
      go_simp
      refine (C6.out _).mono ?_
      rintro e wq ⟨rfl, hb⟩
      have HP2 : Hid (PtS 39 w h g #[.int .i64 Kd, .int .i64 G, .int .i64 S, .int .i64 E, .int .i64 M, .string bl, .slice a n c, .int .i64 er] (S4, b4) wq) := HP1.out.on hb
      clear hb HP1 C6
      refine hK.out _ _ (HTT.out _ _ HP2.out) (fun h => till_no (by kernel_rfl) h) ?_
      clear hK K
      refine till_step (i := 7) (by kernel_rfl) rfl (fun K hK => ?_)
      refine step_storeRow rfl rfl 55 _ _ rfl g #[.string S4, .bool b4] #[.string S6, .bool b6] rfl rfl HP2.out.o rfl (by kernel_rfl) (by simp [Value.oneCell']) ?_
      have HP : Hid (PtS 39 w h g #[.int .i64 Kd, .int .i64 G, .int .i64 S, .int .i64 E, .int .i64 M, .string bl, .slice a n c, .int .i64 er] (S6, b6) (wq.setRow g #[.string S6, .bool b6])) := HP2.out.setO (S6, b6)
      clear HP2
      refine hK.out _ _ (HTT.out _ _ HP.out) (fun h => till_no (by kernel_rfl) h) ?_
      clear hK K
      refine till_done (by kernel_rfl) (NoPanic.normal ?_) _
      clear HTT
      obtain ⟨w6, hwx⟩ : ∃ wx, wq.setRow g #[.string S6, .bool b6] = wx := ⟨_, rfl⟩
      rw [hwx] at HP
      try rw [hwx]
      clear hwx wq
      go_wp2_with fail
      refine wp_region_noPanic ?_
      refine till_begin 3 (fun W' => W'.cell? ⟨g, 0, none⟩ = some (.string S6) ∧ W'.cell? ⟨g, 1, none⟩ = some (.bool b6)) (fun W' => W'.cell? ⟨h, 5, none⟩ = some (.string bl) ∧ W'.cell? ⟨h, 6, none⟩ = some (.slice a n c)) (by kernel_rfl) ?_
      have HTT : Hid (∀ (o : ByteArray × Bool) W', PtS 39 w h g #[.int .i64 Kd, .int .i64 G, .int .i64 S, .int .i64 E, .int .i64 M, .string bl, .slice a n c, .int .i64 er] o W' → W'.cell? ⟨h, 5, none⟩ = some (.string bl) ∧ W'.cell? ⟨h, 6, none⟩ = some (.slice a n c)) := fun o W' k => ⟨k.f.cell 5, k.f.cell 6⟩
      have hT : (w6).drew.cell? ⟨h, 5, none⟩ = some (.string bl) ∧ (w6).drew.cell? ⟨h, 6, none⟩ = some (.slice a n c) := HTT.out _ _ (HP.out.on (Below.refl _ _).drew)
      have hS : (w6).drew.cell? ⟨g, 0, none⟩ = some (.string S6) ∧ (w6).drew.cell? ⟨g, 1, none⟩ = some (.bool b6) := ⟨HP.out.o.cell 0, HP.out.o.cell 1⟩
      refine till_take' (i := 0) (v := ?_) rfl rfl (by kernel_rfl) (by kernel_rfl) (by kernel_rfl) rfl (by kernel_rfl) (by kernel_rfl) (fun _ _ _ h => h) (Or.inl ⟨by rfl, ?_⟩) (by assumption) (by assumption) ?_
      rotate_left
      · intro w hSw; (try dsimp only at hSw); go_simp; try with_reducible rfl
      try simp only [Act.put, List.setIfInBounds_toArray, List.set_cons_zero, List.set_cons_succ]
      refine till_take (i := 1) (v := ?_) rfl rfl (by kernel_rfl) (by kernel_rfl) (by kernel_rfl) rfl (fun _ _ _ h => h) (Or.inl ⟨by rfl, ?_⟩) (by assumption) (fun _ => by assumption) ?_
      rotate_left
      · intro w hSw; (try dsimp only at hSw); go_simp; try with_reducible rfl
      try simp only [Act.put, List.setIfInBounds_toArray, List.set_cons_zero, List.set_cons_succ]
      refine till_take (i := 2) (v := ?_) rfl rfl (by kernel_rfl) (by kernel_rfl) (by kernel_rfl) rfl (fun _ _ _ h => h) (Or.inl ⟨by rfl, ?_⟩) (by assumption) (fun _ => by assumption) ?_
      rotate_left
      · intro w hSw; (try dsimp only at hSw); go_simp; try with_reducible rfl
      try simp only [Act.put, List.setIfInBounds_toArray, List.set_cons_zero, List.set_cons_succ]
      refine till_take (i := 4) (v := ?_) rfl rfl (by kernel_rfl) (by kernel_rfl) (by kernel_rfl) rfl (fun _ _ _ h => h) (Or.inl ⟨by rfl, ?_⟩) (by assumption) (fun _ => by assumption) ?_
      rotate_left
      · intro w hSw; (try dsimp only at hSw); go_simp; try with_reducible rfl
      try simp only [Act.put, List.setIfInBounds_toArray, List.set_cons_zero, List.set_cons_succ]
      refine till_take (i := 5) (v := ?_) rfl rfl (by kernel_rfl) (by kernel_rfl) (by kernel_rfl) rfl (fun _ _ _ h => h) (Or.inl ⟨by rfl, ?_⟩) (by assumption) (fun _ => by assumption) ?_
      rotate_left
      · intro w hSw; (try dsimp only at hSw); go_simp; try with_reducible rfl
      try simp only [Act.put, List.setIfInBounds_toArray, List.set_cons_zero, List.set_cons_succ]
      refine till_take (i := 6) (v := ?_) rfl rfl (by kernel_rfl) (by kernel_rfl) (by kernel_rfl) rfl (fun _ _ _ h => h) (Or.inl ⟨by rfl, ?_⟩) (by assumption) (fun _ => by assumption) ?_
      rotate_left
      · intro w hSw; (try dsimp only at hSw); go_simp; try with_reducible rfl
      try simp only [Act.put, List.setIfInBounds_toArray, List.set_cons_zero, List.set_cons_succ]
      refine till_step (i := 3) (by kernel_rfl) rfl (fun K hK => ?_)
      go_simp
      refine (C7.out _).mono ?_
      rintro e wp ⟨rfl, hb⟩
      have HP1 : Hid (PtS 39 w h g #[.int .i64 Kd, .int .i64 G, .int .i64 S, .int .i64 E, .int .i64 M, .string bl, .slice a n c, .int .i64 er] (S6, b6) wp) := HP.out.on (below_step (Below.refl _ _).drew (Nat.le_refl _) hb)
      clear hb hS HP C7 hT
      refine hK.out _ _ (HTT.out _ _ HP1.out) (fun h => till_no (by kernel_rfl) h) ?_
      clear hK K
      refine till_step (i := 7) (by kernel_rfl) rfl (fun K hK => ?_)
      go_simp
      refine (C8.out _).mono ?_
      rintro e wq ⟨rfl, hb⟩
      have HP2 : Hid (PtS 39 w h g #[.int .i64 Kd, .int .i64 G, .int .i64 S, .int .i64 E, .int .i64 M, .string bl, .slice a n c, .int .i64 er] (S6, b6) wq) := HP1.out.on hb
      clear hb HP1 C8
      refine hK.out _ _ (HTT.out _ _ HP2.out) (fun h => till_no (by kernel_rfl) h) ?_
      clear hK K
      refine till_step (i := 8) (by kernel_rfl) rfl (fun K hK => ?_)
      refine step_storeRow rfl rfl 55 _ _ rfl g #[.string S6, .bool b6] #[.string S8, .bool b8] rfl rfl HP2.out.o rfl (by kernel_rfl) (by simp [Value.oneCell']) ?_
      have HP : Hid (PtS 39 w h g #[.int .i64 Kd, .int .i64 G, .int .i64 S, .int .i64 E, .int .i64 M, .string bl, .slice a n c, .int .i64 er] (S8, b8) (wq.setRow g #[.string S8, .bool b8])) := HP2.out.setO (S8, b8)
      clear HP2
      refine hK.out _ _ (HTT.out _ _ HP.out) (fun h => till_no (by kernel_rfl) h) ?_
      clear hK K
      refine till_done (by kernel_rfl) (NoPanic.normal ?_) _
      clear HTT
      obtain ⟨w8, hwx⟩ : ∃ wx, wq.setRow g #[.string S8, .bool b8] = wx := ⟨_, rfl⟩
      rw [hwx] at HP
      try rw [hwx]
      clear hwx wq
      go_wp2_with fail
      have HP0 : Hid (PtS 39 w h g #[.int .i64 Kd, .int .i64 G, .int .i64 S, .int .i64 E, .int .i64 M, .string bl, .slice a n c, .int .i64 er] (writeA (S8, b8) ((it.take 0).flatMap itPs)) w8) := HP.out
      clear HP
      go_loopw [5] (fun i wr => ∃ k : Nat, k ≤ n ∧ i = .int .i64 k ∧ Hid (PtS 39 w h g #[.int .i64 Kd, .int .i64 G, .int .i64 S, .int .i64 E, .int .i64 M, .string bl, .slice a n c, .int .i64 er] (writeA (S8, b8) ((it.take k).flatMap itPs)) wr)) (fun i _ => n - (intOf i).toNat)
      case atStart => exact ⟨0, Nat.zero_le _, rfl, HP0⟩
      case round =>
        clear HP0
        obtain ⟨k, hk, rfl, HP⟩ := hrel
        have f6 : wr.cell? ⟨h, 6, none⟩ = some (.slice a n c) := HP.out.f.cell 6
        by_cases hlt : k < n
        · have d0 : (k : Int) < (n : Int) := by omega
          have d1 : (0 : Int) ≤ (k : Int) := by omega
          obtain ⟨lb, off, rfl, hcl⟩ := HI.out.2.resolve_left (by omega)
          have hnx := wlistI_take it k (by rw [HL.out]; exact hlt)
          have hz1 := HZ.out k
          have hsz : (writeA (S8, b8) ((it.take k).flatMap itPs)).1.size ≤ 65536 := writeA_sizeW _ _ HSZ.out
          have hwn : writeA (S8, b8) ((it.take (k + 1)).flatMap itPs) = textP (numP (numP (writeA (S8, b8) ((it.take k).flatMap itPs)) (itL it k).1 6 1099511627775) (itL it k).2.1 6 1099511627775) (itL it k).2.2 := by rw [hnx, writeA_app19, writeA_itPs]
          obtain ⟨⟨Sx, bx⟩, ex⟩ : ∃ p, writeA (S8, b8) ((it.take k).flatMap itPs) = p := ⟨_, rfl⟩
          rw [ex] at HP hsz hwn
          have HIW : Hid (∀ W', Below w.heap.size w W' → W'.cell? ⟨lb, off + k * 3, none⟩ = some (.int .i64 (itL it k).1) ∧ W'.cell? ⟨lb, off + k * 3 + 1, none⟩ = some (.int .i64 (itL it k).2.1) ∧ W'.cell? ⟨lb, off + k * 3 + 2, none⟩ = some (.string (itL it k).2.2)) := fun W' hW => by
            have q := (HI.out.below hW).2.resolve_left (by omega)
            obtain ⟨b', o', e', q⟩ := q
            injection e' with e'
            injection e' with e1 e2
            subst e1
            subst e2
            exact q k hlt
          clear hcl hnx ex
          obtain ⟨⟨x0, x1, x2⟩, hx⟩ : ∃ x, itL it k = x := ⟨_, rfl⟩
          rw [hx] at hz1 hwn HIW
          simp only at hz1 hwn HIW
          have zx : (Sx, bx).1.size ≤ 65536 := hsz
          obtain ⟨⟨Sy, by_⟩, ey⟩ : ∃ p, numP (Sx, bx) x0 6 1099511627775 = p := ⟨_, rfl⟩
          have zy : (Sy, by_).1.size ≤ 65536 := layP_sizeO zx ey
          have D1' : ∀ W, _ := fun W => rnum_any (Sx, bx) x0 W zx
          rw [ey] at D1' hwn
          simp only [outV] at D1'
          have D1 : Hid (∀ W, _) := D1'
          obtain ⟨⟨Sz, bz⟩, ez⟩ : ∃ p, numP (Sy, by_) x1 6 1099511627775 = p := ⟨_, rfl⟩
          have zz : (Sz, bz).1.size ≤ 65536 := layP_sizeO zy ez
          have D2' : ∀ W, _ := fun W => rnum_any (Sy, by_) x1 W zy
          rw [ez] at D2' hwn
          simp only [outV] at D2'
          have D2 : Hid (∀ W, _) := D2'
          obtain ⟨⟨Sv, bv⟩, ev⟩ : ∃ p, textP (Sz, bz) x2 = p := ⟨_, rfl⟩
          have D3' : ∀ W, _ := fun W => rtext_any (Sz, bz) x2 W zz hz1
          rw [ev] at D3' hwn
          simp only [outV] at D3'
          have D3 : Hid (∀ W, _) := D3'
          have HWN : Hid (writeA (S8, b8) ((it.take (k + 1)).flatMap itPs) = (Sv, bv)) := hwn
          clear hwn D1' D2' D3' zx zy zz ey ez ev hsz hx hz1
          go_wp2_with fail
          have HTT : Hid (∀ (o : ByteArray × Bool) W', PtS 39 w h g #[.int .i64 Kd, .int .i64 G, .int .i64 S, .int .i64 E, .int .i64 M, .string bl, .slice (some ⟨lb, off, none⟩) n c, .int .i64 er] o W' → W'.cell? ⟨h, 6, none⟩ = some (.slice (some ⟨lb, off, none⟩) n c) ∧ W'.cell? ⟨lb, off + k * 3, none⟩ = some (.int .i64 x0) ∧ W'.cell? ⟨lb, off + k * 3 + 1, none⟩ = some (.int .i64 x1) ∧ W'.cell? ⟨lb, off + k * 3 + 2, none⟩ = some (.string x2)) := fun o W' k => ⟨k.f.cell 6, HIW.out W' k.bel⟩
          refine wp_region_noPanic ?_
          refine till_begin 7 (fun W' => W'.cell? ⟨g, 0, none⟩ = some (.string Sx) ∧ W'.cell? ⟨g, 1, none⟩ = some (.bool bx)) (fun W' => W'.cell? ⟨h, 6, none⟩ = some (.slice (some ⟨lb, off, none⟩) n c) ∧ W'.cell? ⟨lb, off + k * 3, none⟩ = some (.int .i64 x0) ∧ W'.cell? ⟨lb, off + k * 3 + 1, none⟩ = some (.int .i64 x1) ∧ W'.cell? ⟨lb, off + k * 3 + 2, none⟩ = some (.string x2)) (by kernel_rfl) ?_
          have hT : wr.drew.cell? ⟨h, 6, none⟩ = some (.slice (some ⟨lb, off, none⟩) n c) ∧ wr.drew.cell? ⟨lb, off + k * 3, none⟩ = some (.int .i64 x0) ∧ wr.drew.cell? ⟨lb, off + k * 3 + 1, none⟩ = some (.int .i64 x1) ∧ wr.drew.cell? ⟨lb, off + k * 3 + 2, none⟩ = some (.string x2) := HTT.out _ _ (HP.out.on (Below.refl _ _).drew)
          have hS : wr.drew.cell? ⟨g, 0, none⟩ = some (.string Sx) ∧ wr.drew.cell? ⟨g, 1, none⟩ = some (.bool bx) := ⟨HP.out.o.cell 0, HP.out.o.cell 1⟩
          refine till_take' (i := 0) (v := ?_) rfl rfl (by kernel_rfl) (by kernel_rfl) (by kernel_rfl) rfl (by kernel_rfl) (by kernel_rfl) (fun _ _ _ h => h) (Or.inl ⟨by rfl, ?_⟩) (by assumption) (by assumption) ?_
          rotate_left
          · intro w hSw; (try dsimp only at hSw); go_simp; try with_reducible rfl
          try simp only [Act.put, List.setIfInBounds_toArray, List.set_cons_zero, List.set_cons_succ]
          refine till_take (i := 1) (v := ?_) rfl rfl (by kernel_rfl) (by kernel_rfl) (by kernel_rfl) rfl (fun _ _ _ h => h) (Or.inl ⟨by rfl, ?_⟩) (by assumption) (fun _ => by assumption) ?_
          rotate_left
          · intro w hSw; (try dsimp only at hSw); go_simp; try with_reducible rfl
          try simp only [Act.put, List.setIfInBounds_toArray, List.set_cons_zero, List.set_cons_succ]
          refine till_take (i := 2) (v := ?_) rfl rfl (by kernel_rfl) (by kernel_rfl) (by kernel_rfl) rfl (fun _ _ _ h => h) (Or.inl ⟨by rfl, ?_⟩) (by assumption) (fun _ => by assumption) ?_
          rotate_left
          · intro w hSw; (try dsimp only at hSw); go_simp; try with_reducible rfl
          try simp only [Act.put, List.setIfInBounds_toArray, List.set_cons_zero, List.set_cons_succ]
          refine till_take (i := 3) (v := ?_) rfl rfl (by kernel_rfl) (by kernel_rfl) (by kernel_rfl) rfl (fun _ _ _ h => h) (Or.inl ⟨by rfl, ?_⟩) (by assumption) (fun _ => by assumption) ?_
          rotate_left
          · intro w hSw; (try dsimp only at hSw); go_simp; try with_reducible rfl
          try simp only [Act.put, List.setIfInBounds_toArray, List.set_cons_zero, List.set_cons_succ]
          refine till_take (i := 4) (v := ?_) rfl rfl (by kernel_rfl) (by kernel_rfl) (by kernel_rfl) rfl (fun _ _ _ h => h) (Or.inl ⟨by rfl, ?_⟩) (by assumption) (fun _ => by assumption) ?_
          rotate_left
          · intro w hSw; (try dsimp only at hSw); go_simp; try with_reducible rfl
          try simp only [Act.put, List.setIfInBounds_toArray, List.set_cons_zero, List.set_cons_succ]
          refine till_take (i := 5) (v := ?_) rfl rfl (by kernel_rfl) (by kernel_rfl) (by kernel_rfl) rfl (fun _ _ _ h => h) (Or.inl ⟨by rfl, ?_⟩) (by assumption) (fun _ => by assumption) ?_
          rotate_left
          · intro w hSw; (try dsimp only at hSw); go_simp; try with_reducible rfl
          try simp only [Act.put, List.setIfInBounds_toArray, List.set_cons_zero, List.set_cons_succ]
          refine till_take (i := 6) (v := ?_) rfl rfl (by kernel_rfl) (by kernel_rfl) (by kernel_rfl) rfl (fun _ _ _ h => h) (Or.inl ⟨by rfl, ?_⟩) (by assumption) (fun _ => by assumption) ?_
          rotate_left
          · intro w hSw; (try dsimp only at hSw); go_simp; try with_reducible rfl
          try simp only [Act.put, List.setIfInBounds_toArray, List.set_cons_zero, List.set_cons_succ]
          refine till_take (i := 8) (v := ?_) rfl rfl (by kernel_rfl) (by kernel_rfl) (by kernel_rfl) rfl (fun _ _ _ h => h) (Or.inl ⟨by rfl, ?_⟩) (by assumption) (fun _ => by assumption) ?_
          rotate_left
          · intro w hSw; (try dsimp only at hSw); go_simp; try with_reducible rfl
          try simp only [Act.put, List.setIfInBounds_toArray, List.set_cons_zero, List.set_cons_succ]
          refine till_take (i := 9) (v := ?_) rfl rfl (by kernel_rfl) (by kernel_rfl) (by kernel_rfl) rfl (fun _ _ _ h => h) (Or.inl ⟨by rfl, ?_⟩) (by assumption) (fun _ => by assumption) ?_
          rotate_left
          · intro w hSw; (try dsimp only at hSw); go_simp; try with_reducible rfl
          try simp only [Act.put, List.setIfInBounds_toArray, List.set_cons_zero, List.set_cons_succ]
          refine till_take (i := 10) (v := ?_) rfl rfl (by kernel_rfl) (by kernel_rfl) (by kernel_rfl) rfl (fun _ _ _ h => h) (Or.inl ⟨by rfl, ?_⟩) (by assumption) (fun _ => by assumption) ?_
          rotate_left
          · intro w hSw; (try dsimp only at hSw); go_simp; try with_reducible rfl
          try simp only [Act.put, List.setIfInBounds_toArray, List.set_cons_zero, List.set_cons_succ]
          refine till_take (i := 11) (v := ?_) rfl rfl (by kernel_rfl) (by kernel_rfl) (by kernel_rfl) rfl (fun _ _ _ h => h) (Or.inl ⟨by rfl, ?_⟩) (by assumption) (fun _ => by assumption) ?_
          rotate_left
          · intro w hSw; (try dsimp only at hSw); go_simp; try with_reducible rfl
          try simp only [Act.put, List.setIfInBounds_toArray, List.set_cons_zero, List.set_cons_succ]
          refine till_take (i := 12) (v := ?_) rfl rfl (by kernel_rfl) (by kernel_rfl) (by kernel_rfl) rfl (fun _ _ _ h => h) (Or.inl ⟨by rfl, ?_⟩) (by assumption) (fun _ => by assumption) ?_
          rotate_left
          · intro w hSw; (try dsimp only at hSw); go_simp; try with_reducible rfl
          try simp only [Act.put, List.setIfInBounds_toArray, List.set_cons_zero, List.set_cons_succ]
          refine till_take (i := 13) (v := ?_) rfl rfl (by kernel_rfl) (by kernel_rfl) (by kernel_rfl) rfl (fun _ _ _ h => h) (Or.inl ⟨by rfl, ?_⟩) (by assumption) (fun _ => by assumption) ?_
          rotate_left
          · intro w hSw; (try dsimp only at hSw); go_simp; try with_reducible rfl
          try simp only [Act.put, List.setIfInBounds_toArray, List.set_cons_zero, List.set_cons_succ]
          refine till_step (i := 7) (by kernel_rfl) rfl (fun K hK => ?_)
          go_simp
          refine (D1.out _).mono ?_
          rintro e wp ⟨rfl, hb⟩
          have HP1 : Hid (PtS 39 w h g #[.int .i64 Kd, .int .i64 G, .int .i64 S, .int .i64 E, .int .i64 M, .string bl, .slice (some ⟨lb, off, none⟩) n c, .int .i64 er] (Sx, bx) wp) := HP.out.on (below_step (Below.refl _ _).drew (Nat.le_refl _) hb)
          clear hb hS HP D1 hT f6
          refine hK.out _ _ (HTT.out _ _ HP1.out) (fun h => till_no (by kernel_rfl) h) ?_
          clear hK K
          refine till_step (i := 14) (by kernel_rfl) rfl (fun K hK => ?_)
          go_simp
          refine (D2.out _).mono ?_
          rintro e wq ⟨rfl, hb⟩
          have HP2 : Hid (PtS 39 w h g #[.int .i64 Kd, .int .i64 G, .int .i64 S, .int .i64 E, .int .i64 M, .string bl, .slice (some ⟨lb, off, none⟩) n c, .int .i64 er] (Sx, bx) wq) := HP1.out.on hb
          clear hb HP1 D2
          refine hK.out _ _ (HTT.out _ _ HP2.out) (fun h => till_no (by kernel_rfl) h) ?_
          clear hK K
          refine till_step (i := 15) (by kernel_rfl) rfl (fun K hK => ?_)
          refine step_storeRow rfl rfl 55 _ _ rfl g #[.string Sx, .bool bx] #[.string Sz, .bool bz] rfl rfl HP2.out.o rfl (by kernel_rfl) (by simp [Value.oneCell']) ?_
          have HP : Hid (PtS 39 w h g #[.int .i64 Kd, .int .i64 G, .int .i64 S, .int .i64 E, .int .i64 M, .string bl, .slice (some ⟨lb, off, none⟩) n c, .int .i64 er] (Sz, bz) (wq.setRow g #[.string Sz, .bool bz])) := HP2.out.setO (Sz, bz)
          clear HP2
          refine hK.out _ _ (HTT.out _ _ HP.out) (fun h => till_no (by kernel_rfl) h) ?_
          clear hK K
          refine till_done (by kernel_rfl) (NoPanic.normal ?_) _
          obtain ⟨ws, hws⟩ : ∃ ws, wq.setRow g #[.string Sz, .bool bz] = ws := ⟨_, rfl⟩
          rw [hws] at HP
          try rw [hws]
          clear hws wq
          go_wp2_with fail
          refine wp_region_noPanic ?_
          refine till_begin 7 (fun W' => W'.cell? ⟨g, 0, none⟩ = some (.string Sz) ∧ W'.cell? ⟨g, 1, none⟩ = some (.bool bz)) (fun W' => W'.cell? ⟨h, 6, none⟩ = some (.slice (some ⟨lb, off, none⟩) n c) ∧ W'.cell? ⟨lb, off + k * 3, none⟩ = some (.int .i64 x0) ∧ W'.cell? ⟨lb, off + k * 3 + 1, none⟩ = some (.int .i64 x1) ∧ W'.cell? ⟨lb, off + k * 3 + 2, none⟩ = some (.string x2)) (by kernel_rfl) ?_
          have hT : ws.drew.cell? ⟨h, 6, none⟩ = some (.slice (some ⟨lb, off, none⟩) n c) ∧ ws.drew.cell? ⟨lb, off + k * 3, none⟩ = some (.int .i64 x0) ∧ ws.drew.cell? ⟨lb, off + k * 3 + 1, none⟩ = some (.int .i64 x1) ∧ ws.drew.cell? ⟨lb, off + k * 3 + 2, none⟩ = some (.string x2) := HTT.out _ _ (HP.out.on (Below.refl _ _).drew)
          have hS : ws.drew.cell? ⟨g, 0, none⟩ = some (.string Sz) ∧ ws.drew.cell? ⟨g, 1, none⟩ = some (.bool bz) := ⟨HP.out.o.cell 0, HP.out.o.cell 1⟩
          refine till_take' (i := 0) (v := ?_) rfl rfl (by kernel_rfl) (by kernel_rfl) (by kernel_rfl) rfl (by kernel_rfl) (by kernel_rfl) (fun _ _ _ h => h) (Or.inl ⟨by rfl, ?_⟩) (by assumption) (by assumption) ?_
          rotate_left
          · intro w hSw; (try dsimp only at hSw); go_simp; try with_reducible rfl
          try simp only [Act.put, List.setIfInBounds_toArray, List.set_cons_zero, List.set_cons_succ]
          refine till_take (i := 1) (v := ?_) rfl rfl (by kernel_rfl) (by kernel_rfl) (by kernel_rfl) rfl (fun _ _ _ h => h) (Or.inl ⟨by rfl, ?_⟩) (by assumption) (fun _ => by assumption) ?_
          rotate_left
          · intro w hSw; (try dsimp only at hSw); go_simp; try with_reducible rfl
          try simp only [Act.put, List.setIfInBounds_toArray, List.set_cons_zero, List.set_cons_succ]
          refine till_take (i := 2) (v := ?_) rfl rfl (by kernel_rfl) (by kernel_rfl) (by kernel_rfl) rfl (fun _ _ _ h => h) (Or.inl ⟨by rfl, ?_⟩) (by assumption) (fun _ => by assumption) ?_
          rotate_left
          · intro w hSw; (try dsimp only at hSw); go_simp; try with_reducible rfl
          try simp only [Act.put, List.setIfInBounds_toArray, List.set_cons_zero, List.set_cons_succ]
          refine till_take (i := 3) (v := ?_) rfl rfl (by kernel_rfl) (by kernel_rfl) (by kernel_rfl) rfl (fun _ _ _ h => h) (Or.inl ⟨by rfl, ?_⟩) (by assumption) (fun _ => by assumption) ?_
          rotate_left
          · intro w hSw; (try dsimp only at hSw); go_simp; try with_reducible rfl
          try simp only [Act.put, List.setIfInBounds_toArray, List.set_cons_zero, List.set_cons_succ]
          refine till_take (i := 4) (v := ?_) rfl rfl (by kernel_rfl) (by kernel_rfl) (by kernel_rfl) rfl (fun _ _ _ h => h) (Or.inl ⟨by rfl, ?_⟩) (by assumption) (fun _ => by assumption) ?_
          rotate_left
          · intro w hSw; (try dsimp only at hSw); go_simp; try with_reducible rfl
          try simp only [Act.put, List.setIfInBounds_toArray, List.set_cons_zero, List.set_cons_succ]
          refine till_take (i := 5) (v := ?_) rfl rfl (by kernel_rfl) (by kernel_rfl) (by kernel_rfl) rfl (fun _ _ _ h => h) (Or.inl ⟨by rfl, ?_⟩) (by assumption) (fun _ => by assumption) ?_
          rotate_left
          · intro w hSw; (try dsimp only at hSw); go_simp; try with_reducible rfl
          try simp only [Act.put, List.setIfInBounds_toArray, List.set_cons_zero, List.set_cons_succ]
          refine till_take (i := 6) (v := ?_) rfl rfl (by kernel_rfl) (by kernel_rfl) (by kernel_rfl) rfl (fun _ _ _ h => h) (Or.inl ⟨by rfl, ?_⟩) (by assumption) (fun _ => by assumption) ?_
          rotate_left
          · intro w hSw; (try dsimp only at hSw); go_simp; try with_reducible rfl
          try simp only [Act.put, List.setIfInBounds_toArray, List.set_cons_zero, List.set_cons_succ]
          refine till_step (i := 7) (by kernel_rfl) rfl (fun K hK => ?_)
          go_simp
          refine (D3.out _).mono ?_
          rintro e wp ⟨rfl, hb⟩
          have HP1 : Hid (PtS 39 w h g #[.int .i64 Kd, .int .i64 G, .int .i64 S, .int .i64 E, .int .i64 M, .string bl, .slice (some ⟨lb, off, none⟩) n c, .int .i64 er] (Sz, bz) wp) := HP.out.on (below_step (Below.refl _ _).drew (Nat.le_refl _) hb)
          clear hb hS HP D3 hT
          refine hK.out _ _ (HTT.out _ _ HP1.out) (fun h => till_no (by kernel_rfl) h) ?_
          clear hK K
          refine till_step (i := 8) (by kernel_rfl) rfl (fun K hK => ?_)
          refine step_storeRow rfl rfl 55 _ _ rfl g #[.string Sz, .bool bz] #[.string Sv, .bool bv] rfl rfl HP1.out.o rfl (by kernel_rfl) (by simp [Value.oneCell']) ?_
          have HP2 : Hid (PtS 39 w h g #[.int .i64 Kd, .int .i64 G, .int .i64 S, .int .i64 E, .int .i64 M, .string bl, .slice (some ⟨lb, off, none⟩) n c, .int .i64 er] (writeA (S8, b8) ((it.take (k + 1)).flatMap itPs)) (wp.setRow g #[.string Sv, .bool bv])) := by show PtS _ _ _ _ _ _ _; rw [HWN.out]; exact HP1.out.setO (Sv, bv)
          clear HP1 HWN
          refine hK.out _ _ (HTT.out _ _ HP2.out) (fun h => till_no (by kernel_rfl) h) ?_
          clear hK K
          refine till_done (by kernel_rfl) (NoPanic.normal ?_) _
          clear HTT HIW
          go_wp2_with fail
          refine ⟨?_, ?_⟩
          · first
            | exact ⟨k + 1, by omega, by go_num, HP2⟩
            | ((repeat apply Exists.intro); refine ⟨?_, rfl⟩; exact ⟨k + 1, by omega, by go_num, HP2⟩)
          · simp [intOf] <;> omega
        · obtain rfl : k = n := by omega
          have d0 : ¬ ((k : Int) < (k : Int)) := by omega
          have hq := HPP.out
          have hp1 := HP.out
          rw [List.take_of_length_le (by rw [HL.out]; exact Nat.le_refl _)] at hp1
          obtain ⟨⟨Sx, bx⟩, ex⟩ : ∃ p, writeA (S8, b8) (it.flatMap itPs) = p := ⟨_, rfl⟩
          rw [ex] at hq hp1
          have CD' : ∀ W, _ := fun W => rdone_any (Sx, bx) W
          rw [doneP_Q, hq] at CD'
          simp only [outV] at CD'
          have CD : Hid (∀ W, _) := CD'
          have o0 : wr.cell? ⟨g, 0, none⟩ = some (.string Sx) := hp1.o.cell 0
          have o1 : wr.cell? ⟨g, 1, none⟩ = some (.bool bx) := hp1.o.cell 1
          have HB : Hid (Below w.heap.size w wr) := hp1.bel
          clear hq hp1 ex CD' HP HPP
          go_wp2_with fail
          refine (CD.out _).mono ?_
          rintro e w9 ⟨rfl, hb⟩
          have hB := below_step HB.out (Nat.le_refl _) hb
          go_wp2_with fail
          go_ret2
          exact ⟨rfl, hB⟩

end Go.Proofs.Ytkmdajenbidaaaa
