/- Layer 20, the document's: Put. -/
import Derived.Test.YtabhkebkbidfhaaDoorRGpC
import Derived.Test.YtabhkebkbidfhaaDoorRWiS
import Derived.Test.YtabhkebkbidfhaaDoorGpN
namespace Go.Proofs.YtabhkebkbidfhaaDoor
open Go.RowKit
set_option maxRecDepth 100000
set_option linter.unusedSimpArgs false
set_option linter.unusedVariables false
set_option maxRecDepth 100000

theorem numP_sizeO {o : ByteArray × Bool} {n : Int} {m : Nat} {most : Int} (h : o.1.size ≤ 65536) : (numP o n m most).1.size ≤ 65536 := layP_sizeW o _ _ h


set_option maxHeartbeats 8000000 in
theorem rput20_any (G : GrpT) (a : Option Addr) (c : Nat) (w : World) (hn : G.2.1.length ≤ 1048576) (hI : MmsAt w a G.2.1.length G.2.1) (hw : ∀ i, i < 6 → -9223372036854775808 ≤ (mmL G.2.1 i).1 ∧ (mmL G.2.1 i).1 ≤ 9223372036854775807) :
    Calls Tryd.prog 21 #[.agg (grpA G a c)] w fun e w' => e = .returned (.tuple #[.string (putGC G).1, .int .i64 (putGC G).2]) ∧ Below w.heap.size w w' := by
  obtain ⟨p, hp⟩ : ∃ p, putGC G = p := ⟨_, rfl⟩
  rw [hp]
  have CHG : ∀ W, Below w.heap.size w W → _ := fun W hW => rmay20_any G a c W (mayGb G) (mayGb_iff G) hn (hI.below hW) hw
  unfold putGC putB at hp
  have hMG := mayGb_iff G
  obtain ⟨D, hD⟩ : ∃ D : Bool, mayGb G = D := ⟨_, rfl⟩
  rw [hD] at CHG hp hMG
  obtain ⟨Ep, l, Op⟩ := G
  simp only [grpA] at CHG hI hn ⊢
  have HP : Hid (_ = p) := hp
  have HMG : Hid (D = true ↔ MayG (Ep, l, Op)) := hMG
  obtain ⟨n, hnn⟩ : ∃ n, l.length = n := ⟨_, rfl⟩
  simp only [hnn] at CHG hI hn ⊢
  have HHG : Hid (∀ W, Below w.heap.size w W → _) := CHG
  have HI : Hid (MmsAt w a n l) := hI
  have HL : Hid (l.length = n) := hnn
  clear CHG hp hMG hD hI hnn hw
  have HB0 : Hid (Below w.heap.size w (w.alloc (.cells #[.int .i64 Ep, .slice a n c, .int .i64 Op] 24))) := below_new _ _
  have HK0 : Hid (Blk (w.alloc (.cells #[.int .i64 Ep, .slice a n c, .int .i64 Op] 24)) 24 w.heap.size #[.int .i64 Ep, .slice a n c, .int .i64 Op]) := Blk.new _ _ _
  go_enter Tryd.func21, Tryd.ntmps21
  go_wp2_with fail
  refine (HHG.out _ HB0.out).mono ?_
  rintro e w1 ⟨rfl, hb⟩
  have HB1 : Hid (Below w.heap.size w w1) := below_step HB0.out (Nat.le_refl _) hb
  have HK1 : Hid (Blk w1 24 w.heap.size #[.int .i64 Ep, .slice a n c, .int .i64 Op]) := HK0.out.on hb
  clear hb HB0 HK0 HHG
  cases D with
  | false =>
    obtain rfl : (⟨#[]⟩, 1) = p := by have h := HP.out; rwa [if_neg (by simp)] at h
    go_wp2_with fail
    go_ret2
    exact ⟨rfl, HB1.out⟩
  | true =>
  have hpp := HP.out
  rw [if_pos rfl] at hpp
  have HPP : Hid (_ = p) := hpp
  have HMY : Hid (MayG (Ep, l, Op)) := HMG.out.1 rfl
  clear HP HMG hpp
  obtain rfl : n = 6 := by rw [← HI.out.1]; exact HMY.out.2.2.1
  obtain ⟨b, off, rfl, hcl⟩ : ∃ lb off, a = some ⟨lb, off, none⟩ ∧ ∀ i, i < 6 → w.cell? ⟨lb, off + i * 3, none⟩ = some (.int .i64 (mmL l i).1) ∧ w.cell? ⟨lb, off + i * 3 + 1, none⟩ = some (.int .i64 (mmL l i).2.1) ∧ w.cell? ⟨lb, off + i * 3 + 2, none⟩ = some (.bool (mmL l i).2.2) := by
    rcases HI.out.2 with h | h
    · omega
    · exact h
  have HCL : Hid (∀ i, i < 6 → w.cell? ⟨b, off + i * 3, none⟩ = some (.int .i64 (mmL l i).1) ∧ w.cell? ⟨b, off + i * 3 + 1, none⟩ = some (.int .i64 (mmL l i).2.1) ∧ w.cell? ⟨b, off + i * 3 + 2, none⟩ = some (.bool (mmL l i).2.2)) := hcl
  clear hcl HI
  obtain ⟨h, hh⟩ : ∃ h, w.heap.size = h := ⟨_, rfl⟩
  have HLF : Hid (w.heap.size ≤ h) := Nat.le_of_eq hh
  have HF1 : Hid (Blk w1 24 h #[.int .i64 Ep, .slice (some ⟨b, off, none⟩) 6 c, .int .i64 Op]) := by show Blk _ _ _ _; rw [← hh]; exact HK1.out
  rw [hh]
  clear HK1 hh
  obtain ⟨⟨S1, b1⟩, h1⟩ : ∃ o, numP (⟨#[]⟩, false) Ep 6 1099511627775 = o := ⟨_, rfl⟩
  obtain ⟨⟨S2, b2⟩, h2⟩ : ∃ o, numP (S1, b1) Op 6 1099511627775 = o := ⟨_, rfl⟩
  have z1 : S1.size ≤ 65536 := by have := numP_sizeO (o := (⟨#[]⟩, false)) (n := Ep) (m := 6) (most := 1099511627775) (by decide); rw [h1] at this; exact this
  have z2 : S2.size ≤ 65536 := by have := numP_sizeO (o := (S1, b1)) (n := Op) (m := 6) (most := 1099511627775) z1; rw [h2] at this; exact this
  have HZ2 : Hid (S2.size ≤ 65536) := z2
  have CA : Hid (∀ W, Calls Tryd.prog 45 #[.agg #[.string ⟨#[]⟩, .bool false], .int .i64 Ep] W fun e w' => e = .returned (.agg #[.string S1, .bool b1]) ∧ Below W.heap.size W w') := fun W => by
    have q := rnum_any (⟨#[]⟩, false) Ep W (by decide)
    rw [h1] at q
    exact q
  have CB : Hid (∀ W, Calls Tryd.prog 45 #[.agg #[.string S1, .bool b1], .int .i64 Op] W fun e w' => e = .returned (.agg #[.string S2, .bool b2]) ∧ Below W.heap.size W w') := fun W => by
    have q := rnum_any (S1, b1) Op W z1
    rw [h2] at q
    exact q
  have HPS : Hid (doneQ (writeA (S2, b2) ((l.map memPr).flatMap prPs)) = p) := by
    show doneQ _ = p
    rw [← HPP.out, ← h2, ← h1]
    unfold gpPs
    rw [writeA_app19]
    rfl
  clear h1 h2 z1 z2 HPP
  have HSS : Hid (∀ W', Below w1.heap.size w1 W' → W'.cell? ⟨h, 0, none⟩ = some (.int .i64 Ep) ∧ W'.cell? ⟨h, 2, none⟩ = some (.int .i64 Op)) := fun W' hW => ⟨(HF1.out.on hW).cell 0, (HF1.out.on hW).cell 2⟩
  have hS0 := HSS.out w1 (Below.refl _ _)
  go_wp2_with fail
  go_cut [4] (fun u wx => ∃ g : Nat, u = .pointer (some ⟨g, 0, none⟩) ∧ Hid (PtS 24 w h g #[.int .i64 Ep, .slice (some ⟨b, off, none⟩) 6 c, .int .i64 Op] (S2, b2) wx))
  case first =>
    refine wp_region_noPanic ?_
    refine wp_region_held_drew (S := fun W' => W'.cell? ⟨h, 0, none⟩ = some (.int .i64 Ep) ∧ W'.cell? ⟨h, 2, none⟩ = some (.int .i64 Op)) (by kernel_rfl) (by first | exact trivial | assumption | exact ⟨by assumption, by assumption⟩) (fun hHeld => ?_)
    refine take_at (i := 0) (v := ?_) rfl rfl (by kernel_rfl) (by kernel_rfl) (by kernel_rfl) (fun _ _ _ h => h) (Or.inl ⟨by rfl, ?_⟩) (by assumption) ?_
    rotate_left
    · intro w hSw; (try dsimp only at hSw); go_simp; try with_reducible rfl
    try simp only [Act.put, List.setIfInBounds_toArray, List.set_cons_zero, List.set_cons_succ]
    refine take_at (i := 1) (v := ?_) rfl rfl (by kernel_rfl) (by kernel_rfl) (by kernel_rfl) (fun _ _ _ h => h) (Or.inl ⟨by rfl, ?_⟩) (by assumption) ?_
    rotate_left
    · intro w hSw; (try dsimp only at hSw); go_simp; try with_reducible rfl
    try simp only [Act.put, List.setIfInBounds_toArray, List.set_cons_zero, List.set_cons_succ]
    refine take_at (i := 2) (v := ?_) rfl rfl (by kernel_rfl) (by kernel_rfl) (by kernel_rfl) (fun _ _ _ h => h) (Or.inl ⟨by rfl, ?_⟩) (by assumption) ?_
    rotate_left
    · intro w hSw; (try dsimp only at hSw); go_simp; try with_reducible rfl
    try simp only [Act.put, List.setIfInBounds_toArray, List.set_cons_zero, List.set_cons_succ]
    refine take_at (i := 4) (v := ?_) rfl rfl (by kernel_rfl) (by kernel_rfl) (by kernel_rfl) (fun _ _ _ h => h) (Or.inl ⟨by rfl, ?_⟩) (by assumption) ?_
    rotate_left
    · intro w hSw; (try dsimp only at hSw); go_simp; try with_reducible rfl
    try simp only [Act.put, List.setIfInBounds_toArray, List.set_cons_zero, List.set_cons_succ]
    refine take_at (i := 5) (v := ?_) rfl rfl (by kernel_rfl) (by kernel_rfl) (by kernel_rfl) (fun _ _ _ h => h) (Or.inl ⟨by rfl, ?_⟩) (by assumption) ?_
    rotate_left
    · intro w hSw; (try dsimp only at hSw); go_simp; try with_reducible rfl
    try simp only [Act.put, List.setIfInBounds_toArray, List.set_cons_zero, List.set_cons_succ]
    refine wpAnyH_ready (rs := [3, 7]) (by kernel_rfl) (by simp) ?_
    refine AllReadyH.cons rfl (fun K hK => ?_) (AllReadyH.cons rfl (fun K hK => ?_) AllReadyH.nil)
    · go_simp
      refine (CA.out _).mono ?_
      rintro e V1 ⟨rfl, hb1⟩
      have hV1 : Below w1.heap.size w1 V1 := below_step (Below.refl _ _).drew (Nat.le_refl _) hb1
      refine hK.out _ _ (HSS.out _ hV1) (fun hHeld => ?_)
      clear hK K
      refine wpAnyH_ready (rs := [6, 7]) (by kernel_rfl) (by simp) ?_
      refine AllReadyH.cons rfl (fun K hK => ?_) (AllReadyH.cons rfl (fun K hK => ?_) AllReadyH.nil)
      · go_simp
        refine (CB.out _).mono ?_
        rintro e V2 ⟨rfl, hb2⟩
        have hV2 : Below w1.heap.size w1 V2 := below_step hV1 (Nat.le_refl _) hb2
        refine hK.out _ _ (HSS.out _ hV2) (fun hHeld => ?_)
        clear hK K
        refine wpAnyH_ready (rs := [7]) (by kernel_rfl) (by simp) ?_
        refine AllReadyH.cons rfl (fun K hK => ?_) AllReadyH.nil
        go_simp
        have hV3 : Below w1.heap.size w1 (V2.alloc (.cells #[.string ⟨#[]⟩, .bool false] 81)) := hV2.alloc hV2.size _
        refine hK.out _ _ (HSS.out _ hV3) (fun hHeld => ?_)
        clear hK K
        refine wpAnyH_ready (rs := [8]) (by kernel_rfl) (by simp) ?_
        refine AllReadyH.cons rfl (fun K hK => ?_) AllReadyH.nil
        refine step_storeRow rfl rfl 81 _ _ rfl V2.heap.size #[.string ⟨#[]⟩, .bool false] #[.string S2, .bool b2] rfl rfl (Blk.new V2 _ _) rfl (by kernel_rfl) (by simp [Value.oneCell']) ?_
        have hz := hV2.size
        have HP : Hid (PtS 24 w h V2.heap.size #[.int .i64 Ep, .slice (some ⟨b, off, none⟩) 6 c, .int .i64 Op] (S2, b2) ((V2.alloc (.cells #[.string ⟨#[]⟩, .bool false] 81)).setRow V2.heap.size #[.string S2, .bool b2])) := ⟨(HF1.out.on hV3).setRowOther _ (by have h1 := HF1.out.lt; omega) _, ((Blk.new V2 _ _)).setRow _, below_setRow (below_step HB1.out (Nat.le_refl _) hV3) (by have h1 := HB1.out.size; omega) _, HLF.out, by have h1 := HF1.out.lt; omega⟩
        refine hK.out _ _ (HSS.out _ (below_setRow hV3 hV2.size #[.string S2, .bool b2])) (fun hHeld => ?_)
        clear hK K
        refine wpAnyH_done (by kernel_rfl) (NoPanic.normal ?_) _
        go_wp2_with fail
        go_meet
        case rel => exact ⟨V2.heap.size, rfl, HP⟩
      · go_simp
        have hV2 : Below w1.heap.size w1 (V1.alloc (.cells #[.string ⟨#[]⟩, .bool false] 81)) := hV1.alloc hV1.size _
        have KV1 : Blk (V1.alloc (.cells #[.string ⟨#[]⟩, .bool false] 81)) 81 V1.heap.size #[.string ⟨#[]⟩, .bool false] := Blk.new V1 _ _
        refine hK.out _ _ (HSS.out _ hV2) (fun hHeld => ?_)
        clear hK K
        refine wpAnyH_ready (rs := [6]) (by kernel_rfl) (by simp) ?_
        refine AllReadyH.cons rfl (fun K hK => ?_) AllReadyH.nil
        go_simp
        refine (CB.out _).mono ?_
        rintro e V2 ⟨rfl, hb2⟩
        have hV3 : Below w1.heap.size w1 V2 := below_step hV2 (Nat.le_refl _) hb2
        have KV2 := KV1.on hb2
        refine hK.out _ _ (HSS.out _ hV3) (fun hHeld => ?_)
        clear hK K
        refine wpAnyH_ready (rs := [8]) (by kernel_rfl) (by simp) ?_
        refine AllReadyH.cons rfl (fun K hK => ?_) AllReadyH.nil
        refine step_storeRow rfl rfl 81 _ _ rfl V1.heap.size #[.string ⟨#[]⟩, .bool false] #[.string S2, .bool b2] rfl rfl KV2 rfl (by kernel_rfl) (by simp [Value.oneCell']) ?_
        have hz := hV1.size
        have HP : Hid (PtS 24 w h V1.heap.size #[.int .i64 Ep, .slice (some ⟨b, off, none⟩) 6 c, .int .i64 Op] (S2, b2) (V2.setRow V1.heap.size #[.string S2, .bool b2])) := ⟨(HF1.out.on hV3).setRowOther _ (by have h1 := HF1.out.lt; omega) _, (KV2).setRow _, below_setRow (below_step HB1.out (Nat.le_refl _) hV3) (by have h1 := HB1.out.size; omega) _, HLF.out, by have h1 := HF1.out.lt; omega⟩
        refine hK.out _ _ (HSS.out _ (below_setRow hV3 hV1.size #[.string S2, .bool b2])) (fun hHeld => ?_)
        clear hK K
        refine wpAnyH_done (by kernel_rfl) (NoPanic.normal ?_) _
        go_wp2_with fail
        go_meet
        case rel => exact ⟨V1.heap.size, rfl, HP⟩
    · go_simp
      have hV1 : Below w1.heap.size w1 (w1.alloc (.cells #[.string ⟨#[]⟩, .bool false] 81)) := below_new _ _
      have KV1 : Blk (w1.alloc (.cells #[.string ⟨#[]⟩, .bool false] 81)).drew 81 w1.heap.size #[.string ⟨#[]⟩, .bool false] := Blk.new w1 _ _
      refine hK.out _ _ (HSS.out _ hV1.drew) (fun hHeld => ?_)
      clear hK K
      refine wpAnyH_ready (rs := [3]) (by kernel_rfl) (by simp) ?_
      refine AllReadyH.cons rfl (fun K hK => ?_) AllReadyH.nil
      go_simp
      refine (CA.out _).mono ?_
      rintro e V2 ⟨rfl, hb2⟩
      have hV2 : Below w1.heap.size w1 V2 := below_step hV1.drew (by simp) hb2
      have KV2 := KV1.on hb2
      refine hK.out _ _ (HSS.out _ hV2) (fun hHeld => ?_)
      clear hK K
      refine wpAnyH_ready (rs := [6]) (by kernel_rfl) (by simp) ?_
      refine AllReadyH.cons rfl (fun K hK => ?_) AllReadyH.nil
      go_simp
      refine (CB.out _).mono ?_
      rintro e V3 ⟨rfl, hb3⟩
      have hV3 : Below w1.heap.size w1 V3 := below_step hV2 (Nat.le_refl _) hb3
      have KV3 := KV2.on hb3
      refine hK.out _ _ (HSS.out _ hV3) (fun hHeld => ?_)
      clear hK K
      refine wpAnyH_ready (rs := [8]) (by kernel_rfl) (by simp) ?_
      refine AllReadyH.cons rfl (fun K hK => ?_) AllReadyH.nil
      refine step_storeRow rfl rfl 81 _ _ rfl w1.heap.size #[.string ⟨#[]⟩, .bool false] #[.string S2, .bool b2] rfl rfl KV3 rfl (by kernel_rfl) (by simp [Value.oneCell']) ?_
      have hz := Nat.le_refl w1.heap.size
      have HP : Hid (PtS 24 w h w1.heap.size #[.int .i64 Ep, .slice (some ⟨b, off, none⟩) 6 c, .int .i64 Op] (S2, b2) (V3.setRow w1.heap.size #[.string S2, .bool b2])) := ⟨(HF1.out.on hV3).setRowOther _ (by have h1 := HF1.out.lt; omega) _, (KV3).setRow _, below_setRow (below_step HB1.out (Nat.le_refl _) hV3) (by have h1 := HB1.out.size; omega) _, HLF.out, by have h1 := HF1.out.lt; omega⟩
      refine hK.out _ _ (HSS.out _ (below_setRow hV3 (Nat.le_refl _) #[.string S2, .bool b2])) (fun hHeld => ?_)
      clear hK K
      refine wpAnyH_done (by kernel_rfl) (NoPanic.normal ?_) _
      go_wp2_with fail
      go_meet
      case rel => exact ⟨w1.heap.size, rfl, HP⟩
  case rest =>
    obtain ⟨g, rfl, HP0⟩ := hcut
    clear HSS hS0 HF1 HB1 HLF CA CB
    obtain ⟨st, hst⟩ : ∃ st, (S2, b2) = st := ⟨_, rfl⟩
    rw [hst] at HPS HP0
    have HZT : Hid (st.1.size ≤ 65536) := by show _ ≤ _; rw [← hst]; exact HZ2.out
    clear hst HZ2
    try go_wp2_with fail
    go_loopw [5] (fun v wr => ∃ k : Nat, k ≤ 6 ∧ v = .int .i64 (k : Int) ∧ Hid (PtS 24 w h g #[.int .i64 Ep, .slice (some ⟨b, off, none⟩) 6 c, .int .i64 Op] (writeA st (((l.take k).map memPr).flatMap prPs)) wr)) (fun v _ => 6 - (intOf v).toNat)
    case atStart => exact ⟨0, Nat.zero_le _, rfl, HP0⟩
    case round =>
      clear HP0
      obtain ⟨k, hk, rfl, HPk⟩ := hrel
      obtain ⟨⟨S2, b2⟩, hsk⟩ : ∃ sk, writeA st (((l.take k).map memPr).flatMap prPs) = sk := ⟨_, rfl⟩
      have hz := writeA_sizeW (((l.take k).map memPr).flatMap prPs) st HZT.out
      rw [hsk] at hz HPk
      by_cases hlt : k < 6
      · have HP : Hid (PtS 24 w h g #[.int .i64 Ep, .slice (some ⟨b, off, none⟩) 6 c, .int .i64 Op] (S2, b2) wr) := HPk
        clear HPk
        have b0 : (k : Int) < 6 := by omega
        have b1' : (0 : Int) ≤ (k : Int) := by omega
        have hnx := stK_next l k (by rw [HL.out]; exact hlt) st
        rw [hsk] at hnx
        obtain ⟨y, hy⟩ : ∃ y, (mmL l k).2.1 = y := ⟨_, rfl⟩
        obtain ⟨z, hzz⟩ : ∃ z, (mmL l k).2.2 = z := ⟨_, rfl⟩
        obtain ⟨_, q1, q2⟩ := HCL.out k hlt
        rw [hy] at q1 hnx
        rw [hzz] at q2 hnx
        have HY : Hid (w.cell? ⟨b, off + k * 3 + 1, none⟩ = some (.int .i64 y)) := q1
        obtain ⟨⟨S3, b3⟩, h3⟩ : ∃ o, numP (S2, b2) y 6 1099511627775 = o := ⟨_, rfl⟩
        obtain ⟨⟨S4, b4⟩, h4⟩ : ∃ o, numP (S3, b3) (inN z) 1 255 = o := ⟨_, rfl⟩
        have z3 : S3.size ≤ 65536 := by have := numP_sizeO (o := (S2, b2)) (n := y) (m := 6) (most := 1099511627775) hz; rw [h3] at this; exact this
        have C7 : Hid (∀ W, Calls Tryd.prog 45 #[.agg #[.string S2, .bool b2], .int .i64 y] W fun e w' => e = .returned (.agg #[.string S3, .bool b3]) ∧ Below W.heap.size W w') := fun W => by
          have q := rnum_any (S2, b2) y W hz
          rw [h3] at q
          exact q
        have C9 : Hid (∀ W, Calls Tryd.prog 46 #[.agg #[.string S3, .bool b3], .int .i64 (inN z)] W fun e w' => e = .returned (.agg #[.string S4, .bool b4]) ∧ Below W.heap.size W w') := fun W => by
          have q := rbyte_any (S3, b3) (inN z) W z3
          rw [h4] at q
          exact q
        have HNX : Hid (writeA st (((l.take (k + 1)).map memPr).flatMap prPs) = (S4, b4)) := by show _ = _; rw [hnx, h3, h4]
        have m0 : wr.cell? ⟨h, 1, none⟩ = some (.slice (some ⟨b, off, none⟩) 6 c) := HP.out.f.cell 1
        have m2 : wr.cell? ⟨b, off + k * 3 + 2, none⟩ = some (.bool z) := by rw [HP.out.bel.cell (World.block_lt_of_cell? w _ q2)]; exact q2
        clear hnx hy hzz q1 q2 h3 h4 z3 hz hsk
        cases z with
        | false =>
          rw [show inN false = 0 from rfl] at C9
          have HTT : Hid (∀ (o : ByteArray × Bool) W', PtS 24 w h g #[.int .i64 Ep, .slice (some ⟨b, off, none⟩) 6 c, .int .i64 Op] o W' → W'.cell? ⟨h, 1, none⟩ = some (.slice (some ⟨b, off, none⟩) 6 c) ∧ W'.cell? ⟨b, off + k * 3 + 1, none⟩ = some (.int .i64 y)) := fun o W' q => ⟨q.f.cell 1, by rw [q.bel.cell (World.block_lt_of_cell? w _ HY.out)]; exact HY.out⟩
          have hT : wr.drew.cell? ⟨h, 1, none⟩ = some (.slice (some ⟨b, off, none⟩) 6 c) ∧ wr.drew.cell? ⟨b, off + k * 3 + 1, none⟩ = some (.int .i64 y) := HTT.out _ _ (HP.out.on (Below.refl _ _).drew)
          have hS : wr.drew.cell? ⟨g, 0, none⟩ = some (.string S2) ∧ wr.drew.cell? ⟨g, 1, none⟩ = some (.bool b2) := ⟨HP.out.o.cell 0, HP.out.o.cell 1⟩
          go_wp2_with fail
          refine wp_region_noPanic ?_
          refine till_begin 7 (fun W' => W'.cell? ⟨g, 0, none⟩ = some (.string S2) ∧ W'.cell? ⟨g, 1, none⟩ = some (.bool b2)) (fun W' => W'.cell? ⟨h, 1, none⟩ = some (.slice (some ⟨b, off, none⟩) 6 c) ∧ W'.cell? ⟨b, off + k * 3 + 1, none⟩ = some (.int .i64 y)) (by kernel_rfl) ?_
          refine till_take' (i := 0) (v := ?_) rfl rfl (by kernel_rfl) (by kernel_rfl) (by kernel_rfl) rfl (by kernel_rfl) (by kernel_rfl) (fun _ _ _ h => h) (Or.inl ⟨by rfl, ?_⟩) (by assumption) (by assumption) ?_
          rotate_left
          · intro w hSw; (try dsimp only at hSw); go_simp; try with_reducible rfl
          try simp only [Act.put, List.setIfInBounds_toArray, List.set_cons_zero, List.set_cons_succ]
          refine till_take (i := 1) (v := ?_) rfl rfl (by kernel_rfl) (by kernel_rfl) (by kernel_rfl) rfl (fun _ _ _ h => h) (Or.inl ⟨by rfl, ?_⟩) (by assumption) (fun _ => by assumption) ?_
          rotate_left
          · intro w hSw; (try dsimp only at hSw); go_simp; try with_reducible rfl
          try simp only [Act.put, List.setIfInBounds_toArray, List.set_cons_zero, List.set_cons_succ]
          refine till_take (i := 2) (v := ?_) rfl rfl (by kernel_rfl) (by kernel_rfl) (by kernel_rfl) rfl (fun _ _ _ h => h) (Or.inl ⟨by rfl, ?_⟩) (by assumption) (fun _ => by assumption) ?_
          rotate_left
          · intro w hSw; (try dsimp only at hSw); go_simp; try with_reducible rfl
          try simp only [Act.put, List.setIfInBounds_toArray, List.set_cons_zero, List.set_cons_succ]
          refine till_take (i := 3) (v := ?_) rfl rfl (by kernel_rfl) (by kernel_rfl) (by kernel_rfl) rfl (fun _ _ _ h => h) (Or.inl ⟨by rfl, ?_⟩) (by assumption) (fun _ => by assumption) ?_
          rotate_left
          · intro w hSw; (try dsimp only at hSw); go_simp; try with_reducible rfl
          try simp only [Act.put, List.setIfInBounds_toArray, List.set_cons_zero, List.set_cons_succ]
          refine till_take (i := 4) (v := ?_) rfl rfl (by kernel_rfl) (by kernel_rfl) (by kernel_rfl) rfl (fun _ _ _ h => h) (Or.inl ⟨by rfl, ?_⟩) (by assumption) (fun _ => by assumption) ?_
          rotate_left
          · intro w hSw; (try dsimp only at hSw); go_simp; try with_reducible rfl
          try simp only [Act.put, List.setIfInBounds_toArray, List.set_cons_zero, List.set_cons_succ]
          refine till_take (i := 5) (v := ?_) rfl rfl (by kernel_rfl) (by kernel_rfl) (by kernel_rfl) rfl (fun _ _ _ h => h) (Or.inl ⟨by rfl, ?_⟩) (by assumption) (fun _ => by assumption) ?_
          rotate_left
          · intro w hSw; (try dsimp only at hSw); go_simp; try with_reducible rfl
          try simp only [Act.put, List.setIfInBounds_toArray, List.set_cons_zero, List.set_cons_succ]
          refine till_take (i := 6) (v := ?_) rfl rfl (by kernel_rfl) (by kernel_rfl) (by kernel_rfl) rfl (fun _ _ _ h => h) (Or.inl ⟨by rfl, ?_⟩) (by assumption) (fun _ => by assumption) ?_
          rotate_left
          · intro w hSw; (try dsimp only at hSw); go_simp; try with_reducible rfl
          try simp only [Act.put, List.setIfInBounds_toArray, List.set_cons_zero, List.set_cons_succ]
          refine till_take (i := 8) (v := ?_) rfl rfl (by kernel_rfl) (by kernel_rfl) (by kernel_rfl) rfl (fun _ _ _ h => h) (Or.inl ⟨by rfl, ?_⟩) (by assumption) (fun _ => by assumption) ?_
          rotate_left
          · intro w hSw; (try dsimp only at hSw); go_simp; try with_reducible rfl
          try simp only [Act.put, List.setIfInBounds_toArray, List.set_cons_zero, List.set_cons_succ]
          refine till_step (i := 7) (by kernel_rfl) rfl (fun K hK => ?_)
          go_simp
          refine (C7.out _).mono ?_
          rintro e wp ⟨rfl, hb⟩
          have HP1 : Hid (PtS 24 w h g #[.int .i64 Ep, .slice (some ⟨b, off, none⟩) 6 c, .int .i64 Op] (S2, b2) wp) := HP.out.on (below_step (Below.refl _ _).drew (Nat.le_refl _) hb)
          clear hb hS HP C7 hT
          refine hK.out _ _ (HTT.out _ _ HP1.out) (fun h => till_no (by kernel_rfl) h) ?_
          clear hK K
          refine till_step (i := 9) (by kernel_rfl) rfl (fun K hK => ?_)
          go_simp
          refine (C9.out _).mono ?_
          rintro e wq ⟨rfl, hb⟩
          have HP2 : Hid (PtS 24 w h g #[.int .i64 Ep, .slice (some ⟨b, off, none⟩) 6 c, .int .i64 Op] (S2, b2) wq) := HP1.out.on hb
          clear hb HP1 C9
          refine hK.out _ _ (HTT.out _ _ HP2.out) (fun h => till_no (by kernel_rfl) h) ?_
          clear hK K
          refine till_step (i := 10) (by kernel_rfl) rfl (fun K hK => ?_)
          refine step_storeRow rfl rfl 81 _ _ rfl g #[.string S2, .bool b2] #[.string S4, .bool b4] rfl rfl HP2.out.o rfl (by kernel_rfl) (by simp [Value.oneCell']) ?_
          have HP4 : Hid (PtS 24 w h g #[.int .i64 Ep, .slice (some ⟨b, off, none⟩) 6 c, .int .i64 Op] (S4, b4) (wq.setRow g #[.string S4, .bool b4])) := HP2.out.setO (S4, b4)
          clear HP2
          refine hK.out _ _ (HTT.out _ _ HP4.out) (fun h => till_no (by kernel_rfl) h) ?_
          clear hK K
          refine till_done (by kernel_rfl) (NoPanic.normal ?_) _
          clear HTT
          have HPN : Hid (PtS 24 w h g #[.int .i64 Ep, .slice (some ⟨b, off, none⟩) 6 c, .int .i64 Op] (writeA st (((l.take (k + 1)).map memPr).flatMap prPs)) (wq.setRow g #[.string S4, .bool b4])) := by show PtS _ _ _ _ _ _ _; rw [HNX.out]; exact HP4.out
          obtain ⟨w4, hwx⟩ : ∃ wx, wq.setRow g #[.string S4, .bool b4] = wx := ⟨_, rfl⟩
          rw [hwx] at HPN
          try rw [hwx]
          clear hwx wq HP4 HNX HY
          go_wp2_with fail
          refine ⟨?_, ?_⟩
          · first
            | exact ⟨k + 1, by omega, by go_num, HPN⟩
            | ((repeat apply Exists.intro); refine ⟨?_, rfl⟩; exact ⟨k + 1, by omega, by go_num, HPN⟩)
          · simp [intOf] <;> omega
        | true =>
          rw [show inN true = 1 from rfl] at C9
          have HTT : Hid (∀ (o : ByteArray × Bool) W', PtS 24 w h g #[.int .i64 Ep, .slice (some ⟨b, off, none⟩) 6 c, .int .i64 Op] o W' → W'.cell? ⟨h, 1, none⟩ = some (.slice (some ⟨b, off, none⟩) 6 c) ∧ W'.cell? ⟨b, off + k * 3 + 1, none⟩ = some (.int .i64 y)) := fun o W' q => ⟨q.f.cell 1, by rw [q.bel.cell (World.block_lt_of_cell? w _ HY.out)]; exact HY.out⟩
          have hT : wr.drew.cell? ⟨h, 1, none⟩ = some (.slice (some ⟨b, off, none⟩) 6 c) ∧ wr.drew.cell? ⟨b, off + k * 3 + 1, none⟩ = some (.int .i64 y) := HTT.out _ _ (HP.out.on (Below.refl _ _).drew)
          have hS : wr.drew.cell? ⟨g, 0, none⟩ = some (.string S2) ∧ wr.drew.cell? ⟨g, 1, none⟩ = some (.bool b2) := ⟨HP.out.o.cell 0, HP.out.o.cell 1⟩
          go_wp2_with fail
          refine wp_region_noPanic ?_
          refine till_begin 7 (fun W' => W'.cell? ⟨g, 0, none⟩ = some (.string S2) ∧ W'.cell? ⟨g, 1, none⟩ = some (.bool b2)) (fun W' => W'.cell? ⟨h, 1, none⟩ = some (.slice (some ⟨b, off, none⟩) 6 c) ∧ W'.cell? ⟨b, off + k * 3 + 1, none⟩ = some (.int .i64 y)) (by kernel_rfl) ?_
          refine till_take' (i := 0) (v := ?_) rfl rfl (by kernel_rfl) (by kernel_rfl) (by kernel_rfl) rfl (by kernel_rfl) (by kernel_rfl) (fun _ _ _ h => h) (Or.inl ⟨by rfl, ?_⟩) (by assumption) (by assumption) ?_
          rotate_left
          · intro w hSw; (try dsimp only at hSw); go_simp; try with_reducible rfl
          try simp only [Act.put, List.setIfInBounds_toArray, List.set_cons_zero, List.set_cons_succ]
          refine till_take (i := 1) (v := ?_) rfl rfl (by kernel_rfl) (by kernel_rfl) (by kernel_rfl) rfl (fun _ _ _ h => h) (Or.inl ⟨by rfl, ?_⟩) (by assumption) (fun _ => by assumption) ?_
          rotate_left
          · intro w hSw; (try dsimp only at hSw); go_simp; try with_reducible rfl
          try simp only [Act.put, List.setIfInBounds_toArray, List.set_cons_zero, List.set_cons_succ]
          refine till_take (i := 2) (v := ?_) rfl rfl (by kernel_rfl) (by kernel_rfl) (by kernel_rfl) rfl (fun _ _ _ h => h) (Or.inl ⟨by rfl, ?_⟩) (by assumption) (fun _ => by assumption) ?_
          rotate_left
          · intro w hSw; (try dsimp only at hSw); go_simp; try with_reducible rfl
          try simp only [Act.put, List.setIfInBounds_toArray, List.set_cons_zero, List.set_cons_succ]
          refine till_take (i := 3) (v := ?_) rfl rfl (by kernel_rfl) (by kernel_rfl) (by kernel_rfl) rfl (fun _ _ _ h => h) (Or.inl ⟨by rfl, ?_⟩) (by assumption) (fun _ => by assumption) ?_
          rotate_left
          · intro w hSw; (try dsimp only at hSw); go_simp; try with_reducible rfl
          try simp only [Act.put, List.setIfInBounds_toArray, List.set_cons_zero, List.set_cons_succ]
          refine till_take (i := 4) (v := ?_) rfl rfl (by kernel_rfl) (by kernel_rfl) (by kernel_rfl) rfl (fun _ _ _ h => h) (Or.inl ⟨by rfl, ?_⟩) (by assumption) (fun _ => by assumption) ?_
          rotate_left
          · intro w hSw; (try dsimp only at hSw); go_simp; try with_reducible rfl
          try simp only [Act.put, List.setIfInBounds_toArray, List.set_cons_zero, List.set_cons_succ]
          refine till_take (i := 5) (v := ?_) rfl rfl (by kernel_rfl) (by kernel_rfl) (by kernel_rfl) rfl (fun _ _ _ h => h) (Or.inl ⟨by rfl, ?_⟩) (by assumption) (fun _ => by assumption) ?_
          rotate_left
          · intro w hSw; (try dsimp only at hSw); go_simp; try with_reducible rfl
          try simp only [Act.put, List.setIfInBounds_toArray, List.set_cons_zero, List.set_cons_succ]
          refine till_take (i := 6) (v := ?_) rfl rfl (by kernel_rfl) (by kernel_rfl) (by kernel_rfl) rfl (fun _ _ _ h => h) (Or.inl ⟨by rfl, ?_⟩) (by assumption) (fun _ => by assumption) ?_
          rotate_left
          · intro w hSw; (try dsimp only at hSw); go_simp; try with_reducible rfl
          try simp only [Act.put, List.setIfInBounds_toArray, List.set_cons_zero, List.set_cons_succ]
          refine till_take (i := 8) (v := ?_) rfl rfl (by kernel_rfl) (by kernel_rfl) (by kernel_rfl) rfl (fun _ _ _ h => h) (Or.inl ⟨by rfl, ?_⟩) (by assumption) (fun _ => by assumption) ?_
          rotate_left
          · intro w hSw; (try dsimp only at hSw); go_simp; try with_reducible rfl
          try simp only [Act.put, List.setIfInBounds_toArray, List.set_cons_zero, List.set_cons_succ]
          refine till_step (i := 7) (by kernel_rfl) rfl (fun K hK => ?_)
          go_simp
          refine (C7.out _).mono ?_
          rintro e wp ⟨rfl, hb⟩
          have HP1 : Hid (PtS 24 w h g #[.int .i64 Ep, .slice (some ⟨b, off, none⟩) 6 c, .int .i64 Op] (S2, b2) wp) := HP.out.on (below_step (Below.refl _ _).drew (Nat.le_refl _) hb)
          clear hb hS HP C7 hT
          refine hK.out _ _ (HTT.out _ _ HP1.out) (fun h => till_no (by kernel_rfl) h) ?_
          clear hK K
          refine till_step (i := 9) (by kernel_rfl) rfl (fun K hK => ?_)
          go_simp
          refine (C9.out _).mono ?_
          rintro e wq ⟨rfl, hb⟩
          have HP2 : Hid (PtS 24 w h g #[.int .i64 Ep, .slice (some ⟨b, off, none⟩) 6 c, .int .i64 Op] (S2, b2) wq) := HP1.out.on hb
          clear hb HP1 C9
          refine hK.out _ _ (HTT.out _ _ HP2.out) (fun h => till_no (by kernel_rfl) h) ?_
          clear hK K
          refine till_step (i := 10) (by kernel_rfl) rfl (fun K hK => ?_)
          refine step_storeRow rfl rfl 81 _ _ rfl g #[.string S2, .bool b2] #[.string S4, .bool b4] rfl rfl HP2.out.o rfl (by kernel_rfl) (by simp [Value.oneCell']) ?_
          have HP4 : Hid (PtS 24 w h g #[.int .i64 Ep, .slice (some ⟨b, off, none⟩) 6 c, .int .i64 Op] (S4, b4) (wq.setRow g #[.string S4, .bool b4])) := HP2.out.setO (S4, b4)
          clear HP2
          refine hK.out _ _ (HTT.out _ _ HP4.out) (fun h => till_no (by kernel_rfl) h) ?_
          clear hK K
          refine till_done (by kernel_rfl) (NoPanic.normal ?_) _
          clear HTT
          have HPN : Hid (PtS 24 w h g #[.int .i64 Ep, .slice (some ⟨b, off, none⟩) 6 c, .int .i64 Op] (writeA st (((l.take (k + 1)).map memPr).flatMap prPs)) (wq.setRow g #[.string S4, .bool b4])) := by show PtS _ _ _ _ _ _ _; rw [HNX.out]; exact HP4.out
          obtain ⟨w4, hwx⟩ : ∃ wx, wq.setRow g #[.string S4, .bool b4] = wx := ⟨_, rfl⟩
          rw [hwx] at HPN
          try rw [hwx]
          clear hwx wq HP4 HNX HY
          go_wp2_with fail
          refine ⟨?_, ?_⟩
          · first
            | exact ⟨k + 1, by omega, by go_num, HPN⟩
            | ((repeat apply Exists.intro); refine ⟨?_, rfl⟩; exact ⟨k + 1, by omega, by go_num, HPN⟩)
          · simp [intOf] <;> omega
      · obtain rfl : k = 6 := by omega
        have b0 : ¬ ((6 : Int) < 6) := by omega
        rw [List.take_of_length_le (by rw [HL.out]; decide)] at hsk
        have HSK : Hid (writeA st ((l.map memPr).flatMap prPs) = (S2, b2)) := hsk
        have d0 : wr.cell? ⟨g, 0, none⟩ = some (.string S2) := HPk.out.o.cell 0
        have d1 : wr.cell? ⟨g, 1, none⟩ = some (.bool b2) := HPk.out.o.cell 1
        have CD : Hid (Calls Tryd.prog 47 #[.agg #[.string S2, .bool b2]] wr fun e w' => e = .returned (doneP (S2, b2)) ∧ Below wr.heap.size wr w') := rdone_any (S2, b2) wr
        clear hsk hz
        go_wp2_with fail
        refine (Calls.mono CD.out) ?_
        rintro e w9 ⟨rfl, hb⟩
        have HB9 : Hid (Below w.heap.size w w9) := below_step HPk.out.bel (Nat.le_refl _) hb
        clear hb HPk CD d0 d1
        rw [doneP_Q, ← HSK.out, HPS.out]
        go_wp2_with fail
        go_ret2
        exact ⟨rfl, HB9.out⟩

end Go.Proofs.YtabhkebkbidfhaaDoor
