/- GroupFull: the walk. -/
import Derived.Test.YtabhkebkbidfhaaDoorGpW
namespace Go.Proofs.YtabhkebkbidfhaaDoor
open Go.RowKit
set_option maxRecDepth 100000
set_option linter.unusedSimpArgs false
set_option linter.unusedVariables false
set_option maxRecDepth 100000

/-- The group behind k operations of the admin's. -/
def gF (k : Nat) : GrpT := (1, (newM 6).set 0 (1, (k : Int), true), min 500 (498 + (k : Int)))
/-- ... and behind a rotation. -/
def gFr (k : Nat) : GrpT := (2, (newM 6).set 0 (1, (k : Int) + 1, true), min 500 (498 + (k : Int)))
def opF (k : Nat) : OpT := (5, ((k : Int), 1), (1, 1), (0, 0), ⟨#[]⟩, ⟨#[]⟩)
theorem mayF : ∀ k, k < 6 → mayGb (gF k) = true := by decide +kernel
theorem jF (k : Nat) (hk : k < 5) : judgeG (gF k) 1 (recO ((k : Int) + 1) (opF (k + 1))) = (gF (k + 1), decide (k + 1 ≤ 2)) := by
  rcases (by omega : k = 0 ∨ k = 1 ∨ k = 2 ∨ k = 3 ∨ k = 4) with rfl | rfl | rfl | rfl | rfl <;> decide +kernel
theorem jFr (k : Nat) (hk : k < 6) : judgeG (gF k) 1 (recK 4 ((k : Int) + 1) 0) = (gFr k, true) := by
  rcases (by omega : k = 0 ∨ k = 1 ∨ k = 2 ∨ k = 3 ∨ k = 4 ∨ k = 5) with rfl | rfl | rfl | rfl | rfl | rfl <;> decide +kernel
theorem cF : ∀ k, k < 6 → (mmL (gF k).2.1 0).2.1 = (k : Int) := by decide +kernel
theorem mayR_O (M : OpT → Bool) (hM : ∀ o, M o = true ↔ MayO o) (k : Nat) (hk : k < 5) : mayRb M (recO ((k : Int) + 1) (opF (k + 1))) = true := by
  have hm : M (opF (k + 1)) = true := by
    rw [hM]
    refine ⟨?_, ?_, .inr (.inr (.inr (.inr ⟨rfl, rfl, rfl, rfl⟩)))⟩
    · show MayS (((k + 1 : Nat) : Int), 1)
      unfold MayS; simp only; omega
    · show MayS (1, 1)
      unfold MayS; decide
  unfold mayRb ownRb recO
  simp only [zeroB_size]
  simp [opF] at hm ⊢
  simp [hm]
  omega
theorem eF (M : OpT → Bool) (hM : ∀ o, M o = true ↔ MayO o) (k : Nat) (hk : k < 5) : judgeE M (gF k) 1 (recO ((k : Int) + 1) (opF (k + 1))) = 0 := judgeE_yes M _ _ _ (mayF k (by omega)) (mayR_O M hM k hk) (by show (k : Int) + 1 = (mmL (gF k).2.1 0).2.1 + 1; rw [cF k (by omega)]) ⟨by decide, by show (1 : Int) - 1 ≤ 1; decide, by show (1 : Int) ≤ 1; decide⟩
theorem eFr (M : OpT → Bool) (k : Nat) (hk : k < 6) : judgeE M (gF k) 1 (recK 4 ((k : Int) + 1) 0) = 0 := judgeE_yes M _ _ _ (mayF k hk) (mayR_K M 4 _ 0 (.inr (.inr ⟨rfl, rfl⟩)) (by omega)) (by show (k : Int) + 1 = (mmL (gF k).2.1 0).2.1 + 1; rw [cF k hk]) ⟨by decide, by show (1 : Int) - 1 ≤ 1; decide, by show (1 : Int) ≤ 1; decide⟩
theorem recO_in (C : Int) (k : Nat) (w : World) : RcIn w (recO C (opF k)) none :=
  ⟨by show (0 : Nat) ≤ _; omega, by show (0 : Nat) ≤ _; omega, ⟨rfl, .inl rfl⟩, fun i => by show (wrL [] i).2.size ≤ _; rw [show wrL [] i = (0, ByteArray.empty) from rfl]; decide, by show (0 : Nat) ≤ _; omega, by show (zeroB 32).size ≤ _; rw [zeroB_size]; decide⟩

set_option maxHeartbeats 8000000 in
theorem groupFull_law (a0 : Int) (w : World) (hG : Glob8 w) : Calls Tryd.prog 6 #[.int .i64 a0] w fun e w' => e = .returned (.bool true) ∧ Below w.heap.size w w' := by
  obtain ⟨M, hM⟩ := mayM_ex20
  have HG : Hid (Glob8 w) := hG
  have hm3 : bits .and .i64 a0 3 = a0 % 4 := i64_mask a0 2 (by decide) 3 (by decide)
  obtain ⟨m, hm⟩ : ∃ m : Nat, a0 % 4 = (m : Int) := ⟨(a0 % 4).toNat, by omega⟩
  have hm4 : m < 4 := by omega
  rw [hm] at hm3
  have a1 : IntKind.i64.wrap (2 + (m : Int)) = 2 + (m : Int) := by rw [IntKind.wrap_i64]; omega
  have a2 : IntKind.i64.wrap (3 + (m : Int)) = 3 + (m : Int) := by rw [IntKind.wrap_i64]; omega
  have CJ0 : Hid (∀ W b c k, k < 5 → Below w.heap.size w W → RowM W b c (gF k).2.1 → Calls Tryd.prog 11 #[.agg #[.int .i64 1, .slice (some ⟨b, 0, none⟩) 6 c, .int .i64 (gF k).2.2], .int .i64 1, .agg (recA (recO ((k : Int) + 1) (opF (k + 1))) none 0)] W fun e w' => ∃ b' c', e = .returned (.tuple #[.agg #[.int .i64 1, .slice (some ⟨b', 0, none⟩) 6 c', .int .i64 (gF (k + 1)).2.2], .bool (decide (k + 1 ≤ 2)), .int .i64 0]) ∧ W.heap.size ≤ b' ∧ RowM w' b' c' (gF (k + 1)).2.1 ∧ Below W.heap.size W w') := fun W b c k hk hb hm => judgeY_any M hM 1 (gF k).2.2 1 (gF k).2.1 b c (recO ((k : Int) + 1) (opF (k + 1))) none 0 1 (gF (k + 1)).2.2 (gF (k + 1)).2.1 (decide (k + 1 ≤ 2)) W (hG.below hb) (recO_in _ _ _) hm (eF M hM k hk) (jF k hk)
  have CJr : Hid (∀ W b c k, k < 6 → Below w.heap.size w W → RowM W b c (gF k).2.1 → Calls Tryd.prog 11 #[.agg #[.int .i64 1, .slice (some ⟨b, 0, none⟩) 6 c, .int .i64 (gF k).2.2], .int .i64 1, .agg (recA (recK 4 ((k : Int) + 1) 0) none 0)] W fun e w' => ∃ b' c', e = .returned (.tuple #[.agg #[.int .i64 2, .slice (some ⟨b', 0, none⟩) 6 c', .int .i64 (gF k).2.2], .bool true, .int .i64 0]) ∧ W.heap.size ≤ b' ∧ RowM w' b' c' (gFr k).2.1 ∧ Below W.heap.size W w') := fun W b c k hk hb hm => judgeY_any M hM 1 (gF k).2.2 1 (gF k).2.1 b c (recK 4 ((k : Int) + 1) 0) none 0 2 (gF k).2.2 (gFr k).2.1 true W (hG.below hb) (recK_in _ _ _ _) hm (eFr M k hk) (jFr k hk)
  clear hG hM hm
  go_enter Tryd.func6, Tryd.ntmps6
  go_wp2_with fail
  refine (new20_any w).mono ?_
  rintro e w1 ⟨b0, c0, rfl, hb0, hm0, hb⟩
  have HJ0 : Hid (JdS w w1.heap.size b0 c0 1 498 (gF 0).2.1 (w1.alloc (.cells #[.int .i64 1, .slice (some ⟨b0, 0, none⟩) 6 c0, .int .i64 498] 24))) := by
    exact ⟨Blk.new _ _ _, hm0.on (below_new _ _), below_step hb (Nat.le_refl _) (below_new _ _), hb.size, hb0⟩
  clear hb0 hm0 hb
  go_wp2_with fail
  obtain ⟨W1, hW1⟩ : ∃ W1, w1.alloc (.cells #[.int .i64 1, .slice (some ⟨b0, 0, none⟩) 6 c0, .int .i64 498] 24) = W1 := ⟨_, rfl⟩
  obtain ⟨h3, hh3⟩ : ∃ h3, w1.heap.size = h3 := ⟨_, rfl⟩
  rw [hW1, hh3] at HJ0
  rw [hW1, hh3]
  clear hW1 hh3
  go_loopw [4] (fun v wr => ∃ k : Nat, k ≤ 2 + m ∧ v = .int .i64 ((k : Int) + 1) ∧ Hid (∃ b c, JdS w h3 b c 1 (gF k).2.2 (gF k).2.1 wr)) (fun v _ => 8 - (intOf v).toNat)
  case atStart => exact ⟨0, Nat.zero_le _, rfl, ⟨_, _, HJ0.out⟩⟩
  case round =>
    clear HJ0
    obtain ⟨k, hk, rfl, HX⟩ := hrel
    obtain ⟨b3, c3, hJ⟩ := HX.out
    have HJ : Hid (JdS w h3 b3 c3 1 (gF k).2.2 (gF k).2.1 wr) := hJ
    clear HX hJ
    obtain ⟨o3, ho3⟩ : ∃ o3, (gF k).2.2 = o3 := ⟨_, rfl⟩
    by_cases hlt : k < 2 + m
    · have b1 : (k : Int) + 1 ≤ 2 + (m : Int) := by omega
      have hk5 : k < 5 := by omega
      have HK5 : Hid (k < 5) := hk5
      have CJ := CJ0
      obtain ⟨o4, ho4⟩ : ∃ o4, (gF (k + 1)).2.2 = o4 := ⟨_, rfl⟩
      obtain ⟨D, hD⟩ : ∃ D, decide (k + 1 ≤ 2) = D := ⟨_, rfl⟩
      have e1 : IntKind.i64.wrap (498 + ((k : Int) + 1)) = 498 + ((k : Int) + 1) := by rw [IntKind.wrap_i64]; omega
      have e2 : min (500 : Int) (498 + ((k : Int) + 1)) = o4 := by rw [← ho4]; show _ = min 500 (498 + ((k + 1 : Nat) : Int)); rfl
      have e3 : decide ((k : Int) + 1 ≤ 2) = D := by rw [← hD]; exact decide_eq_decide.2 (by omega)
      have e4 : IntKind.i64.wrap ((k : Int) + 1 + 1) = (k : Int) + 1 + 1 := by rw [IntKind.wrap_i64]; omega
      have e5 : (o4 != o4) = false := by simp
      obtain ⟨Z, hZ⟩ : ∃ Z, zeroB 32 = Z := ⟨_, rfl⟩
      have hmk := fun w : World => make_zeros 32 32 rfl (by decide) w
      have hcv : (convert 53 9 (.slice (some ⟨wr.heap.size, 0, none⟩) 32 32)).run Tryd.prog (wr.alloc (.cells (zcells 32) 5)) = .ok (.string Z) (wr.alloc (.cells (zcells 32) 5)) := by
        rw [← hZ]
        exact conv_zeros (row_zeros 32 wr)
      have CR : Hid (∀ W, Below w.heap.size w W → RowM W b3 c3 (gF k).2.1 → Calls Tryd.prog 11 #[.agg #[.int .i64 1, .slice (some ⟨b3, 0, none⟩) 6 c3, .int .i64 o3], .int .i64 1, .agg #[.int .i64 1, .int .i64 1, .int .i64 ((k : Int) + 1), .int .i64 0, .string Z, .int .i64 5, .int .i64 ((k : Int) + 1), .int .i64 1, .int .i64 1, .int .i64 1, .int .i64 0, .int .i64 0, .string ⟨#[]⟩, .string ⟨#[]⟩, .int .i64 0, .slice none 0 0]] W fun e w' => ∃ b' c', e = .returned (.tuple #[.agg #[.int .i64 1, .slice (some ⟨b', 0, none⟩) 6 c', .int .i64 o4], .bool D, .int .i64 0]) ∧ W.heap.size ≤ b' ∧ RowM w' b' c' (gF (k + 1)).2.1 ∧ Below W.heap.size W w') := fun W hW hM => by
        have h := CJ0.out W b3 c3 k HK5.out hW hM
        rw [ho3, ho4, hD] at h
        unfold recO at h
        rw [hZ] at h
        exact h
      rw [ho3] at HJ
      have HO4 : Hid ((gF (k + 1)).2.2 = o4) := ho4
      have nb := below_new wr (.cells (zcells 32) 5)
      have nc := below_new (wr.alloc (.cells (zcells 32) 5)) (.cells #[.int .i64 1, .int .i64 1, .int .i64 ((k : Int) + 1), .int .i64 0, .string Z, .int .i64 5, .int .i64 ((k : Int) + 1), .int .i64 1, .int .i64 1, .int .i64 1, .int .i64 0, .int .i64 0, .string ⟨#[]⟩, .string ⟨#[]⟩, .int .i64 0, .slice none 0 0] 31)
      obtain ⟨W2, hW2⟩ : ∃ W2, (wr.alloc (.cells (zcells 32) 5)).alloc (.cells #[.int .i64 1, .int .i64 1, .int .i64 ((k : Int) + 1), .int .i64 0, .string Z, .int .i64 5, .int .i64 ((k : Int) + 1), .int .i64 1, .int .i64 1, .int .i64 1, .int .i64 0, .int .i64 0, .string ⟨#[]⟩, .string ⟨#[]⟩, .int .i64 0, .slice none 0 0] 31) = W2 := ⟨_, rfl⟩
      have HJ2 : Hid (JdS w h3 b3 c3 1 o3 (gF k).2.1 W2) := by rw [← hW2]; exact HJ.out.on (below_step nb (Nat.le_refl _) nc)
      have r : Blk W2 31 (wr.heap.size + 1) #[.int .i64 1, .int .i64 1, .int .i64 ((k : Int) + 1), .int .i64 0, .string Z, .int .i64 5, .int .i64 ((k : Int) + 1), .int .i64 1, .int .i64 1, .int .i64 1, .int .i64 0, .int .i64 0, .string ⟨#[]⟩, .string ⟨#[]⟩, .int .i64 0, .slice none 0 0] := by rw [← hW2]; exact Blk.new' _ _ _ _ (by simp)
      have d0 : W2.cell? ⟨h3, 0, none⟩ = some (.int .i64 1) := HJ2.out.gg.cell 0
      have d1 : W2.cell? ⟨h3, 1, none⟩ = some (.slice (some ⟨b3, 0, none⟩) 6 c3) := HJ2.out.gg.cell 1
      have d2 : W2.cell? ⟨h3, 2, none⟩ = some (.int .i64 o3) := HJ2.out.gg.cell 2
      have HW2 : Hid (_ = W2) := hW2
      rw [← hW2] at d0 d1 d2
      clear ho3 ho4 hD hZ nb nc hW2 r CJ HJ
      go_wp2_with fail
      rw [HW2.out]
      clear d0 d1 d2 HW2 hmk hcv
      refine (CR.out W2 HJ2.out.bel HJ2.out.mm).mono ?_
      rintro e W3 ⟨b4, c4, rfl, hb4, hm4', hb⟩
      have HJ3 : Hid (JdS w h3 b3 c3 1 o3 (gF k).2.1 W3) := HJ2.out.on hb
      have HM4 : Hid (RowM W3 b4 c4 (gF (k + 1)).2.1 ∧ w.heap.size ≤ b4) := ⟨hm4', Nat.le_trans HJ2.out.bel.size hb4⟩
      have nd := below_new W3 (.cells #[.int .i64 1, .slice (some ⟨b4, 0, none⟩) 6 c4, .int .i64 o4] 24)
      obtain ⟨W4, hW4⟩ : ∃ W4, W3.alloc (.cells #[.int .i64 1, .slice (some ⟨b4, 0, none⟩) 6 c4, .int .i64 o4] 24) = W4 := ⟨_, rfl⟩
      rw [hW4] at nd
      have HJ4 : Hid (JdS w h3 b3 c3 1 o3 (gF k).2.1 W4) := HJ3.out.on nd
      have HM5 : Hid (RowM W4 b4 c4 (gF (k + 1)).2.1 ∧ w.heap.size ≤ b4) := ⟨HM4.out.1.on nd, HM4.out.2⟩
      have n : Blk W4 24 W3.heap.size #[.int .i64 1, .slice (some ⟨b4, 0, none⟩) 6 c4, .int .i64 o4] := by rw [← hW4]; exact Blk.new _ _ _
      have d0 : W4.cell? ⟨W3.heap.size, 0, none⟩ = some (.int .i64 1) := n.cell 0
      have d1 : W4.cell? ⟨W3.heap.size, 1, none⟩ = some (.slice (some ⟨b4, 0, none⟩) 6 c4) := n.cell 1
      have d2 : W4.cell? ⟨W3.heap.size, 2, none⟩ = some (.int .i64 o4) := n.cell 2
      have X1 := HJ4.out.gg
      have HJ5 : Hid (JdS w h3 b4 c4 1 o4 (gF (k + 1)).2.1 (W4.setRow h3 #[.int .i64 1, .slice (some ⟨b4, 0, none⟩) 6 c4, .int .i64 o4])) := by
        exact ⟨X1.setRow _, HM5.out.1.same (setRow_other _ _ _ _ (fun e => HM5.out.1.ne X1 e.symm)), below_setRow HJ4.out.bel HJ4.out.lh _, HJ4.out.lh, HM5.out.2⟩
      have HW4 : Hid (_ = W4) := hW4
      rw [← hW4] at d0 d1 d2 X1 HJ5
      clear hb4 hm4' hb nd hW4 n HJ3 HM4 HJ4 HM5 HJ2 CR
      cases D
      all_goals
        go_wp2_with (with_reducible refine wpList_storeBlk rfl 24 _ _ rfl h3 #[.int .i64 1, .slice (some ⟨b3, 0, none⟩) 6 c3, .int .i64 o3] #[.int .i64 1, .slice (some ⟨b4, 0, none⟩) 6 c4, .int .i64 o4] (by with_unfolding_all rfl) (by with_unfolding_all rfl) X1 rfl (by kernel_rfl) (by kernel_rfl) ?_)
        refine ⟨?_, ?_⟩
        · first
          | exact ⟨k + 1, by omega, by go_num, ⟨_, _, by rw [HO4.out]; exact HJ5.out⟩⟩
          | ((repeat apply Exists.intro); refine ⟨?_, rfl⟩; exact ⟨k + 1, by omega, by go_num, ⟨_, _, by rw [HO4.out]; exact HJ5.out⟩⟩)
        · simp [intOf] <;> omega
    · have hkm : k = 2 + m := by omega
      have b1 : ¬ ((k : Int) + 1 ≤ 2 + (m : Int)) := by omega
      have HKM : Hid (k = 2 + m) := hkm
      have hk6 : k < 6 := by omega
      have HK6 : Hid (k < 6) := hk6
      rw [ho3] at HJ
      obtain ⟨lF, hlF⟩ : ∃ lF, (gFr k).2.1 = lF := ⟨_, rfl⟩
      have CJ : Hid (∀ W, Below wr.heap.size wr W → Calls Tryd.prog 11 #[.agg #[.int .i64 1, .slice (some ⟨b3, 0, none⟩) 6 c3, .int .i64 o3], .int .i64 1, .agg (recA (recK 4 (3 + (m : Int)) 0) none 0)] W fun e w' => ∃ b' c', e = .returned (.tuple #[.agg #[.int .i64 2, .slice (some ⟨b', 0, none⟩) 6 c', .int .i64 o3], .bool true, .int .i64 0]) ∧ W.heap.size ≤ b' ∧ RowM w' b' c' lF ∧ Below W.heap.size W w') := fun W hW => by
        have h := CJr.out W b3 c3 k HK6.out (below_step HJ.out.bel (Nat.le_refl _) hW) (HJ.out.mm.on hW)
        rw [ho3, hlF, show (k : Int) + 1 = 3 + (m : Int) by omega] at h
        exact h
      have CT : Hid (∀ W, Calls Tryd.prog 24 #[.int .i64 4, .int .i64 (3 + (m : Int)), .int .i64 0] W fun e w' => e = .returned (.agg (recA (recK 4 (3 + (m : Int)) 0) none 0)) ∧ Below W.heap.size W w') := fun W => control_any 4 _ 0 W
      clear CJ0 CJr ho3 hlF hkm HKM hk6 HK6 hlt
      have HSS : Hid (∀ W', Below wr.heap.size wr W' → W'.cell? ⟨h3, 0, none⟩ = some (.int .i64 1) ∧ W'.cell? ⟨h3, 1, none⟩ = some (.slice (some ⟨b3, 0, none⟩) 6 c3) ∧ W'.cell? ⟨h3, 2, none⟩ = some (.int .i64 o3)) := fun W' hW => ⟨(HJ.out.gg.on hW).cell 0, (HJ.out.gg.on hW).cell 1, (HJ.out.gg.on hW).cell 2⟩
      have hS0 : wr.drew.cell? ⟨h3, 0, none⟩ = some (.int .i64 1) ∧ wr.drew.cell? ⟨h3, 1, none⟩ = some (.slice (some ⟨b3, 0, none⟩) 6 c3) ∧ wr.drew.cell? ⟨h3, 2, none⟩ = some (.int .i64 o3) := HSS.out _ (Below.refl _ _).drew
      go_wp2_with fail
      go_cut [9, 10, 11] (fun u4 u5 u6 wx => ∃ h b c : Nat, u4 = .pointer (some ⟨h, 0, none⟩) ∧ u5 = .bool true ∧ u6 = .int .i64 0 ∧ Hid (JdS wr h b c 2 o3 lF wx))
      case first =>
        refine wp_region_noPanic ?_
        refine wp_region_held_drew (S := fun W' => W'.cell? ⟨h3, 0, none⟩ = some (.int .i64 1) ∧ W'.cell? ⟨h3, 1, none⟩ = some (.slice (some ⟨b3, 0, none⟩) 6 c3) ∧ W'.cell? ⟨h3, 2, none⟩ = some (.int .i64 o3)) (by kernel_rfl) (by first | exact trivial | assumption | exact ⟨by assumption, by assumption⟩) (fun hHeld => ?_)
        refine take_at (i := 0) (v := ?_) rfl rfl (by kernel_rfl) (by kernel_rfl) (by kernel_rfl) (fun _ _ _ h => h) (Or.inl ⟨by rfl, ?_⟩) (by assumption) ?_
        rotate_left
        · intro w hSw; (try dsimp only at hSw); go_simp; try with_reducible rfl
        try simp only [Act.put, List.setIfInBounds_toArray, List.set_cons_zero, List.set_cons_succ]
        refine take_at (i := 1) (v := ?_) rfl rfl (by kernel_rfl) (by kernel_rfl) (by kernel_rfl) (fun _ _ _ h => h) (Or.inl ⟨by rfl, ?_⟩) (by assumption) ?_
        rotate_left
        · intro w hSw; (try dsimp only at hSw); go_simp; try with_reducible rfl
        try simp only [Act.put, List.setIfInBounds_toArray, List.set_cons_zero, List.set_cons_succ]
        refine take_at (i := 2) (v := ?_) rfl rfl (by kernel_rfl) (by kernel_rfl) (by kernel_rfl) (fun _ _ _ h => h) (Or.inl ⟨by rfl, ?_⟩) (by assumption) ?_
        rotate_left
        · intro w hSw; (try dsimp only at hSw); go_simp; try with_reducible rfl
        try simp only [Act.put, List.setIfInBounds_toArray, List.set_cons_zero, List.set_cons_succ]
        refine take_at (i := 3) (v := ?_) rfl rfl (by kernel_rfl) (by kernel_rfl) (by kernel_rfl) (fun _ _ _ h => h) (Or.inl ⟨by rfl, ?_⟩) (by assumption) ?_
        rotate_left
        · intro w hSw; (try dsimp only at hSw); go_simp; try with_reducible rfl
        try simp only [Act.put, List.setIfInBounds_toArray, List.set_cons_zero, List.set_cons_succ]
        clear hS0
        have hV0 : Below wr.heap.size wr wr.drew := (Below.refl _ _).drew
        refine wpAnyH_ready (rs := [4, 10]) (by kernel_rfl) (by simp) ?_
        refine AllReadyH.cons rfl (fun K hK => ?_) (AllReadyH.cons rfl (fun K hK => ?_) AllReadyH.nil)
        · go_simp
          refine (CT.out _).mono ?_
          rintro e V1 ⟨rfl, hb1⟩
          have hV1 : Below wr.heap.size wr V1 := below_step hV0 (Nat.le_refl _) hb1
          clear hb1
          refine hK.out _ _ (HSS.out _ hV1) (fun hHeld => ?_)
          clear hK K
          refine wpAnyH_ready (rs := [5, 10]) (by kernel_rfl) (by simp) ?_
          refine AllReadyH.cons rfl (fun K hK => ?_) (AllReadyH.cons rfl (fun K hK => ?_) AllReadyH.nil)
          · go_simp
            refine (CJ.out V1 hV1).mono ?_
            rintro e V2 ⟨b9, c9, rfl, hb9, hm8, hb2⟩
            have hV2 : Below wr.heap.size wr V2 := below_step hV1 (Nat.le_refl _) hb2
            have hlb : wr.heap.size ≤ b9 := Nat.le_trans hV1.size hb9
            clear hb2 hb9
            refine hK.out _ _ (HSS.out _ hV2) (fun hHeld => ?_)
            clear hK K
            refine take_at (i := 6) (v := ?_) rfl rfl (by kernel_rfl) (by kernel_rfl) (by kernel_rfl) (fun _ _ _ h => h) (Or.inl ⟨by rfl, ?_⟩) (by assumption) ?_
            rotate_left
            · intro w hSw; (try dsimp only at hSw); go_simp; try with_reducible rfl
            try simp only [Act.put, List.setIfInBounds_toArray, List.set_cons_zero, List.set_cons_succ]
            refine take_at (i := 7) (v := ?_) rfl rfl (by kernel_rfl) (by kernel_rfl) (by kernel_rfl) (fun _ _ _ h => h) (Or.inl ⟨by rfl, ?_⟩) (by assumption) ?_
            rotate_left
            · intro w hSw; (try dsimp only at hSw); go_simp; try with_reducible rfl
            try simp only [Act.put, List.setIfInBounds_toArray, List.set_cons_zero, List.set_cons_succ]
            refine take_at (i := 8) (v := ?_) rfl rfl (by kernel_rfl) (by kernel_rfl) (by kernel_rfl) (fun _ _ _ h => h) (Or.inl ⟨by rfl, ?_⟩) (by assumption) ?_
            rotate_left
            · intro w hSw; (try dsimp only at hSw); go_simp; try with_reducible rfl
            try simp only [Act.put, List.setIfInBounds_toArray, List.set_cons_zero, List.set_cons_succ]
            refine take_at (i := 9) (v := ?_) rfl rfl (by kernel_rfl) (by kernel_rfl) (by kernel_rfl) (fun _ _ _ h => h) (Or.inl ⟨by rfl, ?_⟩) (by assumption) ?_
            rotate_left
            · intro w hSw; (try dsimp only at hSw); go_simp; try with_reducible rfl
            try simp only [Act.put, List.setIfInBounds_toArray, List.set_cons_zero, List.set_cons_succ]
            refine wpAnyH_ready (rs := [10]) (by kernel_rfl) (by simp) ?_
            refine AllReadyH.cons rfl (fun K hK => ?_) AllReadyH.nil
            go_simp
            have hVZ : Below wr.heap.size wr (V2.alloc (.cells #[.int .i64 0, .slice none 0 0, .int .i64 0] 24)) := hV2.alloc hV2.size _
            have hlh := hV2.size
            have hm9 : RowM (V2.alloc (.cells #[.int .i64 0, .slice none 0 0, .int .i64 0] 24)) b9 c9 lF := hm8.on (below_new _ _)
            refine hK.out _ _ (HSS.out _ hVZ) (fun hHeld => ?_)
            clear hK K
            refine wpAnyH_ready (rs := [11]) (by kernel_rfl) (by simp) ?_
            refine AllReadyH.cons rfl (fun K hK => ?_) AllReadyH.nil
            refine step_storeRow rfl rfl 24 _ _ rfl V2.heap.size #[.int .i64 0, .slice none 0 0, .int .i64 0] #[.int .i64 2, .slice (some ⟨b9, 0, none⟩) 6 c9, .int .i64 o3] rfl rfl (Blk.new V2 _ _) rfl (by kernel_rfl) (by simp [Value.oneCell']) ?_
            have HJD : Hid (JdS wr V2.heap.size b9 c9 2 o3 lF ((V2.alloc (.cells #[.int .i64 0, .slice none 0 0, .int .i64 0] 24)).setRow V2.heap.size #[.int .i64 2, .slice (some ⟨b9, 0, none⟩) 6 c9, .int .i64 o3])) := by
              have kk : Blk (V2.alloc (.cells #[.int .i64 0, .slice none 0 0, .int .i64 0] 24)) 24 V2.heap.size #[.int .i64 0, .slice none 0 0, .int .i64 0] := (Blk.new V2 _ _)
              exact ⟨kk.setRow _, hm9.same (setRow_other _ _ _ _ (fun e => hm9.ne kk e.symm)), below_setRow hVZ hlh _, hlh, hlb⟩
            refine hK.out _ _ (HSS.out _ HJD.out.bel) (fun hHeld => ?_)
            clear hK K
            refine take_at (i := 12) (v := ?_) rfl rfl (by kernel_rfl) (by kernel_rfl) (by kernel_rfl) (fun _ _ _ h => h) (Or.inl ⟨by rfl, ?_⟩) (by assumption) ?_
            rotate_left
            · intro w hSw; (try dsimp only at hSw); go_simp; try with_reducible rfl
            try simp only [Act.put, List.setIfInBounds_toArray, List.set_cons_zero, List.set_cons_succ]
            refine take_at (i := 13) (v := ?_) rfl rfl (by kernel_rfl) (by kernel_rfl) (by kernel_rfl) (fun _ _ _ h => h) (Or.inl ⟨by rfl, ?_⟩) (by assumption) ?_
            rotate_left
            · intro w hSw; (try dsimp only at hSw); go_simp; try with_reducible rfl
            try simp only [Act.put, List.setIfInBounds_toArray, List.set_cons_zero, List.set_cons_succ]
            refine wpAnyH_done (by kernel_rfl) (NoPanic.normal ?_) _
            go_wp2_with fail
            go_meet
            case rel => exact ⟨V2.heap.size, b9, c9, rfl, rfl, rfl, HJD⟩
          · go_simp
            have hlh := hV1.size
            have hVA : Below wr.heap.size wr (V1.alloc (.cells #[.int .i64 0, .slice none 0 0, .int .i64 0] 24)) := hV1.alloc hV1.size _
            have KV1 : Blk (V1.alloc (.cells #[.int .i64 0, .slice none 0 0, .int .i64 0] 24)) 24 V1.heap.size #[.int .i64 0, .slice none 0 0, .int .i64 0] := Blk.new V1 _ _
            refine hK.out _ _ (HSS.out _ hVA) (fun hHeld => ?_)
            clear hK K
            refine wpAnyH_ready (rs := [5]) (by kernel_rfl) (by simp) ?_
            refine AllReadyH.cons rfl (fun K hK => ?_) AllReadyH.nil
            go_simp
            refine (CJ.out (V1.alloc (.cells #[.int .i64 0, .slice none 0 0, .int .i64 0] 24)) hVA).mono ?_
            rintro e V2 ⟨b9, c9, rfl, hb9, hm9, hb2⟩
            have hVZ : Below wr.heap.size wr V2 := below_step hVA (Nat.le_refl _) hb2
            have hlb : wr.heap.size ≤ b9 := Nat.le_trans hVA.size hb9
            have KV2 := KV1.on hb2
            clear hb2 hb9
            refine hK.out _ _ (HSS.out _ hVZ) (fun hHeld => ?_)
            clear hK K
            refine take_at (i := 6) (v := ?_) rfl rfl (by kernel_rfl) (by kernel_rfl) (by kernel_rfl) (fun _ _ _ h => h) (Or.inl ⟨by rfl, ?_⟩) (by assumption) ?_
            rotate_left
            · intro w hSw; (try dsimp only at hSw); go_simp; try with_reducible rfl
            try simp only [Act.put, List.setIfInBounds_toArray, List.set_cons_zero, List.set_cons_succ]
            refine take_at (i := 7) (v := ?_) rfl rfl (by kernel_rfl) (by kernel_rfl) (by kernel_rfl) (fun _ _ _ h => h) (Or.inl ⟨by rfl, ?_⟩) (by assumption) ?_
            rotate_left
            · intro w hSw; (try dsimp only at hSw); go_simp; try with_reducible rfl
            try simp only [Act.put, List.setIfInBounds_toArray, List.set_cons_zero, List.set_cons_succ]
            refine take_at (i := 8) (v := ?_) rfl rfl (by kernel_rfl) (by kernel_rfl) (by kernel_rfl) (fun _ _ _ h => h) (Or.inl ⟨by rfl, ?_⟩) (by assumption) ?_
            rotate_left
            · intro w hSw; (try dsimp only at hSw); go_simp; try with_reducible rfl
            try simp only [Act.put, List.setIfInBounds_toArray, List.set_cons_zero, List.set_cons_succ]
            refine take_at (i := 9) (v := ?_) rfl rfl (by kernel_rfl) (by kernel_rfl) (by kernel_rfl) (fun _ _ _ h => h) (Or.inl ⟨by rfl, ?_⟩) (by assumption) ?_
            rotate_left
            · intro w hSw; (try dsimp only at hSw); go_simp; try with_reducible rfl
            try simp only [Act.put, List.setIfInBounds_toArray, List.set_cons_zero, List.set_cons_succ]
            refine wpAnyH_ready (rs := [11]) (by kernel_rfl) (by simp) ?_
            refine AllReadyH.cons rfl (fun K hK => ?_) AllReadyH.nil
            refine step_storeRow rfl rfl 24 _ _ rfl V1.heap.size #[.int .i64 0, .slice none 0 0, .int .i64 0] #[.int .i64 2, .slice (some ⟨b9, 0, none⟩) 6 c9, .int .i64 o3] rfl rfl KV2 rfl (by kernel_rfl) (by simp [Value.oneCell']) ?_
            have HJD : Hid (JdS wr V1.heap.size b9 c9 2 o3 lF (V2.setRow V1.heap.size #[.int .i64 2, .slice (some ⟨b9, 0, none⟩) 6 c9, .int .i64 o3])) := by
              have kk : Blk V2 24 V1.heap.size #[.int .i64 0, .slice none 0 0, .int .i64 0] := KV2
              exact ⟨kk.setRow _, hm9.same (setRow_other _ _ _ _ (fun e => hm9.ne kk e.symm)), below_setRow hVZ hlh _, hlh, hlb⟩
            refine hK.out _ _ (HSS.out _ HJD.out.bel) (fun hHeld => ?_)
            clear hK K
            refine take_at (i := 12) (v := ?_) rfl rfl (by kernel_rfl) (by kernel_rfl) (by kernel_rfl) (fun _ _ _ h => h) (Or.inl ⟨by rfl, ?_⟩) (by assumption) ?_
            rotate_left
            · intro w hSw; (try dsimp only at hSw); go_simp; try with_reducible rfl
            try simp only [Act.put, List.setIfInBounds_toArray, List.set_cons_zero, List.set_cons_succ]
            refine take_at (i := 13) (v := ?_) rfl rfl (by kernel_rfl) (by kernel_rfl) (by kernel_rfl) (fun _ _ _ h => h) (Or.inl ⟨by rfl, ?_⟩) (by assumption) ?_
            rotate_left
            · intro w hSw; (try dsimp only at hSw); go_simp; try with_reducible rfl
            try simp only [Act.put, List.setIfInBounds_toArray, List.set_cons_zero, List.set_cons_succ]
            refine wpAnyH_done (by kernel_rfl) (NoPanic.normal ?_) _
            go_wp2_with fail
            go_meet
            case rel => exact ⟨V1.heap.size, b9, c9, rfl, rfl, rfl, HJD⟩
        · go_simp
          have hlh : wr.heap.size ≤ wr.heap.size := Nat.le_refl _
          have hVA : Below wr.heap.size wr (wr.drew.alloc (.cells #[.int .i64 0, .slice none 0 0, .int .i64 0] 24)) := hV0.alloc (Nat.le_refl _) _
          have KV0 : Blk (wr.drew.alloc (.cells #[.int .i64 0, .slice none 0 0, .int .i64 0] 24)) 24 wr.heap.size #[.int .i64 0, .slice none 0 0, .int .i64 0] := Blk.new' _ _ _ _ rfl
          refine hK.out _ _ (HSS.out _ hVA) (fun hHeld => ?_)
          clear hK K
          refine wpAnyH_ready (rs := [4]) (by kernel_rfl) (by simp) ?_
          refine AllReadyH.cons rfl (fun K hK => ?_) AllReadyH.nil
          go_simp
          refine (CT.out _).mono ?_
          rintro e V1 ⟨rfl, hb1⟩
          have hV1 : Below wr.heap.size wr V1 := below_step hVA (Nat.le_refl _) hb1
          have KV1 := KV0.on hb1
          clear hb1
          refine hK.out _ _ (HSS.out _ hV1) (fun hHeld => ?_)
          clear hK K
          refine wpAnyH_ready (rs := [5]) (by kernel_rfl) (by simp) ?_
          refine AllReadyH.cons rfl (fun K hK => ?_) AllReadyH.nil
          go_simp
          refine (CJ.out V1 hV1).mono ?_
          rintro e V2 ⟨b9, c9, rfl, hb9, hm9, hb2⟩
          have hVZ : Below wr.heap.size wr V2 := below_step hV1 (Nat.le_refl _) hb2
          have hlb : wr.heap.size ≤ b9 := Nat.le_trans hV1.size hb9
          have KV2 := KV1.on hb2
          clear hb2 hb9
          refine hK.out _ _ (HSS.out _ hVZ) (fun hHeld => ?_)
          clear hK K
          refine take_at (i := 6) (v := ?_) rfl rfl (by kernel_rfl) (by kernel_rfl) (by kernel_rfl) (fun _ _ _ h => h) (Or.inl ⟨by rfl, ?_⟩) (by assumption) ?_
          rotate_left
          · intro w hSw; (try dsimp only at hSw); go_simp; try with_reducible rfl
          try simp only [Act.put, List.setIfInBounds_toArray, List.set_cons_zero, List.set_cons_succ]
          refine take_at (i := 7) (v := ?_) rfl rfl (by kernel_rfl) (by kernel_rfl) (by kernel_rfl) (fun _ _ _ h => h) (Or.inl ⟨by rfl, ?_⟩) (by assumption) ?_
          rotate_left
          · intro w hSw; (try dsimp only at hSw); go_simp; try with_reducible rfl
          try simp only [Act.put, List.setIfInBounds_toArray, List.set_cons_zero, List.set_cons_succ]
          refine take_at (i := 8) (v := ?_) rfl rfl (by kernel_rfl) (by kernel_rfl) (by kernel_rfl) (fun _ _ _ h => h) (Or.inl ⟨by rfl, ?_⟩) (by assumption) ?_
          rotate_left
          · intro w hSw; (try dsimp only at hSw); go_simp; try with_reducible rfl
          try simp only [Act.put, List.setIfInBounds_toArray, List.set_cons_zero, List.set_cons_succ]
          refine take_at (i := 9) (v := ?_) rfl rfl (by kernel_rfl) (by kernel_rfl) (by kernel_rfl) (fun _ _ _ h => h) (Or.inl ⟨by rfl, ?_⟩) (by assumption) ?_
          rotate_left
          · intro w hSw; (try dsimp only at hSw); go_simp; try with_reducible rfl
          try simp only [Act.put, List.setIfInBounds_toArray, List.set_cons_zero, List.set_cons_succ]
          refine wpAnyH_ready (rs := [11]) (by kernel_rfl) (by simp) ?_
          refine AllReadyH.cons rfl (fun K hK => ?_) AllReadyH.nil
          refine step_storeRow rfl rfl 24 _ _ rfl wr.heap.size #[.int .i64 0, .slice none 0 0, .int .i64 0] #[.int .i64 2, .slice (some ⟨b9, 0, none⟩) 6 c9, .int .i64 o3] rfl rfl KV2 rfl (by kernel_rfl) (by simp [Value.oneCell']) ?_
          have HJD : Hid (JdS wr wr.heap.size b9 c9 2 o3 lF (V2.setRow wr.heap.size #[.int .i64 2, .slice (some ⟨b9, 0, none⟩) 6 c9, .int .i64 o3])) := by
            have kk : Blk V2 24 wr.heap.size #[.int .i64 0, .slice none 0 0, .int .i64 0] := KV2
            exact ⟨kk.setRow _, hm9.same (setRow_other _ _ _ _ (fun e => hm9.ne kk e.symm)), below_setRow hVZ hlh _, hlh, hlb⟩
          refine hK.out _ _ (HSS.out _ HJD.out.bel) (fun hHeld => ?_)
          clear hK K
          refine take_at (i := 12) (v := ?_) rfl rfl (by kernel_rfl) (by kernel_rfl) (by kernel_rfl) (fun _ _ _ h => h) (Or.inl ⟨by rfl, ?_⟩) (by assumption) ?_
          rotate_left
          · intro w hSw; (try dsimp only at hSw); go_simp; try with_reducible rfl
          try simp only [Act.put, List.setIfInBounds_toArray, List.set_cons_zero, List.set_cons_succ]
          refine take_at (i := 13) (v := ?_) rfl rfl (by kernel_rfl) (by kernel_rfl) (by kernel_rfl) (fun _ _ _ h => h) (Or.inl ⟨by rfl, ?_⟩) (by assumption) ?_
          rotate_left
          · intro w hSw; (try dsimp only at hSw); go_simp; try with_reducible rfl
          try simp only [Act.put, List.setIfInBounds_toArray, List.set_cons_zero, List.set_cons_succ]
          refine wpAnyH_done (by kernel_rfl) (NoPanic.normal ?_) _
          go_wp2_with fail
          go_meet
          case rel => exact ⟨wr.heap.size, b9, c9, rfl, rfl, rfl, HJD⟩
      case rest =>
        obtain ⟨h9, b9, c9, rfl, rfl, rfl, HJ9⟩ := hcut
        have HB9 : Hid (Below w.heap.size w wc) := below_step HJ.out.bel (Nat.le_refl _) HJ9.out.bel
        clear HSS hS0 CJ CT HJ HJ9
        go_wp2_with fail
        refine (awake20_any wc (HG.out.below HB9.out)).mono ?_
        rintro e w9 ⟨rfl, hb⟩
        have HBX : Hid (Below w.heap.size w w9) := below_step HB9.out (Nat.le_refl _) hb
        clear hb
        go_wp2_with fail
        go_ret
        exact ⟨rfl, HBX.out⟩

end Go.Proofs.YtabhkebkbidfhaaDoor
