/- Layer 18: awake. -/
import Derived.Test.YtaakmcihpdbilaaDoorStI
namespace Go.Proofs.YtaakmcihpdbilaaDoor
open Go.RowKit
set_option maxRecDepth 100000
set_option linter.unusedSimpArgs false
set_option maxRecDepth 100000
variable {StAt : World → (Nat → Prop) → Nat → Nat → StoT → Prop}

theorem addP_none (D : DevT) (t : ByteArray) : addP D zeroT t = (D, zeroT, 2) := by
  unfold addP
  rw [if_pos (.inl rfl)]
theorem open_new (n : Nat) (h : 2 ≤ n) : openP (newB n).1 = zeroT := open_noughts _ (by rw [newB_len]; exact h) (newB_noughts n)

theorem stM_zero (n : Nat) : StM n zeroT := ⟨Int.le_refl _, by decide, Nat.zero_le _, Nat.le_refl _⟩

/-- What awake does, on plain data. -/
theorem awake18_plain : ∃ D1 X1 D2 Z, layS (newB 8) zeroT ⟨#[97]⟩ = (D1, X1, 0) ∧ addP D1 X1 ⟨#[98]⟩ = (D2, (⟨#[97]⟩, [⟨#[98]⟩], 1, Z), 0) ∧ openP D2.1 = (⟨#[97]⟩, [⟨#[98]⟩], 1, Z) ∧ DvO 8 1024 D1 ∧ StM 8 X1 ∧ D2.2.2.1 = false ∧ D2.1.length = 8 := by
  obtain ⟨l1, l2⟩ := lay_on (newB 8) zeroT ⟨#[97]⟩ (newB_on 8) (by decide) (by decide) (by rw [newB_len]; decide)
  obtain ⟨f1, f2⟩ := lay_first (newB 8) ⟨#[97]⟩ (by rw [newB_len]; decide) (by rw [newB_len]; decide) (newB_noughts 8) l1
  have d1 := (newB_dv 8).lay zeroT ⟨#[97]⟩ (by decide)
  have s1 := stM_lay (newB 8) zeroT ⟨#[97]⟩ (by rw [newB_len]; exact stM_zero 8)
  rw [newB_len] at s1
  obtain ⟨⟨D1, X1, e1⟩, hq⟩ : ∃ z, layS (newB 8) zeroT ⟨#[97]⟩ = z := ⟨_, rfl⟩
  rw [hq] at l1 l2 f1 f2 d1 s1
  simp only at l1 l2 f1 f2 d1 s1
  subst l1
  have hX : X1.2.2.1 = 1 := by rw [f1]
  have hB : X1.2.2.2.size = 3 := by rw [f1]; rfl
  obtain ⟨a1, a2⟩ := add_on D1 X1 ⟨#[98]⟩ l2 (by decide) (by rw [hX]; decide) (by rw [hB, d1.len]; decide)
  obtain ⟨b1, b2⟩ := (before_add D1 X1 ⟨#[98]⟩ 1 f2).1 a1
  have d2 := d1.add X1 ⟨#[98]⟩ (by decide)
  obtain ⟨⟨D2, X2, e2⟩, hq2⟩ : ∃ z, addP D1 X1 ⟨#[98]⟩ = z := ⟨_, rfl⟩
  rw [hq2] at a1 a2 b1 b2 d2
  simp only at a1 a2 b1 b2 d2
  subst a1
  have e3 := b2.open
  rw [b1] at e3
  subst b1
  rw [f1] at e3 hq2
  exact ⟨D1, X1, D2, _, hq, by rw [f1]; exact hq2, e3, d1.mono (by decide), s1, a2.1, d2.len⟩

set_option maxHeartbeats 4000000 in
theorem awake18_any (w : World) (C : Sto18 StAt w) : Calls Tryd.prog 9 #[] w fun e w' => e = .returned (.bool true) ∧ Below w.heap.size w w' := by
  obtain ⟨D1, X1, D2, Z, p1, p2, p3, p4, p5, p6, p7⟩ := awake18_plain
  have CN := dnew_any 8 w ⟨by decide, by decide⟩
  go_enter Tryd.func9, Tryd.ntmps9
  go_wp2_with fail
  refine CN.mono ?_
  rintro e w1 ⟨g, b, rfl, hd, hg, hb, hB⟩
  have A1 : Hid (DevB w w1 g b (newB 8)) := ⟨hd, hg, hb, hB⟩
  clear CN hd hg hb hB
  go_wp2_with fail
  refine (C.opens _ g b _ A1.out.2.2.2 A1.out.1 (by rw [newB_len]; decide) (by rw [newB_len]; decide) rfl).mono ?_
  rintro e w2 ⟨gs, S, rfl, hs, hn, hb⟩
  rw [open_new 8 (by decide)] at hs
  have L2 : Hid (LwS StAt w w2 S gs g b (newB 8) zeroT) := LwS.anew A1.out hs hn hb
  clear A1 hs hn hb
  go_wp2_with fail
  refine (C.add _ S gs g b _ _ ⟨#[120]⟩ 8 0 L2.out.d.2.2.2 L2.out.s L2.out.d.1 (newB_dv 8) (stM_zero 8) (by decide) (by decide) (by decide) L2.out.ng L2.out.nb).mono ?_
  rintro e w3 ⟨rfl, hd, hk, hs⟩
  rw [addP_none] at hd hs ⊢
  obtain ⟨S3, hs3, hn3⟩ := hs (show (2 : Int) ≠ 170 by decide)
  have L3 : Hid (LwS StAt w w3 S3 gs g b (newB 8) zeroT) := L2.out.next hd hk hs3 hn3
  clear L2 hd hk hs hs3 hn3
  go_wp2_with fail
  refine (C.lay _ S3 gs g b _ _ ⟨#[97]⟩ 8 0 L3.out.d.2.2.2 L3.out.s L3.out.d.1 (newB_dv 8) (stM_zero 8) (by decide) (by decide) (by decide) L3.out.ng L3.out.nb).mono ?_
  rintro e w4 ⟨rfl, hd, hk, hs⟩
  rw [p1] at hd hs ⊢
  obtain ⟨S4, hs4, hn4⟩ := hs (show (0 : Int) ≠ 170 by decide)
  have L4 : Hid (LwS StAt w w4 S4 gs g b D1 X1) := L3.out.next hd hk hs4 hn4
  clear L3 hd hk hs hs4 hn4
  go_wp2_with fail
  refine (C.add _ S4 gs g b _ _ ⟨#[98]⟩ 8 1024 L4.out.d.2.2.2 L4.out.s L4.out.d.1 p4 p5 (by decide) (by decide) (by decide) L4.out.ng L4.out.nb).mono ?_
  rintro e w5 ⟨rfl, hd, hk, hs⟩
  rw [p2] at hd ⊢
  have A5 : Hid (DevB w w5 g b D2) := L4.out.call hd hk
  clear L4 hd hk hs
  go_wp2_with fail
  refine (C.opens _ g b _ A5.out.2.2.2 A5.out.1 (by rw [p7]; decide) (by rw [p7]; decide) p6).mono ?_
  rintro e w6 ⟨gt, S6, rfl, hs, hn, hb⟩
  rw [p3] at hs
  have L6 : Hid (LwS StAt w w6 S6 gt g b D2 (⟨#[97]⟩, [⟨#[98]⟩], 1, Z)) := LwS.anew A5.out hs hn hb
  clear A5 hs hn hb
  go_wp2_with fail
  refine (C.base _ _ _ _ _ L6.out.s).mono ?_
  rintro e w7 ⟨rfl, hb⟩
  have L7 : Hid (LwS StAt w w7 S6 gt g b D2 (⟨#[97]⟩, [⟨#[98]⟩], 1, Z)) := L6.out.on C hb
  clear L6 hb
  go_wp2_with fail
  refine (C.behind _ _ _ _ _ L7.out.s).mono ?_
  rintro e w8 ⟨a, c, rfl, hst, _, hb⟩
  have L8 : Hid (LwS StAt w w8 S6 gt g b D2 (⟨#[97]⟩, [⟨#[98]⟩], 1, Z)) := L7.out.on C hb
  have T8 : Hid (StrsAt w8 a 1 [⟨#[98]⟩]) := hst
  clear L7 hb hst
  have T9 : StrsAt (w8.alloc (.cells #[.string ⟨#[98]⟩] 9)) (some ⟨w8.heap.size, 0, none⟩) 1 [⟨#[98]⟩] := ⟨rfl, .inr ⟨w8.heap.size, 0, rfl, fun i hi => by
    obtain rfl : i = 0 := by omega
    exact (Blk.new w8 9 #[.string ⟨#[98]⟩]).cell 0⟩⟩
  have CS := rsame18_any [⟨#[98]⟩] [⟨#[98]⟩] a (some ⟨w8.heap.size, 0, none⟩) 1 1 c 1 (w8.alloc (.cells #[.string ⟨#[98]⟩] 9)) (by decide) (by decide) (T8.out.below (below_new w8 _)) T9
  rw [decide_eq_true rfl] at CS
  have L9 : Hid (LwS StAt w (w8.alloc (.cells #[.string ⟨#[98]⟩] 9)) S6 gt g b D2 (⟨#[97]⟩, [⟨#[98]⟩], 1, Z)) := L8.out.on C (below_new w8 _)
  clear L8 T9 T8
  go_wp2_with fail
  refine CS.mono ?_
  rintro e w9 ⟨rfl, hb9⟩
  have L10 : Hid (LwS StAt w w9 S6 gt g b D2 (⟨#[97]⟩, [⟨#[98]⟩], 1, Z)) := L9.out.on C hb9
  clear L9 CS hb9
  go_wp2_with fail
  refine (C.turn _ _ _ _ _ L10.out.s).mono ?_
  rintro e w10 ⟨rfl, hb10⟩
  have hB := below_step L10.out.d.2.2.2 (Nat.le_refl _) hb10
  clear L10 hb10
  go_wp2
  go_ret
  exact ⟨rfl, hB⟩

end Go.Proofs.YtaakmcihpdbilaaDoor
