/- GroupRises: the walk. (mkgpri.py) -/
import Derived.Test.YtkmdajenbidaaaaDoorGpRiP
import Derived.Test.YtkmdajenbidaaaaDoorGpW
import Derived.Test.YtkmdajenbidaaaaDoorRWiJ
import Derived.Test.YtkmdajenbidaaaaDoorOpenRs
import Derived.Deep.DeepCutAuto
namespace Go.Proofs.YtkmdajenbidaaaaDoor
open Go.RowKit
set_option maxRecDepth 100000
set_option linter.unusedSimpArgs false
set_option linter.unusedVariables false
set_option maxRecDepth 100000

theorem fr_cellR {w W : World} {p : Addr} {u : Value} (h : Below w.heap.size w W) (hc : w.cell? p = some u) : W.cell? p = some u := by
  rw [h.cell (World.block_lt_of_cell? w _ hc)]; exact hc
theorem lightR_exR (H : ByteArray) (o : OpT) (l : List (Int × ByteArray)) : ∃ D : Bool, D = true ↔ LightR H o l :=
  ⟨@decide (LightR H o l) (Classical.propDecidable _), by simp⟩

/-- What came of judging: the answered group is in a block of its own. -/
def RjP (w : World) (G : GrpT) (R : RecT) (h8 : Nat) (cn : Bool) (er : Int) (W : World) : Prop :=
  Below w.heap.size w W ∧ w.heap.size ≤ h8 ∧ ((er ≠ 0 ∧ cn = false ∧ Blk W 26 h8 #[.int .i64 0, .slice none 0 0, .int .i64 0]) ∨ (er = 0 ∧ ∃ G' b' c', RiS G R G' cn ∧ JdS w h8 b' c' G'.1 G'.2.2 G'.2.1 W))

/-- What Judge answered is stored into the block h8. -/
theorem rj_store {w V V' : World} {Er : Int} {G : GrpT} {R : RecT} {GG : GrpT × Bool} {e : Ending} {h8 : Nat} (h : JgPost V Er GG e V') (hri : Er = 0 → RiS G R GG.1 GG.2) (hb : Below w.heap.size w V) (h0 : w.heap.size ≤ h8) :
    ∃ cs cn, e = .returned (.tuple #[.agg cs, .bool cn, .int .i64 Er]) ∧ cs.size = 3 ∧ cs.all (·.oneCell') = true ∧ Below V.heap.size V V' ∧ ∀ W, Below V'.heap.size V' W → Blk W 26 h8 #[.int .i64 0, .slice none 0 0, .int .i64 0] → RjP w G R h8 cn Er (W.setRow h8 cs) := by
  obtain ⟨⟨h1, rfl⟩ | ⟨h1, b', c', hb', rfl, hm⟩, hbl⟩ := h
  · exact ⟨#[.int .i64 0, .slice none 0 0, .int .i64 0], false, rfl, rfl, by simp [Value.oneCell'], hbl, fun W hW hB => ⟨below_setRow (below_step (below_step hb (Nat.le_refl _) hbl) (Nat.le_refl _) hW) h0 _, h0, .inl ⟨h1, rfl, hB.setRow _⟩⟩⟩
  · subst h1
    refine ⟨_, _, rfl, rfl, by simp [Value.oneCell'], hbl, fun W hW hB => ?_⟩
    have hbe := below_setRow (below_step (below_step hb (Nat.le_refl _) hbl) (Nat.le_refl _) hW) h0 #[.int .i64 GG.1.1, .slice (some ⟨b', 0, none⟩) 6 c', .int .i64 GG.1.2.2]
    have hmW := hm.on hW
    exact ⟨hbe, h0, .inr ⟨rfl, GG.1, b', c', hri rfl, hB.setRow _, hmW.same (setRow_other _ _ _ _ (fun e => hmW.ne hB e.symm)), hbe, h0, Nat.le_trans hb.size hb'⟩⟩

theorem mm_cell {w : World} {b c : Nat} {l : List MemT} (h : RowM w b c l) (j : Nat) (hj : j < 6) : w.cell? ⟨b, j * 3, none⟩ = some (.int .i64 (mmL l j).1) ∧ w.cell? ⟨b, j * 3 + 1, none⟩ = some (.int .i64 (mmL l j).2.1) ∧ w.cell? ⟨b, j * 3 + 2, none⟩ = some (.bool (mmL l j).2.2) := by
  obtain ⟨b', off, e, hc⟩ := h.at.2.resolve_left (by decide)
  cases e
  have := hc j hj
  simpa using this

theorem jg_below {V V' : World} {E : Int} {G : GrpT × Bool} {e : Ending} (h : JgPost V E G e V') : Below V.heap.size V V' := h.2


set_option maxHeartbeats 40000000 in
theorem groupRises_law (a0 : Option Addr) (len0 cap0 : Nat) (a1 : Option Addr) (len1 cap1 : Nat) (w : World) (hG : Glob8 w) (z0 : ∃ L, RcsAt w a0 len0 L ∧ len0 ≤ maxLen) (z1 : ∃ l, IntsAt w .i64 a1 len1 l ∧ len1 ≤ maxLen ∧ ∀ q ∈ l, (Lit.int .i64 q).wf = true) :
    Calls Tryd.prog 3 #[.slice a0 len0 cap0, .slice a1 len1 cap1] w fun e w' => e = .returned (.bool true) ∧ Below w.heap.size w w' := by
  obtain ⟨M, hM⟩ := mayM_ex20
  have HM : Hid (∀ o, M o = true ↔ MayO o) := hM
  have HG : Hid (Glob8 w) := hG
  obtain ⟨L, hL, hl0⟩ := z0
  obtain ⟨le, hle, hl1, _⟩ := z1
  have hl0' : len0 ≤ 9223372036854775807 := by unfold maxLen at hl0; omega
  have hl1' : len1 ≤ 9223372036854775807 := by unfold maxLen at hl1; omega
  have HL : Hid (RcsAt w a0 len0 L) := hL
  have HE : Hid (IntsAt w .i64 a1 len1 le) := hle
  clear hM hG hL hle hl0 hl1
  go_enter Tryd.func3, Tryd.ntmps3
  go_wp2_with fail
  refine (new20_any w).mono ?_
  rintro e w1 ⟨b0, c0, rfl, hb0, hm0, hb⟩
  have HJ0 : Hid (JdS w w1.heap.size b0 c0 1 0 (newM 6) (w1.alloc (.cells #[.int .i64 1, .slice (some ⟨b0, 0, none⟩) 6 c0, .int .i64 0] 26))) :=
    ⟨Blk.new _ _ _, hm0.on (below_new _ _), below_step hb (Nat.le_refl _) (below_new _ _), hb.size, hb0⟩
  clear hb0 hm0 hb
  go_wp2_with fail
  obtain ⟨W1, hW1⟩ : ∃ W1, w1.alloc (.cells #[.int .i64 1, .slice (some ⟨b0, 0, none⟩) 6 c0, .int .i64 0] 26) = W1 := ⟨_, rfl⟩
  obtain ⟨h5, hh5⟩ : ∃ h5, w1.heap.size = h5 := ⟨_, rfl⟩
  rw [hW1, hh5] at HJ0
  try rw [hW1]
  try rw [hh5]
  have HX0 : Hid (∃ b c E O l, SixM l ∧ JdS w h5 b c E O l W1) := ⟨_, _, _, _, _, ⟨rfl, by intro i hi; rcases (by omega : i = 0 ∨ i = 1 ∨ i = 2 ∨ i = 3 ∨ i = 4 ∨ i = 5) with rfl | rfl | rfl | rfl | rfl | rfl <;> rfl⟩, HJ0.out⟩
  clear hW1 hh5 HJ0
  go_loopw [6] (fun iv wr => ∃ k : Nat, k ≤ len0 ∧ k ≤ 30 ∧ iv = .int .i64 k ∧ Hid (∃ b c E O l, SixM l ∧ JdS w h5 b c E O l wr)) (fun iv _ => 31 - (intOf iv).toNat)
  case atStart => exact ⟨0, Nat.zero_le _, by omega, rfl, HX0⟩
  case round =>
    clear HX0
    obtain ⟨k, hk, hk30, rfl, HX⟩ := hrel
    obtain ⟨b, c, E, O, l, hs, hj⟩ := HX.out
    have HSX : Hid (SixM l) := hs
    have HJ : Hid (JdS w h5 b c E O l wr) := hj
    have HK3 : Hid (k ≤ 30) := hk30
    have HWB : Hid (Below w.heap.size w wr) := hj.bel
    clear hs hj HX
    by_cases hlt : k < len0
    · have b0 : (k : Int) < (len0 : Int) := by omega
      by_cases hlt2 : k < 30
      · have b1 : (k : Int) < 30 := by omega
        obtain ⟨lb, off, rfl, hcl⟩ := (HL.out.below HWB.out).resolve_left (by omega)
        obtain ⟨h16, hrx⟩ := hcl k hlt
        obtain ⟨⟨R, ra, rc⟩, hx⟩ : ∃ x, rcL L k = x := ⟨_, rfl⟩
        rw [hx] at h16 hrx
        clear hcl hx
        simp only [recA] at h16
        have hmx : (maxLen : Nat) ≤ 9223372036854775807 := by unfold maxLen; omega
        obtain ⟨D, hD⟩ := lightR_exR R.2.2.2.2.1 R.2.2.2.2.2.1 R.2.2.2.2.2.2.2
        have CL' := fun W (hW : Below wr.heap.size wr W) => rlightR_any R ra rc W D hD (hrx.at'.below hW) hrx.ok.cap (Nat.le_trans hrx.c hmx) (fun i => Nat.le_trans (hrx.z i) hmx) (Nat.le_trans hrx.h hmx) hrx.o.2.1 hrx.o.2.2
        have HRI : Hid (D = true → ∀ W, Below wr.heap.size wr W → RcIn W R ra) := fun hd W hW => by
          have hl := hD.1 hd
          exact ⟨Nat.le_trans hl.2.1.1 (by decide), Nat.le_trans hrx.o.2.2 hmx, hrx.at'.below hW, fun i => Nat.le_trans (hrx.z i) hmx, Nat.le_trans hrx.n hmx, Nat.le_trans hrx.h hmx⟩
        have HC16 : Hid (∀ W, Below wr.heap.size wr W → W.cell? ⟨lb, off + k * 16, none⟩ = some (.int .i64 R.1) ∧ W.cell? ⟨lb, off + k * 16 + 1, none⟩ = some (.int .i64 R.2.1) ∧ W.cell? ⟨lb, off + k * 16 + 2, none⟩ = some (.int .i64 R.2.2.1) ∧ W.cell? ⟨lb, off + k * 16 + 3, none⟩ = some (.int .i64 R.2.2.2.1) ∧ W.cell? ⟨lb, off + k * 16 + 4, none⟩ = some (.string R.2.2.2.2.1) ∧ W.cell? ⟨lb, off + k * 16 + 5, none⟩ = some (.int .i64 R.2.2.2.2.2.1.1) ∧ W.cell? ⟨lb, off + k * 16 + 6, none⟩ = some (.int .i64 R.2.2.2.2.2.1.2.1.1) ∧ W.cell? ⟨lb, off + k * 16 + 7, none⟩ = some (.int .i64 R.2.2.2.2.2.1.2.1.2) ∧ W.cell? ⟨lb, off + k * 16 + 8, none⟩ = some (.int .i64 R.2.2.2.2.2.1.2.2.1.1) ∧ W.cell? ⟨lb, off + k * 16 + 9, none⟩ = some (.int .i64 R.2.2.2.2.2.1.2.2.1.2) ∧ W.cell? ⟨lb, off + k * 16 + 10, none⟩ = some (.int .i64 R.2.2.2.2.2.1.2.2.2.1.1) ∧ W.cell? ⟨lb, off + k * 16 + 11, none⟩ = some (.int .i64 R.2.2.2.2.2.1.2.2.2.1.2) ∧ W.cell? ⟨lb, off + k * 16 + 12, none⟩ = some (.string R.2.2.2.2.2.1.2.2.2.2.1) ∧ W.cell? ⟨lb, off + k * 16 + 13, none⟩ = some (.string R.2.2.2.2.2.1.2.2.2.2.2) ∧ W.cell? ⟨lb, off + k * 16 + 14, none⟩ = some (.int .i64 R.2.2.2.2.2.2.1) ∧ W.cell? ⟨lb, off + k * 16 + 15, none⟩ = some (.slice ra R.2.2.2.2.2.2.2.length rc)) := fun W hW => ⟨fr_cellR hW (h16 0 (by decide)), fr_cellR hW (h16 1 (by decide)), fr_cellR hW (h16 2 (by decide)), fr_cellR hW (h16 3 (by decide)), fr_cellR hW (h16 4 (by decide)), fr_cellR hW (h16 5 (by decide)), fr_cellR hW (h16 6 (by decide)), fr_cellR hW (h16 7 (by decide)), fr_cellR hW (h16 8 (by decide)), fr_cellR hW (h16 9 (by decide)), fr_cellR hW (h16 10 (by decide)), fr_cellR hW (h16 11 (by decide)), fr_cellR hW (h16 12 (by decide)), fr_cellR hW (h16 13 (by decide)), fr_cellR hW (h16 14 (by decide)), fr_cellR hW (h16 15 (by decide))⟩
        simp only [recA] at CL'
        have CL : Hid (∀ W, Below wr.heap.size wr W → _) := CL'
        obtain ⟨r0, r1, r2, r3, r4, r5, r6, r7, r8, r9, r10, r11, r12, r13, r14, r15⟩ := HC16.out wr (Below.refl _ _)
        clear CL' h16 hrx hD
        go_wp2_with fail
        refine (CL.out wr (Below.refl _ _)).mono ?_
        rintro e W2 ⟨rfl, hb⟩
        have HB2 : Hid (Below wr.heap.size wr W2) := hb
        have HJ2 : Hid (JdS w h5 b c E O l W2) := HJ.out.on hb
        clear hb CL r0 r1 r2 r3 r4 r5 r6 r7 r8 r9 r10 r11 r12 r13 r14 r15 HJ
        cases D with
        | false =>
          have HBW : Hid (Below w.heap.size w W2) := HJ2.out.bel
          go_wp2_with fail
          refine (awake20_any _ (HG.out.below HBW.out)).mono ?_
          rintro e w9 ⟨rfl, hb9⟩
          have HF : Hid (Below w.heap.size w w9) := below_step HBW.out (Nat.le_refl _) hb9
          clear hb9
          go_wp2_with fail
          go_ret
          exact ⟨rfl, HF.out⟩
        | true =>
          have HRJ : Hid (∀ W, Below wr.heap.size wr W → RcIn W R ra) := HRI.out rfl
          have c0 : W2.cell? ⟨h5, 0, none⟩ = some (.int .i64 E) := HJ2.out.gg.cell 0
          clear HRI
          go_upto_if 39 with fail
          go_cut [7] (fun ev wx => ∃ ep : Int, ev = .int .i64 ep ∧ Hid (Below W2.heap.size W2 wx))
          case first =>
            by_cases hk1 : k < len1
            · have b2 : (k : Int) < (len1 : Int) := by omega
              obtain ⟨eb, eo, rfl, hec⟩ := (HE.out.below HJ2.out.bel).2.resolve_left (by omega)
              have e0 := hec k hk1
              go_wp2_with fail
              go_meet
              case rel => exact ⟨_, rfl, Below.refl _ _⟩
            · have b2 : ¬ ((k : Int) < (len1 : Int)) := by omega
              go_wp2_with fail
              go_meet
              case rel => exact ⟨_, rfl, Below.refl _ _⟩
          case rest => as_aux_lemma =>
            obtain ⟨ep, rfl, HB3⟩ := hcut
            obtain ⟨W4, hW4⟩ : ∃ W4, wc = W4 := ⟨_, rfl⟩
            rw [hW4] at HB3 ⊢
            have HJ4 : Hid (JdS w h5 b c E O l W4) := HJ2.out.on HB3.out
            have HB4 : Hid (Below wr.heap.size wr W4) := below_step HB2.out (Nat.le_refl _) HB3.out
            clear hW4 HB3 HB2 HJ2 c0
            have CJ : Hid (∀ W, Below W4.heap.size W4 W → Calls Tryd.prog 7 #[.agg #[.int .i64 E, .slice (some ⟨b, 0, none⟩) 6 c, .int .i64 O], .int .i64 ep, .agg #[.int .i64 R.1, .int .i64 R.2.1, .int .i64 R.2.2.1, .int .i64 R.2.2.2.1, .string R.2.2.2.2.1, .int .i64 R.2.2.2.2.2.1.1, .int .i64 R.2.2.2.2.2.1.2.1.1, .int .i64 R.2.2.2.2.2.1.2.1.2, .int .i64 R.2.2.2.2.2.1.2.2.1.1, .int .i64 R.2.2.2.2.2.1.2.2.1.2, .int .i64 R.2.2.2.2.2.1.2.2.2.1.1, .int .i64 R.2.2.2.2.2.1.2.2.2.1.2, .string R.2.2.2.2.2.1.2.2.2.2.1, .string R.2.2.2.2.2.1.2.2.2.2.2, .int .i64 R.2.2.2.2.2.2.1, .slice ra R.2.2.2.2.2.2.2.length rc]] W fun e w' => JgPost W (judgeE M (E, l, O) ep R) (judgeG (E, l, O) ep R) e w') := fun W hW => by
              have hm := (HJ4.out.on hW).mm
              have hh := judge20_any M HM.out (E, l, O) (some ⟨b, 0, none⟩) c ep R ra rc W (HG.out.below (below_step HJ4.out.bel (Nat.le_refl _) hW)) (HRJ.out W (below_step HB4.out (Nat.le_refl _) hW)) (by show l.length ≤ _; rw [hm.1]; decide) (by show MmsAt W _ l.length l; rw [hm.1]; exact hm.at)
              unfold grpA recA at hh
              simp only [hm.1] at hh
              exact hh
            have HS10 : Hid (∀ W, Below W4.heap.size W4 W → (W.cell? ⟨h5, 0, none⟩ = some (.int .i64 E) ∧ W.cell? ⟨h5, 1, none⟩ = some (.slice (some ⟨b, 0, none⟩) 6 c) ∧ W.cell? ⟨h5, 2, none⟩ = some (.int .i64 O)) ∧ (W.cell? ⟨lb, off + k * 16, none⟩ = some (.int .i64 R.1) ∧ W.cell? ⟨lb, off + k * 16 + 1, none⟩ = some (.int .i64 R.2.1) ∧ W.cell? ⟨lb, off + k * 16 + 2, none⟩ = some (.int .i64 R.2.2.1) ∧ W.cell? ⟨lb, off + k * 16 + 3, none⟩ = some (.int .i64 R.2.2.2.1) ∧ W.cell? ⟨lb, off + k * 16 + 4, none⟩ = some (.string R.2.2.2.2.1) ∧ W.cell? ⟨lb, off + k * 16 + 5, none⟩ = some (.int .i64 R.2.2.2.2.2.1.1) ∧ W.cell? ⟨lb, off + k * 16 + 6, none⟩ = some (.int .i64 R.2.2.2.2.2.1.2.1.1) ∧ W.cell? ⟨lb, off + k * 16 + 7, none⟩ = some (.int .i64 R.2.2.2.2.2.1.2.1.2) ∧ W.cell? ⟨lb, off + k * 16 + 8, none⟩ = some (.int .i64 R.2.2.2.2.2.1.2.2.1.1) ∧ W.cell? ⟨lb, off + k * 16 + 9, none⟩ = some (.int .i64 R.2.2.2.2.2.1.2.2.1.2) ∧ W.cell? ⟨lb, off + k * 16 + 10, none⟩ = some (.int .i64 R.2.2.2.2.2.1.2.2.2.1.1) ∧ W.cell? ⟨lb, off + k * 16 + 11, none⟩ = some (.int .i64 R.2.2.2.2.2.1.2.2.2.1.2) ∧ W.cell? ⟨lb, off + k * 16 + 12, none⟩ = some (.string R.2.2.2.2.2.1.2.2.2.2.1) ∧ W.cell? ⟨lb, off + k * 16 + 13, none⟩ = some (.string R.2.2.2.2.2.1.2.2.2.2.2) ∧ W.cell? ⟨lb, off + k * 16 + 14, none⟩ = some (.int .i64 R.2.2.2.2.2.2.1) ∧ W.cell? ⟨lb, off + k * 16 + 15, none⟩ = some (.slice ra R.2.2.2.2.2.2.2.length rc))) := fun W hW => ⟨⟨(HJ4.out.on hW).gg.cell 0, (HJ4.out.on hW).gg.cell 1, (HJ4.out.on hW).gg.cell 2⟩, HC16.out W (below_step HB4.out (Nat.le_refl _) hW)⟩
            have HRIS : Hid (judgeE M (E, l, O) ep R = 0 → RiS (E, l, O) R (judgeG (E, l, O) ep R).1 (judgeG (E, l, O) ep R).2) := ri_ok M (E, l, O) ep R
            go_upto_region 10 with fail
            go_cut [8, 9, 10] (fun u8 u9 u10 wx => ∃ (h8 : Nat) (cn : Bool) (er : Int), u8 = .pointer (some ⟨h8, 0, none⟩) ∧ u9 = .bool cn ∧ u10 = .int .i64 er ∧ Hid (RjP W4 (E, l, O) R h8 cn er wx))
            case first => as_aux_lemma =>
              have hV0 : Below W4.heap.size W4 W4.drew := (Below.refl _ _).drew
              have hS0 := HS10.out _ hV0
              refine wp_region_noPanic ?_
              refine wp_region_held_drew (S := fun W => (W.cell? ⟨h5, 0, none⟩ = some (.int .i64 E) ∧ W.cell? ⟨h5, 1, none⟩ = some (.slice (some ⟨b, 0, none⟩) 6 c) ∧ W.cell? ⟨h5, 2, none⟩ = some (.int .i64 O)) ∧ (W.cell? ⟨lb, off + k * 16, none⟩ = some (.int .i64 R.1) ∧ W.cell? ⟨lb, off + k * 16 + 1, none⟩ = some (.int .i64 R.2.1) ∧ W.cell? ⟨lb, off + k * 16 + 2, none⟩ = some (.int .i64 R.2.2.1) ∧ W.cell? ⟨lb, off + k * 16 + 3, none⟩ = some (.int .i64 R.2.2.2.1) ∧ W.cell? ⟨lb, off + k * 16 + 4, none⟩ = some (.string R.2.2.2.2.1) ∧ W.cell? ⟨lb, off + k * 16 + 5, none⟩ = some (.int .i64 R.2.2.2.2.2.1.1) ∧ W.cell? ⟨lb, off + k * 16 + 6, none⟩ = some (.int .i64 R.2.2.2.2.2.1.2.1.1) ∧ W.cell? ⟨lb, off + k * 16 + 7, none⟩ = some (.int .i64 R.2.2.2.2.2.1.2.1.2) ∧ W.cell? ⟨lb, off + k * 16 + 8, none⟩ = some (.int .i64 R.2.2.2.2.2.1.2.2.1.1) ∧ W.cell? ⟨lb, off + k * 16 + 9, none⟩ = some (.int .i64 R.2.2.2.2.2.1.2.2.1.2) ∧ W.cell? ⟨lb, off + k * 16 + 10, none⟩ = some (.int .i64 R.2.2.2.2.2.1.2.2.2.1.1) ∧ W.cell? ⟨lb, off + k * 16 + 11, none⟩ = some (.int .i64 R.2.2.2.2.2.1.2.2.2.1.2) ∧ W.cell? ⟨lb, off + k * 16 + 12, none⟩ = some (.string R.2.2.2.2.2.1.2.2.2.2.1) ∧ W.cell? ⟨lb, off + k * 16 + 13, none⟩ = some (.string R.2.2.2.2.2.1.2.2.2.2.2) ∧ W.cell? ⟨lb, off + k * 16 + 14, none⟩ = some (.int .i64 R.2.2.2.2.2.2.1) ∧ W.cell? ⟨lb, off + k * 16 + 15, none⟩ = some (.slice ra R.2.2.2.2.2.2.2.length rc))) (by kernel_rfl) (by first | exact trivial | assumption | exact ⟨by assumption, by assumption⟩) (fun hHeld => ?_)
              refine take_at (i := 0) (v := ?_) rfl rfl (by kernel_rfl) (by kernel_rfl) (by kernel_rfl) (fun _ _ _ h => h) (Or.inl ⟨by rfl, ?_⟩) (by assumption) ?_
              rotate_left
              · intro w hSw; (try dsimp only at hSw); go_simp; try with_reducible rfl
              try simp only [Act.put, List.setIfInBounds_toArray, List.set_cons_zero, List.set_cons_succ]
              refine take_at (i := 1) (v := ?_) rfl rfl (by kernel_rfl) (by kernel_rfl) (by kernel_rfl) (fun _ _ _ h => h) (Or.inl ⟨by rfl, ?_⟩) (by assumption) ?_
              rotate_left
              · intro w hSw; (try dsimp only at hSw); go_simp; try with_reducible rfl
              try simp only [Act.put, List.setIfInBounds_toArray, List.set_cons_zero, List.set_cons_succ]
              refine take_at (i := 2) (v := ?_) rfl rfl (by kernel_rfl) (by kernel_rfl) (by kernel_rfl) (fun _ _ _ h => h) (Or.inl ⟨by rfl, ?_⟩) (by assumption) ?_
              rotate_left
              · intro w hSw; (try dsimp only at hSw); go_simp; try with_reducible rfl
              try simp only [Act.put, List.setIfInBounds_toArray, List.set_cons_zero, List.set_cons_succ]
              refine take_at (i := 3) (v := ?_) rfl rfl (by kernel_rfl) (by kernel_rfl) (by kernel_rfl) (fun _ _ _ h => h) (Or.inl ⟨by rfl, ?_⟩) (by assumption) ?_
              rotate_left
              · intro w hSw; (try dsimp only at hSw); go_simp; try with_reducible rfl
              try simp only [Act.put, List.setIfInBounds_toArray, List.set_cons_zero, List.set_cons_succ]
              refine take_at (i := 4) (v := ?_) rfl rfl (by kernel_rfl) (by kernel_rfl) (by kernel_rfl) (fun _ _ _ h => h) (Or.inl ⟨by rfl, ?_⟩) (by assumption) ?_
              rotate_left
              · intro w hSw; (try dsimp only at hSw); go_simp; try with_reducible rfl
              try simp only [Act.put, List.setIfInBounds_toArray, List.set_cons_zero, List.set_cons_succ]
              refine take_at (i := 5) (v := ?_) rfl rfl (by kernel_rfl) (by kernel_rfl) (by kernel_rfl) (fun _ _ _ h => h) (Or.inl ⟨by rfl, ?_⟩) (by assumption) ?_
              rotate_left
              · intro w hSw; (try dsimp only at hSw); go_simp; try with_reducible rfl
              try simp only [Act.put, List.setIfInBounds_toArray, List.set_cons_zero, List.set_cons_succ]
              clear hS0
              refine wpAnyH_ready (rs := [6, 11]) (by kernel_rfl) (by simp) ?_
              refine AllReadyH.cons rfl (fun K hK => ?_) (AllReadyH.cons rfl (fun K hK => ?_) AllReadyH.nil)
              · go_simp
                refine (CJ.out _ hV0).mono ?_
                intro e V2 hJ
                obtain ⟨cs, cn, rfl, hcz, hc1, hbJ, hst⟩ := rj_store (h8 := V2.heap.size) hJ HRIS.out hV0 (Nat.le_trans hV0.size (jg_below hJ).size)
                have hV2 : Below W4.heap.size W4 V2 := below_step hV0 (Nat.le_refl _) hbJ
                have HST : Hid (∀ W, _ → _ → _) := hst
                clear hJ hst hbJ
                refine hK.out _ _ (HS10.out _ hV2) (fun hHeld => ?_)
                clear hK K
                refine take_at (i := 7) (v := ?_) rfl rfl (by kernel_rfl) (by kernel_rfl) (by kernel_rfl) (fun _ _ _ h => h) (Or.inl ⟨by rfl, ?_⟩) (by assumption) ?_
                rotate_left
                · intro w hSw; (try dsimp only at hSw); go_simp; try with_reducible rfl
                try simp only [Act.put, List.setIfInBounds_toArray, List.set_cons_zero, List.set_cons_succ]
                refine take_at (i := 8) (v := ?_) rfl rfl (by kernel_rfl) (by kernel_rfl) (by kernel_rfl) (fun _ _ _ h => h) (Or.inl ⟨by rfl, ?_⟩) (by assumption) ?_
                rotate_left
                · intro w hSw; (try dsimp only at hSw); go_simp; try with_reducible rfl
                try simp only [Act.put, List.setIfInBounds_toArray, List.set_cons_zero, List.set_cons_succ]
                refine take_at (i := 9) (v := ?_) rfl rfl (by kernel_rfl) (by kernel_rfl) (by kernel_rfl) (fun _ _ _ h => h) (Or.inl ⟨by rfl, ?_⟩) (by assumption) ?_
                rotate_left
                · intro w hSw; (try dsimp only at hSw); go_simp; try with_reducible rfl
                try simp only [Act.put, List.setIfInBounds_toArray, List.set_cons_zero, List.set_cons_succ]
                refine take_at (i := 10) (v := ?_) rfl rfl (by kernel_rfl) (by kernel_rfl) (by kernel_rfl) (fun _ _ _ h => h) (Or.inl ⟨by rfl, ?_⟩) (by assumption) ?_
                rotate_left
                · intro w hSw; (try dsimp only at hSw); go_simp; try with_reducible rfl
                try simp only [Act.put, List.setIfInBounds_toArray, List.set_cons_zero, List.set_cons_succ]
                refine wpAnyH_ready (rs := [11]) (by kernel_rfl) (by simp) ?_
                refine AllReadyH.cons rfl (fun K hK => ?_) AllReadyH.nil
                go_simp
                have hVZ : Below W4.heap.size W4 (V2.alloc (.cells #[.int .i64 0, .slice none 0 0, .int .i64 0] 26)) := hV2.alloc hV2.size _
                refine hK.out _ _ (HS10.out _ hVZ) (fun hHeld => ?_)
                clear hK K
                refine wpAnyH_ready (rs := [12]) (by kernel_rfl) (by simp) ?_
                refine AllReadyH.cons rfl (fun K hK => ?_) AllReadyH.nil
                refine step_storeRow rfl rfl 26 _ _ rfl V2.heap.size #[.int .i64 0, .slice none 0 0, .int .i64 0] cs (by with_unfolding_all rfl) (by with_unfolding_all rfl) (Blk.new V2 _ _) hcz.symm (by first | (rw [hcz]; kernel_rfl) | kernel_rfl) hc1 ?_
                have HR : Hid (RjP W4 (E, l, O) R V2.heap.size cn _ ((V2.alloc (.cells #[.int .i64 0, .slice none 0 0, .int .i64 0] 26)).setRow V2.heap.size cs)) := HST.out _ (below_new _ _) (Blk.new V2 _ _)
                refine hK.out _ _ (HS10.out _ HR.out.1) (fun hHeld => ?_)
                clear hK K
                refine take_at (i := 13) (v := ?_) rfl rfl (by kernel_rfl) (by kernel_rfl) (by kernel_rfl) (fun _ _ _ h => h) (Or.inl ⟨by rfl, ?_⟩) (by assumption) ?_
                rotate_left
                · intro w hSw; (try dsimp only at hSw); go_simp; try with_reducible rfl
                try simp only [Act.put, List.setIfInBounds_toArray, List.set_cons_zero, List.set_cons_succ]
                refine take_at (i := 14) (v := ?_) rfl rfl (by kernel_rfl) (by kernel_rfl) (by kernel_rfl) (fun _ _ _ h => h) (Or.inl ⟨by rfl, ?_⟩) (by assumption) ?_
                rotate_left
                · intro w hSw; (try dsimp only at hSw); go_simp; try with_reducible rfl
                try simp only [Act.put, List.setIfInBounds_toArray, List.set_cons_zero, List.set_cons_succ]
                refine wpAnyH_done (by kernel_rfl) (NoPanic.normal ?_) _
                go_wp2_with fail
                go_meet
                case rel => exact ⟨V2.heap.size, cn, _, rfl, rfl, rfl, HR⟩
              · go_simp
                have hVA : Below W4.heap.size W4 (W4.drew.alloc (.cells #[.int .i64 0, .slice none 0 0, .int .i64 0] 26)) := hV0.alloc (Nat.le_refl _) _
                have KV0 : Blk (W4.drew.alloc (.cells #[.int .i64 0, .slice none 0 0, .int .i64 0] 26)) 26 W4.heap.size #[.int .i64 0, .slice none 0 0, .int .i64 0] := Blk.new' _ _ _ _ rfl
                refine hK.out _ _ (HS10.out _ hVA) (fun hHeld => ?_)
                clear hK K
                refine wpAnyH_ready (rs := [6]) (by kernel_rfl) (by simp) ?_
                refine AllReadyH.cons rfl (fun K hK => ?_) AllReadyH.nil
                go_simp
                refine (CJ.out _ hVA).mono ?_
                intro e V2 hJ
                obtain ⟨cs, cn, rfl, hcz, hc1, hbJ, hst⟩ := rj_store (h8 := W4.heap.size) hJ HRIS.out hVA (Nat.le_refl _)
                have hV2 : Below W4.heap.size W4 V2 := below_step hVA (Nat.le_refl _) hbJ
                have KV2 := KV0.on hbJ
                have HST : Hid (∀ W, _ → _ → _) := hst
                clear hJ hst hbJ
                refine hK.out _ _ (HS10.out _ hV2) (fun hHeld => ?_)
                clear hK K
                refine take_at (i := 7) (v := ?_) rfl rfl (by kernel_rfl) (by kernel_rfl) (by kernel_rfl) (fun _ _ _ h => h) (Or.inl ⟨by rfl, ?_⟩) (by assumption) ?_
                rotate_left
                · intro w hSw; (try dsimp only at hSw); go_simp; try with_reducible rfl
                try simp only [Act.put, List.setIfInBounds_toArray, List.set_cons_zero, List.set_cons_succ]
                refine take_at (i := 8) (v := ?_) rfl rfl (by kernel_rfl) (by kernel_rfl) (by kernel_rfl) (fun _ _ _ h => h) (Or.inl ⟨by rfl, ?_⟩) (by assumption) ?_
                rotate_left
                · intro w hSw; (try dsimp only at hSw); go_simp; try with_reducible rfl
                try simp only [Act.put, List.setIfInBounds_toArray, List.set_cons_zero, List.set_cons_succ]
                refine take_at (i := 9) (v := ?_) rfl rfl (by kernel_rfl) (by kernel_rfl) (by kernel_rfl) (fun _ _ _ h => h) (Or.inl ⟨by rfl, ?_⟩) (by assumption) ?_
                rotate_left
                · intro w hSw; (try dsimp only at hSw); go_simp; try with_reducible rfl
                try simp only [Act.put, List.setIfInBounds_toArray, List.set_cons_zero, List.set_cons_succ]
                refine take_at (i := 10) (v := ?_) rfl rfl (by kernel_rfl) (by kernel_rfl) (by kernel_rfl) (fun _ _ _ h => h) (Or.inl ⟨by rfl, ?_⟩) (by assumption) ?_
                rotate_left
                · intro w hSw; (try dsimp only at hSw); go_simp; try with_reducible rfl
                try simp only [Act.put, List.setIfInBounds_toArray, List.set_cons_zero, List.set_cons_succ]
                refine wpAnyH_ready (rs := [12]) (by kernel_rfl) (by simp) ?_
                refine AllReadyH.cons rfl (fun K hK => ?_) AllReadyH.nil
                refine step_storeRow rfl rfl 26 _ _ rfl W4.heap.size #[.int .i64 0, .slice none 0 0, .int .i64 0] cs (by with_unfolding_all rfl) (by with_unfolding_all rfl) KV2 hcz.symm (by first | (rw [hcz]; kernel_rfl) | kernel_rfl) hc1 ?_
                have HR : Hid (RjP W4 (E, l, O) R W4.heap.size cn _ (V2.setRow W4.heap.size cs)) := HST.out _ (Below.refl _ _) KV2
                refine hK.out _ _ (HS10.out _ HR.out.1) (fun hHeld => ?_)
                clear hK K
                refine take_at (i := 13) (v := ?_) rfl rfl (by kernel_rfl) (by kernel_rfl) (by kernel_rfl) (fun _ _ _ h => h) (Or.inl ⟨by rfl, ?_⟩) (by assumption) ?_
                rotate_left
                · intro w hSw; (try dsimp only at hSw); go_simp; try with_reducible rfl
                try simp only [Act.put, List.setIfInBounds_toArray, List.set_cons_zero, List.set_cons_succ]
                refine take_at (i := 14) (v := ?_) rfl rfl (by kernel_rfl) (by kernel_rfl) (by kernel_rfl) (fun _ _ _ h => h) (Or.inl ⟨by rfl, ?_⟩) (by assumption) ?_
                rotate_left
                · intro w hSw; (try dsimp only at hSw); go_simp; try with_reducible rfl
                try simp only [Act.put, List.setIfInBounds_toArray, List.set_cons_zero, List.set_cons_succ]
                refine wpAnyH_done (by kernel_rfl) (NoPanic.normal ?_) _
                go_wp2_with fail
                go_meet
                case rel => exact ⟨W4.heap.size, cn, _, rfl, rfl, rfl, HR⟩
            case rest => as_aux_lemma =>
              obtain ⟨h8, cn, er, rfl, rfl, rfl, HR⟩ := hcut
              obtain ⟨W5, hW5⟩ : ∃ W5, wc = W5 := ⟨_, rfl⟩
              rw [hW5] at HR ⊢
              clear hW5 HS10 CJ HRIS
              have HJ5 : Hid (JdS w h5 b c E O l W5) := HJ4.out.on HR.out.1
              have HB5 : Hid (Below wr.heap.size wr W5) := below_step HB4.out (Nat.le_refl _) HR.out.1
              rcases HR.out.2.2 with ⟨her, hcn, hB8⟩ | ⟨her, G2, b2, c2, hri, hj2⟩
              · subst hcn
                have e1 : (er != 0) = true := by rw [bne_iff_ne]; exact her
                have d1 : W5.cell? ⟨h8, 1, none⟩ = some (.slice none 0 0) := hB8.cell 1
                have HXN : Hid (∃ b c E O l, SixM l ∧ JdS w h5 b c E O l W5) := ⟨b, c, E, O, l, HSX.out, HJ5.out⟩
                clear her hB8 HR HJ4 HB4 HRJ
                go_wp2_with fail
                first
                  | exact ⟨⟨k + 1, by omega, by omega, by go_num, HXN⟩, by simp [intOf]; omega⟩
                  | (refine ⟨?_, ?_⟩
                     · ((repeat apply Exists.intro); exact ⟨⟨k + 1, by omega, by omega, by go_num, HXN⟩, rfl⟩)
                     · simp [intOf] <;> omega)
              · subst her
                obtain ⟨E2, l2, O2⟩ := G2
                have HRI : Hid (RiS (E, l, O) R (E2, l2, O2) cn) := hri
                have HN5 : Hid (JdS W4 h8 b2 c2 E2 O2 l2 W5) := hj2
                have x0 := hri.e0
                have x1 := hri.e1
                have x2 := hri.e2
                have x3 := hri.o1.1
                simp only at x0 x1 x2 x3
                have y1 : ¬ E2 < E := by omega
                have y2 : IntKind.i64.wrap (E2 - 1) = E2 - 1 := by rw [IntKind.wrap_i64]; omega
                have y3 : ¬ E < E2 - 1 := by omega
                have y4 : ¬ O2 < O := by omega
                have z1 : decide (E2 < E) = false := decide_eq_false y1
                have z3 : decide (E < E2 - 1) = false := decide_eq_false y3
                have z4 : decide (O2 < O) = false := decide_eq_false y4
                have HS14 : Hid (∀ W, Below W5.heap.size W5 W → (W.cell? ⟨h8, 0, none⟩ = some (.int .i64 E2) ∧ W.cell? ⟨h8, 1, none⟩ = some (.slice (some ⟨b2, 0, none⟩) 6 c2) ∧ W.cell? ⟨h8, 2, none⟩ = some (.int .i64 O2)) ∧ (W.cell? ⟨h5, 0, none⟩ = some (.int .i64 E) ∧ W.cell? ⟨h5, 1, none⟩ = some (.slice (some ⟨b, 0, none⟩) 6 c) ∧ W.cell? ⟨h5, 2, none⟩ = some (.int .i64 O)) ∧ (W.cell? ⟨lb, off + k * 16 + 1, none⟩ = some (.int .i64 R.2.1))) := fun W hW => ⟨⟨(HN5.out.on hW).gg.cell 0, (HN5.out.on hW).gg.cell 1, (HN5.out.on hW).gg.cell 2⟩, ⟨(HJ5.out.on hW).gg.cell 0, (HJ5.out.on hW).gg.cell 1, (HJ5.out.on hW).gg.cell 2⟩, (HC16.out W (below_step HB5.out (Nat.le_refl _) hW)).2.1⟩
                have CI : Hid (∀ W, Below W5.heap.size W5 W → Calls Tryd.prog 8 #[.agg #[.int .i64 E, .slice (some ⟨b, 0, none⟩) 6 c, .int .i64 O], .int .i64 R.2.1] W fun e w' => e = .returned (.bool (inB l R.2.1)) ∧ Below W.heap.size W w') := fun W hW => in6_any E O l b 0 c R.2.1 W (HJ5.out.mm.1) (HJ5.out.on hW).mm.at
                have HJ4w : Hid (w.heap.size ≤ W4.heap.size) := HJ4.out.bel.size
                clear hri hj2 x0 x1 x2 x3 HR HJ4 HB4
                go_upto_region 14 with fail
                go_cut [116] (fun v wx => v = .bool false ∧ Hid (Below W5.heap.size W5 wx))
                case first => as_aux_lemma =>
                  have hV0 : Below W5.heap.size W5 W5.drew := (Below.refl _ _).drew
                  have hS0 := HS14.out _ hV0
                  cases cn with
                  | true =>
                    have hin := HRI.out.fr rfl
                    simp only at hin
                    rw [hin] at CI
                    refine wp_region_noPanic ?_
                    refine wp_region_held_drew (S := fun W => (W.cell? ⟨h8, 0, none⟩ = some (.int .i64 E2) ∧ W.cell? ⟨h8, 1, none⟩ = some (.slice (some ⟨b2, 0, none⟩) 6 c2) ∧ W.cell? ⟨h8, 2, none⟩ = some (.int .i64 O2)) ∧ (W.cell? ⟨h5, 0, none⟩ = some (.int .i64 E) ∧ W.cell? ⟨h5, 1, none⟩ = some (.slice (some ⟨b, 0, none⟩) 6 c) ∧ W.cell? ⟨h5, 2, none⟩ = some (.int .i64 O)) ∧ (W.cell? ⟨lb, off + k * 16 + 1, none⟩ = some (.int .i64 R.2.1))) (by kernel_rfl) (by first | exact trivial | assumption | exact ⟨by assumption, by assumption⟩) (fun hHeld => ?_)
                    refine take_at (i := 0) (v := ?_) rfl rfl (by kernel_rfl) (by kernel_rfl) (by kernel_rfl) (fun _ _ _ h => h) (Or.inl ⟨by rfl, ?_⟩) (by assumption) ?_
                    rotate_left
                    · intro w hSw; (try dsimp only at hSw); go_simp; try with_reducible rfl
                    try simp only [Act.put, List.setIfInBounds_toArray, List.set_cons_zero, List.set_cons_succ]
                    refine take_at (i := 1) (v := ?_) rfl rfl (by kernel_rfl) (by kernel_rfl) (by kernel_rfl) (fun _ _ _ h => h) (Or.inl ⟨by rfl, ?_⟩) (by assumption) ?_
                    rotate_left
                    · intro w hSw; (try dsimp only at hSw); go_simp; try with_reducible rfl
                    try simp only [Act.put, List.setIfInBounds_toArray, List.set_cons_zero, List.set_cons_succ]
                    refine take_at (i := 2) (v := ?_) rfl rfl (by kernel_rfl) (by kernel_rfl) (by kernel_rfl) (fun _ _ _ h => h) (Or.inl ⟨by rfl, ?_⟩) (by assumption) ?_
                    rotate_left
                    · intro w hSw; (try dsimp only at hSw); go_simp; try with_reducible rfl
                    try simp only [Act.put, List.setIfInBounds_toArray, List.set_cons_zero, List.set_cons_succ]
                    refine take_at (i := 3) (v := ?_) rfl rfl (by kernel_rfl) (by kernel_rfl) (by kernel_rfl) (fun _ _ _ h => h) (Or.inl ⟨by rfl, ?_⟩) (by assumption) ?_
                    rotate_left
                    · intro w hSw; (try dsimp only at hSw); go_simp; try with_reducible rfl
                    try simp only [Act.put, List.setIfInBounds_toArray, List.set_cons_zero, List.set_cons_succ]
                    refine take_at (i := 4) (v := ?_) rfl rfl (by kernel_rfl) (by kernel_rfl) (by kernel_rfl) (fun _ _ _ h => h) (Or.inl ⟨by rfl, ?_⟩) (by assumption) ?_
                    rotate_left
                    · intro w hSw; (try dsimp only at hSw); go_simp; try with_reducible rfl
                    try simp only [Act.put, List.setIfInBounds_toArray, List.set_cons_zero, List.set_cons_succ]
                    refine take_at (i := 5) (v := ?_) rfl rfl (by kernel_rfl) (by kernel_rfl) (by kernel_rfl) (fun _ _ _ h => h) (Or.inl ⟨by rfl, ?_⟩) (by assumption) ?_
                    rotate_left
                    · intro w hSw; (try dsimp only at hSw); go_simp; try with_reducible rfl
                    try simp only [Act.put, List.setIfInBounds_toArray, List.set_cons_zero, List.set_cons_succ]
                    refine take_at (i := 6) (v := ?_) rfl rfl (by kernel_rfl) (by kernel_rfl) (by kernel_rfl) (fun _ _ _ h => h) (Or.inl ⟨by rfl, ?_⟩) (by assumption) ?_
                    rotate_left
                    · intro w hSw; (try dsimp only at hSw); go_simp; try with_reducible rfl
                    try simp only [Act.put, List.setIfInBounds_toArray, List.set_cons_zero, List.set_cons_succ]
                    refine take_at (i := 7) (v := ?_) rfl rfl (by kernel_rfl) (by kernel_rfl) (by kernel_rfl) (fun _ _ _ h => h) (Or.inl ⟨by rfl, ?_⟩) (by assumption) ?_
                    rotate_left
                    · intro w hSw; (try dsimp only at hSw); go_simp; try with_reducible rfl
                    try simp only [Act.put, List.setIfInBounds_toArray, List.set_cons_zero, List.set_cons_succ]
                    refine take_at (i := 8) (v := ?_) rfl rfl (by kernel_rfl) (by kernel_rfl) (by kernel_rfl) (fun _ _ _ h => h) (Or.inl ⟨by rfl, ?_⟩) (by assumption) ?_
                    rotate_left
                    · intro w hSw; (try dsimp only at hSw); go_simp; try with_reducible rfl
                    try simp only [Act.put, List.setIfInBounds_toArray, List.set_cons_zero, List.set_cons_succ]
                    refine take_at (i := 9) (v := ?_) rfl rfl (by kernel_rfl) (by kernel_rfl) (by kernel_rfl) (fun _ _ _ h => h) (Or.inl ⟨by rfl, ?_⟩) (by assumption) ?_
                    rotate_left
                    · intro w hSw; (try dsimp only at hSw); go_simp; try with_reducible rfl
                    try simp only [Act.put, List.setIfInBounds_toArray, List.set_cons_zero, List.set_cons_succ]
                    refine take_at (i := 10) (v := ?_) rfl rfl (by kernel_rfl) (by kernel_rfl) (by kernel_rfl) (fun _ _ _ h => h) (Or.inl ⟨by rfl, ?_⟩) (by assumption) ?_
                    rotate_left
                    · intro w hSw; (try dsimp only at hSw); go_simp; try with_reducible rfl
                    try simp only [Act.put, List.setIfInBounds_toArray, List.set_cons_zero, List.set_cons_succ]
                    refine take_at (i := 11) (v := ?_) rfl rfl (by kernel_rfl) (by kernel_rfl) (by kernel_rfl) (fun _ _ _ h => h) (Or.inl ⟨by rfl, ?_⟩) (by assumption) ?_
                    rotate_left
                    · intro w hSw; (try dsimp only at hSw); go_simp; try with_reducible rfl
                    try simp only [Act.put, List.setIfInBounds_toArray, List.set_cons_zero, List.set_cons_succ]
                    refine take_at (i := 12) (v := ?_) rfl rfl (by kernel_rfl) (by kernel_rfl) (by kernel_rfl) (fun _ _ _ h => h) (Or.inl ⟨by rfl, ?_⟩) (by assumption) ?_
                    rotate_left
                    · intro w hSw; (try dsimp only at hSw); go_simp; try with_reducible rfl
                    try simp only [Act.put, List.setIfInBounds_toArray, List.set_cons_zero, List.set_cons_succ]
                    refine take_at (i := 13) (v := ?_) rfl rfl (by kernel_rfl) (by kernel_rfl) (by kernel_rfl) (fun _ _ _ h => h) (Or.inl ⟨by rfl, ?_⟩) (by assumption) ?_
                    rotate_left
                    · intro w hSw; (try dsimp only at hSw); go_simp; try with_reducible rfl
                    try simp only [Act.put, List.setIfInBounds_toArray, List.set_cons_zero, List.set_cons_succ]
                    refine take_at (i := 14) (v := ?_) rfl rfl (by kernel_rfl) (by kernel_rfl) (by kernel_rfl) (fun _ _ _ h => h) (Or.inl ⟨by rfl, ?_⟩) (by assumption) ?_
                    rotate_left
                    · intro w hSw; (try dsimp only at hSw); go_simp; try with_reducible rfl
                    try simp only [Act.put, List.setIfInBounds_toArray, List.set_cons_zero, List.set_cons_succ]
                    refine take_at (i := 15) (v := ?_) rfl rfl (by kernel_rfl) (by kernel_rfl) (by kernel_rfl) (fun _ _ _ h => h) (Or.inl ⟨by rfl, ?_⟩) (by assumption) ?_
                    rotate_left
                    · intro w hSw; (try dsimp only at hSw); go_simp; try with_reducible rfl
                    try simp only [Act.put, List.setIfInBounds_toArray, List.set_cons_zero, List.set_cons_succ]
                    refine take_at (i := 16) (v := ?_) rfl rfl (by kernel_rfl) (by kernel_rfl) (by kernel_rfl) (fun _ _ _ h => h) (Or.inl ⟨by rfl, ?_⟩) (by assumption) ?_
                    rotate_left
                    · intro w hSw; (try dsimp only at hSw); go_simp; try with_reducible rfl
                    try simp only [Act.put, List.setIfInBounds_toArray, List.set_cons_zero, List.set_cons_succ]
                    refine take_at (i := 17) (v := ?_) rfl rfl (by kernel_rfl) (by kernel_rfl) (by kernel_rfl) (fun _ _ _ h => h) (Or.inl ⟨by rfl, ?_⟩) (by assumption) ?_
                    rotate_left
                    · intro w hSw; (try dsimp only at hSw); go_simp; try with_reducible rfl
                    try simp only [Act.put, List.setIfInBounds_toArray, List.set_cons_zero, List.set_cons_succ]
                    refine take_at (i := 18) (v := ?_) rfl rfl (by kernel_rfl) (by kernel_rfl) (by kernel_rfl) (fun _ _ _ h => h) (Or.inl ⟨by rfl, ?_⟩) (by assumption) ?_
                    rotate_left
                    · intro w hSw; (try dsimp only at hSw); go_simp; try with_reducible rfl
                    try simp only [Act.put, List.setIfInBounds_toArray, List.set_cons_zero, List.set_cons_succ]
                    refine take_at (i := 19) (v := ?_) rfl rfl (by kernel_rfl) (by kernel_rfl) (by kernel_rfl) (fun _ _ _ h => h) (Or.inl ⟨by rfl, ?_⟩) (by assumption) ?_
                    rotate_left
                    · intro w hSw; (try dsimp only at hSw); go_simp; try with_reducible rfl
                    try simp only [Act.put, List.setIfInBounds_toArray, List.set_cons_zero, List.set_cons_succ]
                    refine take_at (i := 20) (v := ?_) rfl rfl (by kernel_rfl) (by kernel_rfl) (by kernel_rfl) (fun _ _ _ h => h) (Or.inl ⟨by rfl, ?_⟩) (by assumption) ?_
                    rotate_left
                    · intro w hSw; (try dsimp only at hSw); go_simp; try with_reducible rfl
                    try simp only [Act.put, List.setIfInBounds_toArray, List.set_cons_zero, List.set_cons_succ]
                    refine take_at (i := 21) (v := ?_) rfl rfl (by kernel_rfl) (by kernel_rfl) (by kernel_rfl) (fun _ _ _ h => h) (Or.inl ⟨by rfl, ?_⟩) (by assumption) ?_
                    rotate_left
                    · intro w hSw; (try dsimp only at hSw); go_simp; try with_reducible rfl
                    try simp only [Act.put, List.setIfInBounds_toArray, List.set_cons_zero, List.set_cons_succ]
                    refine take_at (i := 22) (v := ?_) rfl rfl (by kernel_rfl) (by kernel_rfl) (by kernel_rfl) (fun _ _ _ h => h) (Or.inl ⟨by rfl, ?_⟩) (by assumption) ?_
                    rotate_left
                    · intro w hSw; (try dsimp only at hSw); go_simp; try with_reducible rfl
                    try simp only [Act.put, List.setIfInBounds_toArray, List.set_cons_zero, List.set_cons_succ]
                    refine take_at (i := 23) (v := ?_) rfl rfl (by kernel_rfl) (by kernel_rfl) (by kernel_rfl) (fun _ _ _ h => h) (Or.inl ⟨by rfl, ?_⟩) (by assumption) ?_
                    rotate_left
                    · intro w hSw; (try dsimp only at hSw); go_simp; try with_reducible rfl
                    try simp only [Act.put, List.setIfInBounds_toArray, List.set_cons_zero, List.set_cons_succ]
                    refine take_at (i := 24) (v := ?_) rfl rfl (by kernel_rfl) (by kernel_rfl) (by kernel_rfl) (fun _ _ _ h => h) (Or.inl ⟨by rfl, ?_⟩) (by assumption) ?_
                    rotate_left
                    · intro w hSw; (try dsimp only at hSw); go_simp; try with_reducible rfl
                    try simp only [Act.put, List.setIfInBounds_toArray, List.set_cons_zero, List.set_cons_succ]
                    refine take_at (i := 25) (v := ?_) rfl rfl (by kernel_rfl) (by kernel_rfl) (by kernel_rfl) (fun _ _ _ h => h) (Or.inl ⟨by rfl, ?_⟩) (by assumption) ?_
                    rotate_left
                    · intro w hSw; (try dsimp only at hSw); go_simp; try with_reducible rfl
                    try simp only [Act.put, List.setIfInBounds_toArray, List.set_cons_zero, List.set_cons_succ]
                    refine take_at (i := 26) (v := ?_) rfl rfl (by kernel_rfl) (by kernel_rfl) (by kernel_rfl) (fun _ _ _ h => h) (Or.inl ⟨by rfl, ?_⟩) (by assumption) ?_
                    rotate_left
                    · intro w hSw; (try dsimp only at hSw); go_simp; try with_reducible rfl
                    try simp only [Act.put, List.setIfInBounds_toArray, List.set_cons_zero, List.set_cons_succ]
                    refine take_at (i := 27) (v := ?_) rfl rfl (by kernel_rfl) (by kernel_rfl) (by kernel_rfl) (fun _ _ _ h => h) (Or.inl ⟨by rfl, ?_⟩) (by assumption) ?_
                    rotate_left
                    · intro w hSw; (try dsimp only at hSw); go_simp; try with_reducible rfl
                    try simp only [Act.put, List.setIfInBounds_toArray, List.set_cons_zero, List.set_cons_succ]
                    refine take_at (i := 28) (v := ?_) rfl rfl (by kernel_rfl) (by kernel_rfl) (by kernel_rfl) (fun _ _ _ h => h) (Or.inl ⟨by rfl, ?_⟩) (by assumption) ?_
                    rotate_left
                    · intro w hSw; (try dsimp only at hSw); go_simp; try with_reducible rfl
                    try simp only [Act.put, List.setIfInBounds_toArray, List.set_cons_zero, List.set_cons_succ]
                    clear hS0
                    refine wpAnyH_ready (rs := [29]) (by kernel_rfl) (by simp) ?_
                    refine AllReadyH.cons rfl (fun K hK => ?_) AllReadyH.nil
                    go_simp
                    refine (CI.out _ hV0).mono ?_
                    rintro e V1 ⟨rfl, hb1⟩
                    have HV1 : Hid (Below W5.heap.size W5 V1) := below_step hV0 (Nat.le_refl _) hb1
                    clear hb1
                    refine hK.out _ _ (HS14.out _ HV1.out) (fun hHeld => ?_)
                    clear hK K
                    refine take_at (i := 30) (v := ?_) rfl rfl (by kernel_rfl) (by kernel_rfl) (by kernel_rfl) (fun _ _ _ h => h) (Or.inl ⟨by rfl, ?_⟩) (by assumption) ?_
                    rotate_left
                    · intro w hSw; (try dsimp only at hSw); go_simp; try with_reducible rfl
                    try simp only [Act.put, List.setIfInBounds_toArray, List.set_cons_zero, List.set_cons_succ]
                    refine take_at (i := 31) (v := ?_) rfl rfl (by kernel_rfl) (by kernel_rfl) (by kernel_rfl) (fun _ _ _ h => h) (Or.inl ⟨by rfl, ?_⟩) (by assumption) ?_
                    rotate_left
                    · intro w hSw; (try dsimp only at hSw); go_simp; try with_reducible rfl
                    try simp only [Act.put, List.setIfInBounds_toArray, List.set_cons_zero, List.set_cons_succ]
                    refine take_at (i := 32) (v := ?_) rfl rfl (by kernel_rfl) (by kernel_rfl) (by kernel_rfl) (fun _ _ _ h => h) (Or.inl ⟨by rfl, ?_⟩) (by assumption) ?_
                    rotate_left
                    · intro w hSw; (try dsimp only at hSw); go_simp; try with_reducible rfl
                    try simp only [Act.put, List.setIfInBounds_toArray, List.set_cons_zero, List.set_cons_succ]
                    refine take_at (i := 33) (v := ?_) rfl rfl (by kernel_rfl) (by kernel_rfl) (by kernel_rfl) (fun _ _ _ h => h) (Or.inl ⟨by rfl, ?_⟩) (by assumption) ?_
                    rotate_left
                    · intro w hSw; (try dsimp only at hSw); go_simp; try with_reducible rfl
                    try simp only [Act.put, List.setIfInBounds_toArray, List.set_cons_zero, List.set_cons_succ]
                    refine take_at (i := 34) (v := ?_) rfl rfl (by kernel_rfl) (by kernel_rfl) (by kernel_rfl) (fun _ _ _ h => h) (Or.inl ⟨by rfl, ?_⟩) (by assumption) ?_
                    rotate_left
                    · intro w hSw; (try dsimp only at hSw); go_simp; try with_reducible rfl
                    try simp only [Act.put, List.setIfInBounds_toArray, List.set_cons_zero, List.set_cons_succ]
                    refine take_at (i := 35) (v := ?_) rfl rfl (by kernel_rfl) (by kernel_rfl) (by kernel_rfl) (fun _ _ _ h => h) (Or.inl ⟨by rfl, ?_⟩) (by assumption) ?_
                    rotate_left
                    · intro w hSw; (try dsimp only at hSw); go_simp; try with_reducible rfl
                    try simp only [Act.put, List.setIfInBounds_toArray, List.set_cons_zero, List.set_cons_succ]
                    refine take_at (i := 36) (v := ?_) rfl rfl (by kernel_rfl) (by kernel_rfl) (by kernel_rfl) (fun _ _ _ h => h) (Or.inl ⟨by rfl, ?_⟩) (by assumption) ?_
                    rotate_left
                    · intro w hSw; (try dsimp only at hSw); go_simp; try with_reducible rfl
                    try simp only [Act.put, List.setIfInBounds_toArray, List.set_cons_zero, List.set_cons_succ]
                    refine take_at (i := 37) (v := undef) rfl rfl (by kernel_rfl) (by kernel_rfl) (by kernel_rfl) (fun _ _ _ h => h) (Or.inr ⟨by rfl, rfl⟩) (by assumption) ?_
                    try simp only [Act.put, List.setIfInBounds_toArray, List.set_cons_zero, List.set_cons_succ]
                    refine take_at (i := 38) (v := undef) rfl rfl (by kernel_rfl) (by kernel_rfl) (by kernel_rfl) (fun _ _ _ h => h) (Or.inr ⟨by rfl, rfl⟩) (by assumption) ?_
                    try simp only [Act.put, List.setIfInBounds_toArray, List.set_cons_zero, List.set_cons_succ]
                    refine take_at (i := 39) (v := undef) rfl rfl (by kernel_rfl) (by kernel_rfl) (by kernel_rfl) (fun _ _ _ h => h) (Or.inr ⟨by rfl, rfl⟩) (by assumption) ?_
                    try simp only [Act.put, List.setIfInBounds_toArray, List.set_cons_zero, List.set_cons_succ]
                    refine take_at (i := 40) (v := undef) rfl rfl (by kernel_rfl) (by kernel_rfl) (by kernel_rfl) (fun _ _ _ h => h) (Or.inr ⟨by rfl, rfl⟩) (by assumption) ?_
                    try simp only [Act.put, List.setIfInBounds_toArray, List.set_cons_zero, List.set_cons_succ]
                    refine take_at (i := 41) (v := undef) rfl rfl (by kernel_rfl) (by kernel_rfl) (by kernel_rfl) (fun _ _ _ h => h) (Or.inr ⟨by rfl, rfl⟩) (by assumption) ?_
                    try simp only [Act.put, List.setIfInBounds_toArray, List.set_cons_zero, List.set_cons_succ]
                    refine take_at (i := 42) (v := ?_) rfl rfl (by kernel_rfl) (by kernel_rfl) (by kernel_rfl) (fun _ _ _ h => h) (Or.inl ⟨by rfl, ?_⟩) (by assumption) ?_
                    rotate_left
                    · intro w hSw; (try dsimp only at hSw); go_simp; try with_reducible rfl
                    try simp only [Act.put, List.setIfInBounds_toArray, List.set_cons_zero, List.set_cons_succ]
                    refine take_at (i := 43) (v := ?_) rfl rfl (by kernel_rfl) (by kernel_rfl) (by kernel_rfl) (fun _ _ _ h => h) (Or.inl ⟨by rfl, ?_⟩) (by assumption) ?_
                    rotate_left
                    · intro w hSw; (try dsimp only at hSw); go_simp; try with_reducible rfl
                    try simp only [Act.put, List.setIfInBounds_toArray, List.set_cons_zero, List.set_cons_succ]
                    refine take_at (i := 44) (v := ?_) rfl rfl (by kernel_rfl) (by kernel_rfl) (by kernel_rfl) (fun _ _ _ h => h) (Or.inl ⟨by rfl, ?_⟩) (by assumption) ?_
                    rotate_left
                    · intro w hSw; (try dsimp only at hSw); go_simp; try with_reducible rfl
                    try simp only [Act.put, List.setIfInBounds_toArray, List.set_cons_zero, List.set_cons_succ]
                    refine take_at (i := 45) (v := ?_) rfl rfl (by kernel_rfl) (by kernel_rfl) (by kernel_rfl) (fun _ _ _ h => h) (Or.inl ⟨by rfl, ?_⟩) (by assumption) ?_
                    rotate_left
                    · intro w hSw; (try dsimp only at hSw); go_simp; try with_reducible rfl
                    try simp only [Act.put, List.setIfInBounds_toArray, List.set_cons_zero, List.set_cons_succ]
                    refine take_at (i := 46) (v := ?_) rfl rfl (by kernel_rfl) (by kernel_rfl) (by kernel_rfl) (fun _ _ _ h => h) (Or.inl ⟨by rfl, ?_⟩) (by assumption) ?_
                    rotate_left
                    · intro w hSw; (try dsimp only at hSw); go_simp; try with_reducible rfl
                    try simp only [Act.put, List.setIfInBounds_toArray, List.set_cons_zero, List.set_cons_succ]
                    refine take_at (i := 47) (v := ?_) rfl rfl (by kernel_rfl) (by kernel_rfl) (by kernel_rfl) (fun _ _ _ h => h) (Or.inl ⟨by rfl, ?_⟩) (by assumption) ?_
                    rotate_left
                    · intro w hSw; (try dsimp only at hSw); go_simp; try with_reducible rfl
                    try simp only [Act.put, List.setIfInBounds_toArray, List.set_cons_zero, List.set_cons_succ]
                    refine take_at (i := 48) (v := ?_) rfl rfl (by kernel_rfl) (by kernel_rfl) (by kernel_rfl) (fun _ _ _ h => h) (Or.inl ⟨by rfl, ?_⟩) (by assumption) ?_
                    rotate_left
                    · intro w hSw; (try dsimp only at hSw); go_simp; try with_reducible rfl
                    try simp only [Act.put, List.setIfInBounds_toArray, List.set_cons_zero, List.set_cons_succ]
                    refine take_at (i := 49) (v := ?_) rfl rfl (by kernel_rfl) (by kernel_rfl) (by kernel_rfl) (fun _ _ _ h => h) (Or.inl ⟨by rfl, ?_⟩) (by assumption) ?_
                    rotate_left
                    · intro w hSw; (try dsimp only at hSw); go_simp; try with_reducible rfl
                    try simp only [Act.put, List.setIfInBounds_toArray, List.set_cons_zero, List.set_cons_succ]
                    refine wpAnyH_done (by kernel_rfl) (NoPanic.normal ?_) _
                    go_wp2_with fail
                    go_meet
                    case rel => exact ⟨rfl, HV1⟩
                  | false =>
                    have he3 := HRI.out.e3 rfl
                    simp only at he3
                    have q0 : (E2 != E) = false := by rw [he3]; simp
                    clear he3
                    refine wp_region_noPanic ?_
                    refine wp_region_held_drew (S := fun W => (W.cell? ⟨h8, 0, none⟩ = some (.int .i64 E2) ∧ W.cell? ⟨h8, 1, none⟩ = some (.slice (some ⟨b2, 0, none⟩) 6 c2) ∧ W.cell? ⟨h8, 2, none⟩ = some (.int .i64 O2)) ∧ (W.cell? ⟨h5, 0, none⟩ = some (.int .i64 E) ∧ W.cell? ⟨h5, 1, none⟩ = some (.slice (some ⟨b, 0, none⟩) 6 c) ∧ W.cell? ⟨h5, 2, none⟩ = some (.int .i64 O)) ∧ (W.cell? ⟨lb, off + k * 16 + 1, none⟩ = some (.int .i64 R.2.1))) (by kernel_rfl) (by first | exact trivial | assumption | exact ⟨by assumption, by assumption⟩) (fun hHeld => ?_)
                    refine take_at (i := 0) (v := ?_) rfl rfl (by kernel_rfl) (by kernel_rfl) (by kernel_rfl) (fun _ _ _ h => h) (Or.inl ⟨by rfl, ?_⟩) (by assumption) ?_
                    rotate_left
                    · intro w hSw; (try dsimp only at hSw); go_simp; try with_reducible rfl
                    try simp only [Act.put, List.setIfInBounds_toArray, List.set_cons_zero, List.set_cons_succ]
                    refine take_at (i := 1) (v := ?_) rfl rfl (by kernel_rfl) (by kernel_rfl) (by kernel_rfl) (fun _ _ _ h => h) (Or.inl ⟨by rfl, ?_⟩) (by assumption) ?_
                    rotate_left
                    · intro w hSw; (try dsimp only at hSw); go_simp; try with_reducible rfl
                    try simp only [Act.put, List.setIfInBounds_toArray, List.set_cons_zero, List.set_cons_succ]
                    refine take_at (i := 2) (v := ?_) rfl rfl (by kernel_rfl) (by kernel_rfl) (by kernel_rfl) (fun _ _ _ h => h) (Or.inl ⟨by rfl, ?_⟩) (by assumption) ?_
                    rotate_left
                    · intro w hSw; (try dsimp only at hSw); go_simp; try with_reducible rfl
                    try simp only [Act.put, List.setIfInBounds_toArray, List.set_cons_zero, List.set_cons_succ]
                    refine take_at (i := 3) (v := ?_) rfl rfl (by kernel_rfl) (by kernel_rfl) (by kernel_rfl) (fun _ _ _ h => h) (Or.inl ⟨by rfl, ?_⟩) (by assumption) ?_
                    rotate_left
                    · intro w hSw; (try dsimp only at hSw); go_simp; try with_reducible rfl
                    try simp only [Act.put, List.setIfInBounds_toArray, List.set_cons_zero, List.set_cons_succ]
                    refine take_at (i := 4) (v := ?_) rfl rfl (by kernel_rfl) (by kernel_rfl) (by kernel_rfl) (fun _ _ _ h => h) (Or.inl ⟨by rfl, ?_⟩) (by assumption) ?_
                    rotate_left
                    · intro w hSw; (try dsimp only at hSw); go_simp; try with_reducible rfl
                    try simp only [Act.put, List.setIfInBounds_toArray, List.set_cons_zero, List.set_cons_succ]
                    refine take_at (i := 5) (v := ?_) rfl rfl (by kernel_rfl) (by kernel_rfl) (by kernel_rfl) (fun _ _ _ h => h) (Or.inl ⟨by rfl, ?_⟩) (by assumption) ?_
                    rotate_left
                    · intro w hSw; (try dsimp only at hSw); go_simp; try with_reducible rfl
                    try simp only [Act.put, List.setIfInBounds_toArray, List.set_cons_zero, List.set_cons_succ]
                    refine take_at (i := 6) (v := ?_) rfl rfl (by kernel_rfl) (by kernel_rfl) (by kernel_rfl) (fun _ _ _ h => h) (Or.inl ⟨by rfl, ?_⟩) (by assumption) ?_
                    rotate_left
                    · intro w hSw; (try dsimp only at hSw); go_simp; try with_reducible rfl
                    try simp only [Act.put, List.setIfInBounds_toArray, List.set_cons_zero, List.set_cons_succ]
                    refine take_at (i := 7) (v := ?_) rfl rfl (by kernel_rfl) (by kernel_rfl) (by kernel_rfl) (fun _ _ _ h => h) (Or.inl ⟨by rfl, ?_⟩) (by assumption) ?_
                    rotate_left
                    · intro w hSw; (try dsimp only at hSw); go_simp; try with_reducible rfl
                    try simp only [Act.put, List.setIfInBounds_toArray, List.set_cons_zero, List.set_cons_succ]
                    refine take_at (i := 8) (v := ?_) rfl rfl (by kernel_rfl) (by kernel_rfl) (by kernel_rfl) (fun _ _ _ h => h) (Or.inl ⟨by rfl, ?_⟩) (by assumption) ?_
                    rotate_left
                    · intro w hSw; (try dsimp only at hSw); go_simp; try with_reducible rfl
                    try simp only [Act.put, List.setIfInBounds_toArray, List.set_cons_zero, List.set_cons_succ]
                    refine take_at (i := 9) (v := ?_) rfl rfl (by kernel_rfl) (by kernel_rfl) (by kernel_rfl) (fun _ _ _ h => h) (Or.inl ⟨by rfl, ?_⟩) (by assumption) ?_
                    rotate_left
                    · intro w hSw; (try dsimp only at hSw); go_simp; try with_reducible rfl
                    try simp only [Act.put, List.setIfInBounds_toArray, List.set_cons_zero, List.set_cons_succ]
                    refine take_at (i := 10) (v := ?_) rfl rfl (by kernel_rfl) (by kernel_rfl) (by kernel_rfl) (fun _ _ _ h => h) (Or.inl ⟨by rfl, ?_⟩) (by assumption) ?_
                    rotate_left
                    · intro w hSw; (try dsimp only at hSw); go_simp; try with_reducible rfl
                    try simp only [Act.put, List.setIfInBounds_toArray, List.set_cons_zero, List.set_cons_succ]
                    refine take_at (i := 11) (v := ?_) rfl rfl (by kernel_rfl) (by kernel_rfl) (by kernel_rfl) (fun _ _ _ h => h) (Or.inl ⟨by rfl, ?_⟩) (by assumption) ?_
                    rotate_left
                    · intro w hSw; (try dsimp only at hSw); go_simp; try with_reducible rfl
                    try simp only [Act.put, List.setIfInBounds_toArray, List.set_cons_zero, List.set_cons_succ]
                    refine take_at (i := 12) (v := ?_) rfl rfl (by kernel_rfl) (by kernel_rfl) (by kernel_rfl) (fun _ _ _ h => h) (Or.inl ⟨by rfl, ?_⟩) (by assumption) ?_
                    rotate_left
                    · intro w hSw; (try dsimp only at hSw); go_simp; try with_reducible rfl
                    try simp only [Act.put, List.setIfInBounds_toArray, List.set_cons_zero, List.set_cons_succ]
                    refine take_at (i := 13) (v := ?_) rfl rfl (by kernel_rfl) (by kernel_rfl) (by kernel_rfl) (fun _ _ _ h => h) (Or.inl ⟨by rfl, ?_⟩) (by assumption) ?_
                    rotate_left
                    · intro w hSw; (try dsimp only at hSw); go_simp; try with_reducible rfl
                    try simp only [Act.put, List.setIfInBounds_toArray, List.set_cons_zero, List.set_cons_succ]
                    refine take_at (i := 14) (v := ?_) rfl rfl (by kernel_rfl) (by kernel_rfl) (by kernel_rfl) (fun _ _ _ h => h) (Or.inl ⟨by rfl, ?_⟩) (by assumption) ?_
                    rotate_left
                    · intro w hSw; (try dsimp only at hSw); go_simp; try with_reducible rfl
                    try simp only [Act.put, List.setIfInBounds_toArray, List.set_cons_zero, List.set_cons_succ]
                    refine take_at (i := 15) (v := ?_) rfl rfl (by kernel_rfl) (by kernel_rfl) (by kernel_rfl) (fun _ _ _ h => h) (Or.inl ⟨by rfl, ?_⟩) (by assumption) ?_
                    rotate_left
                    · intro w hSw; (try dsimp only at hSw); go_simp; try with_reducible rfl
                    try simp only [Act.put, List.setIfInBounds_toArray, List.set_cons_zero, List.set_cons_succ]
                    refine take_at (i := 16) (v := ?_) rfl rfl (by kernel_rfl) (by kernel_rfl) (by kernel_rfl) (fun _ _ _ h => h) (Or.inl ⟨by rfl, ?_⟩) (by assumption) ?_
                    rotate_left
                    · intro w hSw; (try dsimp only at hSw); go_simp; try with_reducible rfl
                    try simp only [Act.put, List.setIfInBounds_toArray, List.set_cons_zero, List.set_cons_succ]
                    refine take_at (i := 17) (v := ?_) rfl rfl (by kernel_rfl) (by kernel_rfl) (by kernel_rfl) (fun _ _ _ h => h) (Or.inl ⟨by rfl, ?_⟩) (by assumption) ?_
                    rotate_left
                    · intro w hSw; (try dsimp only at hSw); go_simp; try with_reducible rfl
                    try simp only [Act.put, List.setIfInBounds_toArray, List.set_cons_zero, List.set_cons_succ]
                    refine take_at (i := 18) (v := ?_) rfl rfl (by kernel_rfl) (by kernel_rfl) (by kernel_rfl) (fun _ _ _ h => h) (Or.inl ⟨by rfl, ?_⟩) (by assumption) ?_
                    rotate_left
                    · intro w hSw; (try dsimp only at hSw); go_simp; try with_reducible rfl
                    try simp only [Act.put, List.setIfInBounds_toArray, List.set_cons_zero, List.set_cons_succ]
                    refine take_at (i := 19) (v := ?_) rfl rfl (by kernel_rfl) (by kernel_rfl) (by kernel_rfl) (fun _ _ _ h => h) (Or.inl ⟨by rfl, ?_⟩) (by assumption) ?_
                    rotate_left
                    · intro w hSw; (try dsimp only at hSw); go_simp; try with_reducible rfl
                    try simp only [Act.put, List.setIfInBounds_toArray, List.set_cons_zero, List.set_cons_succ]
                    refine take_at (i := 20) (v := ?_) rfl rfl (by kernel_rfl) (by kernel_rfl) (by kernel_rfl) (fun _ _ _ h => h) (Or.inl ⟨by rfl, ?_⟩) (by assumption) ?_
                    rotate_left
                    · intro w hSw; (try dsimp only at hSw); go_simp; try with_reducible rfl
                    try simp only [Act.put, List.setIfInBounds_toArray, List.set_cons_zero, List.set_cons_succ]
                    refine take_at (i := 21) (v := ?_) rfl rfl (by kernel_rfl) (by kernel_rfl) (by kernel_rfl) (fun _ _ _ h => h) (Or.inl ⟨by rfl, ?_⟩) (by assumption) ?_
                    rotate_left
                    · intro w hSw; (try dsimp only at hSw); go_simp; try with_reducible rfl
                    try simp only [Act.put, List.setIfInBounds_toArray, List.set_cons_zero, List.set_cons_succ]
                    refine take_at (i := 22) (v := ?_) rfl rfl (by kernel_rfl) (by kernel_rfl) (by kernel_rfl) (fun _ _ _ h => h) (Or.inl ⟨by rfl, ?_⟩) (by assumption) ?_
                    rotate_left
                    · intro w hSw; (try dsimp only at hSw); go_simp; try with_reducible rfl
                    try simp only [Act.put, List.setIfInBounds_toArray, List.set_cons_zero, List.set_cons_succ]
                    refine take_at (i := 23) (v := undef) rfl rfl (by kernel_rfl) (by kernel_rfl) (by kernel_rfl) (fun _ _ _ h => h) (Or.inr ⟨by rfl, rfl⟩) (by assumption) ?_
                    try simp only [Act.put, List.setIfInBounds_toArray, List.set_cons_zero, List.set_cons_succ]
                    refine take_at (i := 24) (v := undef) rfl rfl (by kernel_rfl) (by kernel_rfl) (by kernel_rfl) (fun _ _ _ h => h) (Or.inr ⟨by rfl, rfl⟩) (by assumption) ?_
                    try simp only [Act.put, List.setIfInBounds_toArray, List.set_cons_zero, List.set_cons_succ]
                    refine take_at (i := 25) (v := undef) rfl rfl (by kernel_rfl) (by kernel_rfl) (by kernel_rfl) (fun _ _ _ h => h) (Or.inr ⟨by rfl, rfl⟩) (by assumption) ?_
                    try simp only [Act.put, List.setIfInBounds_toArray, List.set_cons_zero, List.set_cons_succ]
                    refine take_at (i := 26) (v := undef) rfl rfl (by kernel_rfl) (by kernel_rfl) (by kernel_rfl) (fun _ _ _ h => h) (Or.inr ⟨by rfl, rfl⟩) (by assumption) ?_
                    try simp only [Act.put, List.setIfInBounds_toArray, List.set_cons_zero, List.set_cons_succ]
                    refine take_at (i := 27) (v := undef) rfl rfl (by kernel_rfl) (by kernel_rfl) (by kernel_rfl) (fun _ _ _ h => h) (Or.inr ⟨by rfl, rfl⟩) (by assumption) ?_
                    try simp only [Act.put, List.setIfInBounds_toArray, List.set_cons_zero, List.set_cons_succ]
                    refine take_at (i := 28) (v := undef) rfl rfl (by kernel_rfl) (by kernel_rfl) (by kernel_rfl) (fun _ _ _ h => h) (Or.inr ⟨by rfl, rfl⟩) (by assumption) ?_
                    try simp only [Act.put, List.setIfInBounds_toArray, List.set_cons_zero, List.set_cons_succ]
                    refine take_at (i := 29) (v := undef) rfl rfl (by kernel_rfl) (by kernel_rfl) (by kernel_rfl) (fun _ _ _ h => h) (Or.inr ⟨by rfl, rfl⟩) (by assumption) ?_
                    try simp only [Act.put, List.setIfInBounds_toArray, List.set_cons_zero, List.set_cons_succ]
                    refine take_at (i := 30) (v := undef) rfl rfl (by kernel_rfl) (by kernel_rfl) (by kernel_rfl) (fun _ _ _ h => h) (Or.inr ⟨by rfl, rfl⟩) (by assumption) ?_
                    try simp only [Act.put, List.setIfInBounds_toArray, List.set_cons_zero, List.set_cons_succ]
                    refine take_at (i := 31) (v := ?_) rfl rfl (by kernel_rfl) (by kernel_rfl) (by kernel_rfl) (fun _ _ _ h => h) (Or.inl ⟨by rfl, ?_⟩) (by assumption) ?_
                    rotate_left
                    · intro w hSw; (try dsimp only at hSw); go_simp; try with_reducible rfl
                    try simp only [Act.put, List.setIfInBounds_toArray, List.set_cons_zero, List.set_cons_succ]
                    refine take_at (i := 32) (v := ?_) rfl rfl (by kernel_rfl) (by kernel_rfl) (by kernel_rfl) (fun _ _ _ h => h) (Or.inl ⟨by rfl, ?_⟩) (by assumption) ?_
                    rotate_left
                    · intro w hSw; (try dsimp only at hSw); go_simp; try with_reducible rfl
                    try simp only [Act.put, List.setIfInBounds_toArray, List.set_cons_zero, List.set_cons_succ]
                    refine take_at (i := 33) (v := ?_) rfl rfl (by kernel_rfl) (by kernel_rfl) (by kernel_rfl) (fun _ _ _ h => h) (Or.inl ⟨by rfl, ?_⟩) (by assumption) ?_
                    rotate_left
                    · intro w hSw; (try dsimp only at hSw); go_simp; try with_reducible rfl
                    try simp only [Act.put, List.setIfInBounds_toArray, List.set_cons_zero, List.set_cons_succ]
                    refine take_at (i := 34) (v := ?_) rfl rfl (by kernel_rfl) (by kernel_rfl) (by kernel_rfl) (fun _ _ _ h => h) (Or.inl ⟨by rfl, ?_⟩) (by assumption) ?_
                    rotate_left
                    · intro w hSw; (try dsimp only at hSw); go_simp; try with_reducible rfl
                    try simp only [Act.put, List.setIfInBounds_toArray, List.set_cons_zero, List.set_cons_succ]
                    refine take_at (i := 35) (v := ?_) rfl rfl (by kernel_rfl) (by kernel_rfl) (by kernel_rfl) (fun _ _ _ h => h) (Or.inl ⟨by rfl, ?_⟩) (by assumption) ?_
                    rotate_left
                    · intro w hSw; (try dsimp only at hSw); go_simp; try with_reducible rfl
                    try simp only [Act.put, List.setIfInBounds_toArray, List.set_cons_zero, List.set_cons_succ]
                    refine take_at (i := 36) (v := ?_) rfl rfl (by kernel_rfl) (by kernel_rfl) (by kernel_rfl) (fun _ _ _ h => h) (Or.inl ⟨by rfl, ?_⟩) (by assumption) ?_
                    rotate_left
                    · intro w hSw; (try dsimp only at hSw); go_simp; try with_reducible rfl
                    try simp only [Act.put, List.setIfInBounds_toArray, List.set_cons_zero, List.set_cons_succ]
                    refine take_at (i := 37) (v := ?_) rfl rfl (by kernel_rfl) (by kernel_rfl) (by kernel_rfl) (fun _ _ _ h => h) (Or.inl ⟨by rfl, ?_⟩) (by assumption) ?_
                    rotate_left
                    · intro w hSw; (try dsimp only at hSw); go_simp; try with_reducible rfl
                    try simp only [Act.put, List.setIfInBounds_toArray, List.set_cons_zero, List.set_cons_succ]
                    refine take_at (i := 38) (v := ?_) rfl rfl (by kernel_rfl) (by kernel_rfl) (by kernel_rfl) (fun _ _ _ h => h) (Or.inl ⟨by rfl, ?_⟩) (by assumption) ?_
                    rotate_left
                    · intro w hSw; (try dsimp only at hSw); go_simp; try with_reducible rfl
                    try simp only [Act.put, List.setIfInBounds_toArray, List.set_cons_zero, List.set_cons_succ]
                    refine take_at (i := 39) (v := ?_) rfl rfl (by kernel_rfl) (by kernel_rfl) (by kernel_rfl) (fun _ _ _ h => h) (Or.inl ⟨by rfl, ?_⟩) (by assumption) ?_
                    rotate_left
                    · intro w hSw; (try dsimp only at hSw); go_simp; try with_reducible rfl
                    try simp only [Act.put, List.setIfInBounds_toArray, List.set_cons_zero, List.set_cons_succ]
                    refine take_at (i := 40) (v := ?_) rfl rfl (by kernel_rfl) (by kernel_rfl) (by kernel_rfl) (fun _ _ _ h => h) (Or.inl ⟨by rfl, ?_⟩) (by assumption) ?_
                    rotate_left
                    · intro w hSw; (try dsimp only at hSw); go_simp; try with_reducible rfl
                    try simp only [Act.put, List.setIfInBounds_toArray, List.set_cons_zero, List.set_cons_succ]
                    refine take_at (i := 41) (v := ?_) rfl rfl (by kernel_rfl) (by kernel_rfl) (by kernel_rfl) (fun _ _ _ h => h) (Or.inl ⟨by rfl, ?_⟩) (by assumption) ?_
                    rotate_left
                    · intro w hSw; (try dsimp only at hSw); go_simp; try with_reducible rfl
                    try simp only [Act.put, List.setIfInBounds_toArray, List.set_cons_zero, List.set_cons_succ]
                    refine take_at (i := 42) (v := ?_) rfl rfl (by kernel_rfl) (by kernel_rfl) (by kernel_rfl) (fun _ _ _ h => h) (Or.inl ⟨by rfl, ?_⟩) (by assumption) ?_
                    rotate_left
                    · intro w hSw; (try dsimp only at hSw); go_simp; try with_reducible rfl
                    try simp only [Act.put, List.setIfInBounds_toArray, List.set_cons_zero, List.set_cons_succ]
                    refine take_at (i := 43) (v := ?_) rfl rfl (by kernel_rfl) (by kernel_rfl) (by kernel_rfl) (fun _ _ _ h => h) (Or.inl ⟨by rfl, ?_⟩) (by assumption) ?_
                    rotate_left
                    · intro w hSw; (try dsimp only at hSw); go_simp; try with_reducible rfl
                    try simp only [Act.put, List.setIfInBounds_toArray, List.set_cons_zero, List.set_cons_succ]
                    refine take_at (i := 44) (v := ?_) rfl rfl (by kernel_rfl) (by kernel_rfl) (by kernel_rfl) (fun _ _ _ h => h) (Or.inl ⟨by rfl, ?_⟩) (by assumption) ?_
                    rotate_left
                    · intro w hSw; (try dsimp only at hSw); go_simp; try with_reducible rfl
                    try simp only [Act.put, List.setIfInBounds_toArray, List.set_cons_zero, List.set_cons_succ]
                    refine take_at (i := 45) (v := ?_) rfl rfl (by kernel_rfl) (by kernel_rfl) (by kernel_rfl) (fun _ _ _ h => h) (Or.inl ⟨by rfl, ?_⟩) (by assumption) ?_
                    rotate_left
                    · intro w hSw; (try dsimp only at hSw); go_simp; try with_reducible rfl
                    try simp only [Act.put, List.setIfInBounds_toArray, List.set_cons_zero, List.set_cons_succ]
                    refine take_at (i := 46) (v := ?_) rfl rfl (by kernel_rfl) (by kernel_rfl) (by kernel_rfl) (fun _ _ _ h => h) (Or.inl ⟨by rfl, ?_⟩) (by assumption) ?_
                    rotate_left
                    · intro w hSw; (try dsimp only at hSw); go_simp; try with_reducible rfl
                    try simp only [Act.put, List.setIfInBounds_toArray, List.set_cons_zero, List.set_cons_succ]
                    refine take_at (i := 47) (v := ?_) rfl rfl (by kernel_rfl) (by kernel_rfl) (by kernel_rfl) (fun _ _ _ h => h) (Or.inl ⟨by rfl, ?_⟩) (by assumption) ?_
                    rotate_left
                    · intro w hSw; (try dsimp only at hSw); go_simp; try with_reducible rfl
                    try simp only [Act.put, List.setIfInBounds_toArray, List.set_cons_zero, List.set_cons_succ]
                    refine take_at (i := 48) (v := ?_) rfl rfl (by kernel_rfl) (by kernel_rfl) (by kernel_rfl) (fun _ _ _ h => h) (Or.inl ⟨by rfl, ?_⟩) (by assumption) ?_
                    rotate_left
                    · intro w hSw; (try dsimp only at hSw); go_simp; try with_reducible rfl
                    try simp only [Act.put, List.setIfInBounds_toArray, List.set_cons_zero, List.set_cons_succ]
                    refine take_at (i := 49) (v := ?_) rfl rfl (by kernel_rfl) (by kernel_rfl) (by kernel_rfl) (fun _ _ _ h => h) (Or.inl ⟨by rfl, ?_⟩) (by assumption) ?_
                    rotate_left
                    · intro w hSw; (try dsimp only at hSw); go_simp; try with_reducible rfl
                    try simp only [Act.put, List.setIfInBounds_toArray, List.set_cons_zero, List.set_cons_succ]
                    refine wpAnyH_done (by kernel_rfl) (NoPanic.normal ?_) _
                    go_wp2_with fail
                    go_meet
                    case rel => exact ⟨rfl, hV0⟩
                case rest => as_aux_lemma =>
                  obtain ⟨rfl, HB6⟩ := hcut
                  obtain ⟨W6, hW6⟩ : ∃ W6, wc = W6 := ⟨_, rfl⟩
                  rw [hW6] at HB6 ⊢
                  have HJ6 : Hid (JdS w h5 b c E O l W6) := HJ5.out.on HB6.out
                  have HN6 : Hid (JdS W4 h8 b2 c2 E2 O2 l2 W6) := HN5.out.on HB6.out
                  have HBW6 : Hid (Below wr.heap.size wr W6) := below_step HB5.out (Nat.le_refl _) HB6.out
                  clear hW6 HB6 HS14 CI y1 y2 y3 y4 z1 z3 z4 HJ5 HN5 HB5
                  go_wp2_with fail
                  go_loopw [11] (fun jv wx => ∃ j : Nat, j ≤ 6 ∧ jv = .int .i64 j ∧ Hid (Below W6.heap.size W6 wx)) (fun jv _ => 6 - (intOf jv).toNat)
                  case atStart => exact ⟨0, by omega, rfl, Below.refl _ _⟩
                  case round =>
                    rename World => wx
                    obtain ⟨j, hj6, rfl, HBx⟩ := hrel
                    have HJx : Hid (JdS w h5 b c E O l wx) := HJ6.out.on HBx.out
                    have HNx : Hid (JdS W4 h8 b2 c2 E2 O2 l2 wx) := HN6.out.on HBx.out
                    have HRx : Hid (Below wr.heap.size wr wx) := below_step HBW6.out (Nat.le_refl _) HBx.out
                    clear HJ6 HN6 HBW6
                    by_cases hj : j < 6
                    · have w0 : (j : Int) < 6 := by omega
                      have wj : IntKind.i64.wrap ((j : Int) + 1) = (j : Int) + 1 := by rw [IntKind.wrap_i64]; omega
                      have hmo := HRI.out.more j hj
                      have hc0 := HRI.out.c0 j hj
                      simp only at hmo hc0
                      have m1 := (mm_cell HNx.out.mm j hj).2.1
                      have n1 := (mm_cell HJx.out.mm j hj).2.1
                      obtain ⟨cj, hcj⟩ : ∃ cj, (mmL l j).2.1 = cj := ⟨_, rfl⟩
                      rw [hcj] at hmo hc0 n1
                      rw [hmo] at m1
                      have t1 : wx.cell? ⟨h8, 1, none⟩ = some (.slice (some ⟨b2, 0, none⟩) 6 c2) := HNx.out.gg.cell 1
                      have t2 : wx.cell? ⟨h5, 1, none⟩ = some (.slice (some ⟨b, 0, none⟩) 6 c) := HJx.out.gg.cell 1
                      have r1 := (HC16.out wx HRx.out).2.1
                      clear hcj hmo
                      by_cases hf : (j : Int) + 1 = R.2.1
                      · rw [if_pos hf] at m1
                        have wd : IntKind.i64.wrap (cj + 1 - cj) = 1 := by rw [IntKind.wrap_i64]; omega
                        have q1 : ((j : Int) + 1 == R.2.1) = true := by rw [beq_iff_eq]; exact hf
                        clear hf hc0
                        go_wp2_with fail
                        go_quiet (fail)
                        go_wp2_with fail
                        refine ⟨⟨j + 1, by omega, by go_num, below_drewN HBx.out _⟩, ?_⟩
                        simp [intOf]; omega
                      · rw [if_neg hf, Int.add_zero] at m1
                        have wd : IntKind.i64.wrap (cj - cj) = 0 := by rw [IntKind.wrap_i64]; omega
                        have q1 : ((j : Int) + 1 == R.2.1) = false := by rw [beq_eq_false_iff_ne]; exact hf
                        clear hf hc0
                        go_wp2_with fail
                        go_quiet (fail)
                        go_wp2_with fail
                        refine ⟨⟨j + 1, by omega, by go_num, below_drewN HBx.out _⟩, ?_⟩
                        simp [intOf]; omega
                    · obtain rfl : j = 6 := by omega
                      have w0 : ¬ (((6 : Nat) : Int) < 6) := by decide
                      have HS22 : Hid (∀ W, Below wx.heap.size wx W → (W.cell? ⟨h8, 0, none⟩ = some (.int .i64 E2) ∧ W.cell? ⟨h8, 1, none⟩ = some (.slice (some ⟨b2, 0, none⟩) 6 c2) ∧ W.cell? ⟨h8, 2, none⟩ = some (.int .i64 O2)) ∧ (W.cell? ⟨lb, off + k * 16, none⟩ = some (.int .i64 R.1) ∧ W.cell? ⟨lb, off + k * 16 + 14, none⟩ = some (.int .i64 R.2.2.2.2.2.2.1))) := fun W hW => ⟨⟨(HNx.out.on hW).gg.cell 0, (HNx.out.on hW).gg.cell 1, (HNx.out.on hW).gg.cell 2⟩, (HC16.out W (below_step HRx.out (Nat.le_refl _) hW)).1, (HC16.out W (below_step HRx.out (Nat.le_refl _) hW)).2.2.2.2.2.2.2.2.2.2.2.2.2.2.1⟩
                      have CIq : Hid (∀ (who : Int) (z : Bool), inB l2 who = z → ∀ W, Below wx.heap.size wx W → Calls Tryd.prog 8 #[.agg #[.int .i64 E2, .slice (some ⟨b2, 0, none⟩) 6 c2, .int .i64 O2], .int .i64 who] W fun e w' => e = .returned (.bool z) ∧ Below W.heap.size W w') := fun who z hz W hW => by
                        have := in6_any E2 O2 l2 b2 0 c2 who W HNx.out.mm.1 (HNx.out.on hW).mm.at
                        rw [hz] at this
                        exact this
                      clear hj hj6 HBx
                      go_upto_region 22 with fail
                      go_cut [196] (fun v wy => v = .bool false ∧ Hid (Below wx.heap.size wx wy))
                      case first => as_aux_lemma =>
                        have hV0 : Below wx.heap.size wx wx.drew := (Below.refl _ _).drew
                        have hS0 := HS22.out _ hV0
                        cases cn with
                        | true =>
                          by_cases k2 : R.1 = 2
                          · have q2 : (R.1 == 2) = true := by rw [beq_iff_eq]; exact k2
                            have q3 : (R.1 == 3) = false := by rw [beq_eq_false_iff_ne]; omega
                            refine wp_region_noPanic ?_
                            refine wp_region_held_drew (S := fun W => (W.cell? ⟨h8, 0, none⟩ = some (.int .i64 E2) ∧ W.cell? ⟨h8, 1, none⟩ = some (.slice (some ⟨b2, 0, none⟩) 6 c2) ∧ W.cell? ⟨h8, 2, none⟩ = some (.int .i64 O2)) ∧ (W.cell? ⟨lb, off + k * 16, none⟩ = some (.int .i64 R.1) ∧ W.cell? ⟨lb, off + k * 16 + 14, none⟩ = some (.int .i64 R.2.2.2.2.2.2.1))) (by kernel_rfl) (by first | exact trivial | assumption | exact ⟨by assumption, by assumption⟩) (fun hHeld => ?_)
                            refine take_at (i := 0) (v := ?_) rfl rfl (by kernel_rfl) (by kernel_rfl) (by kernel_rfl) (fun _ _ _ h => h) (Or.inl ⟨by rfl, ?_⟩) (by assumption) ?_
                            rotate_left
                            · intro w hSw; (try dsimp only at hSw); go_simp; try with_reducible rfl
                            try simp only [Act.put, List.setIfInBounds_toArray, List.set_cons_zero, List.set_cons_succ]
                            refine take_at (i := 1) (v := ?_) rfl rfl (by kernel_rfl) (by kernel_rfl) (by kernel_rfl) (fun _ _ _ h => h) (Or.inl ⟨by rfl, ?_⟩) (by assumption) ?_
                            rotate_left
                            · intro w hSw; (try dsimp only at hSw); go_simp; try with_reducible rfl
                            try simp only [Act.put, List.setIfInBounds_toArray, List.set_cons_zero, List.set_cons_succ]
                            refine take_at (i := 2) (v := ?_) rfl rfl (by kernel_rfl) (by kernel_rfl) (by kernel_rfl) (fun _ _ _ h => h) (Or.inl ⟨by rfl, ?_⟩) (by assumption) ?_
                            rotate_left
                            · intro w hSw; (try dsimp only at hSw); go_simp; try with_reducible rfl
                            try simp only [Act.put, List.setIfInBounds_toArray, List.set_cons_zero, List.set_cons_succ]
                            refine take_at (i := 3) (v := ?_) rfl rfl (by kernel_rfl) (by kernel_rfl) (by kernel_rfl) (fun _ _ _ h => h) (Or.inl ⟨by rfl, ?_⟩) (by assumption) ?_
                            rotate_left
                            · intro w hSw; (try dsimp only at hSw); go_simp; try with_reducible rfl
                            try simp only [Act.put, List.setIfInBounds_toArray, List.set_cons_zero, List.set_cons_succ]
                            refine take_at (i := 4) (v := ?_) rfl rfl (by kernel_rfl) (by kernel_rfl) (by kernel_rfl) (fun _ _ _ h => h) (Or.inl ⟨by rfl, ?_⟩) (by assumption) ?_
                            rotate_left
                            · intro w hSw; (try dsimp only at hSw); go_simp; try with_reducible rfl
                            try simp only [Act.put, List.setIfInBounds_toArray, List.set_cons_zero, List.set_cons_succ]
                            refine take_at (i := 5) (v := ?_) rfl rfl (by kernel_rfl) (by kernel_rfl) (by kernel_rfl) (fun _ _ _ h => h) (Or.inl ⟨by rfl, ?_⟩) (by assumption) ?_
                            rotate_left
                            · intro w hSw; (try dsimp only at hSw); go_simp; try with_reducible rfl
                            try simp only [Act.put, List.setIfInBounds_toArray, List.set_cons_zero, List.set_cons_succ]
                            refine take_at (i := 6) (v := ?_) rfl rfl (by kernel_rfl) (by kernel_rfl) (by kernel_rfl) (fun _ _ _ h => h) (Or.inl ⟨by rfl, ?_⟩) (by assumption) ?_
                            rotate_left
                            · intro w hSw; (try dsimp only at hSw); go_simp; try with_reducible rfl
                            try simp only [Act.put, List.setIfInBounds_toArray, List.set_cons_zero, List.set_cons_succ]
                            refine take_at (i := 7) (v := ?_) rfl rfl (by kernel_rfl) (by kernel_rfl) (by kernel_rfl) (fun _ _ _ h => h) (Or.inl ⟨by rfl, ?_⟩) (by assumption) ?_
                            rotate_left
                            · intro w hSw; (try dsimp only at hSw); go_simp; try with_reducible rfl
                            try simp only [Act.put, List.setIfInBounds_toArray, List.set_cons_zero, List.set_cons_succ]
                            refine take_at (i := 8) (v := ?_) rfl rfl (by kernel_rfl) (by kernel_rfl) (by kernel_rfl) (fun _ _ _ h => h) (Or.inl ⟨by rfl, ?_⟩) (by assumption) ?_
                            rotate_left
                            · intro w hSw; (try dsimp only at hSw); go_simp; try with_reducible rfl
                            try simp only [Act.put, List.setIfInBounds_toArray, List.set_cons_zero, List.set_cons_succ]
                            refine take_at (i := 9) (v := ?_) rfl rfl (by kernel_rfl) (by kernel_rfl) (by kernel_rfl) (fun _ _ _ h => h) (Or.inl ⟨by rfl, ?_⟩) (by assumption) ?_
                            rotate_left
                            · intro w hSw; (try dsimp only at hSw); go_simp; try with_reducible rfl
                            try simp only [Act.put, List.setIfInBounds_toArray, List.set_cons_zero, List.set_cons_succ]
                            refine take_at (i := 10) (v := ?_) rfl rfl (by kernel_rfl) (by kernel_rfl) (by kernel_rfl) (fun _ _ _ h => h) (Or.inl ⟨by rfl, ?_⟩) (by assumption) ?_
                            rotate_left
                            · intro w hSw; (try dsimp only at hSw); go_simp; try with_reducible rfl
                            try simp only [Act.put, List.setIfInBounds_toArray, List.set_cons_zero, List.set_cons_succ]
                            refine take_at (i := 11) (v := ?_) rfl rfl (by kernel_rfl) (by kernel_rfl) (by kernel_rfl) (fun _ _ _ h => h) (Or.inl ⟨by rfl, ?_⟩) (by assumption) ?_
                            rotate_left
                            · intro w hSw; (try dsimp only at hSw); go_simp; try with_reducible rfl
                            try simp only [Act.put, List.setIfInBounds_toArray, List.set_cons_zero, List.set_cons_succ]
                            refine take_at (i := 12) (v := ?_) rfl rfl (by kernel_rfl) (by kernel_rfl) (by kernel_rfl) (fun _ _ _ h => h) (Or.inl ⟨by rfl, ?_⟩) (by assumption) ?_
                            rotate_left
                            · intro w hSw; (try dsimp only at hSw); go_simp; try with_reducible rfl
                            try simp only [Act.put, List.setIfInBounds_toArray, List.set_cons_zero, List.set_cons_succ]
                            refine take_at (i := 13) (v := ?_) rfl rfl (by kernel_rfl) (by kernel_rfl) (by kernel_rfl) (fun _ _ _ h => h) (Or.inl ⟨by rfl, ?_⟩) (by assumption) ?_
                            rotate_left
                            · intro w hSw; (try dsimp only at hSw); go_simp; try with_reducible rfl
                            try simp only [Act.put, List.setIfInBounds_toArray, List.set_cons_zero, List.set_cons_succ]
                            refine take_at (i := 14) (v := ?_) rfl rfl (by kernel_rfl) (by kernel_rfl) (by kernel_rfl) (fun _ _ _ h => h) (Or.inl ⟨by rfl, ?_⟩) (by assumption) ?_
                            rotate_left
                            · intro w hSw; (try dsimp only at hSw); go_simp; try with_reducible rfl
                            try simp only [Act.put, List.setIfInBounds_toArray, List.set_cons_zero, List.set_cons_succ]
                            refine take_at (i := 15) (v := ?_) rfl rfl (by kernel_rfl) (by kernel_rfl) (by kernel_rfl) (fun _ _ _ h => h) (Or.inl ⟨by rfl, ?_⟩) (by assumption) ?_
                            rotate_left
                            · intro w hSw; (try dsimp only at hSw); go_simp; try with_reducible rfl
                            try simp only [Act.put, List.setIfInBounds_toArray, List.set_cons_zero, List.set_cons_succ]
                            clear hS0
                            refine wpAnyH_ready (rs := [16]) (by kernel_rfl) (by simp) ?_
                            refine AllReadyH.cons rfl (fun K hK => ?_) AllReadyH.nil
                            go_simp
                            refine (CIq.out _ true (HRI.out.add rfl k2) _ hV0).mono ?_
                            rintro e V1 ⟨rfl, hb1⟩
                            have HV1 : Hid (Below wx.heap.size wx V1) := below_step hV0 (Nat.le_refl _) hb1
                            clear hb1
                            refine hK.out _ _ (HS22.out _ HV1.out) (fun hHeld => ?_)
                            clear hK K
                            refine take_at (i := 17) (v := ?_) rfl rfl (by kernel_rfl) (by kernel_rfl) (by kernel_rfl) (fun _ _ _ h => h) (Or.inl ⟨by rfl, ?_⟩) (by assumption) ?_
                            rotate_left
                            · intro w hSw; (try dsimp only at hSw); go_simp; try with_reducible rfl
                            try simp only [Act.put, List.setIfInBounds_toArray, List.set_cons_zero, List.set_cons_succ]
                            refine take_at (i := 18) (v := ?_) rfl rfl (by kernel_rfl) (by kernel_rfl) (by kernel_rfl) (fun _ _ _ h => h) (Or.inl ⟨by rfl, ?_⟩) (by assumption) ?_
                            rotate_left
                            · intro w hSw; (try dsimp only at hSw); go_simp; try with_reducible rfl
                            try simp only [Act.put, List.setIfInBounds_toArray, List.set_cons_zero, List.set_cons_succ]
                            refine take_at (i := 19) (v := ?_) rfl rfl (by kernel_rfl) (by kernel_rfl) (by kernel_rfl) (fun _ _ _ h => h) (Or.inl ⟨by rfl, ?_⟩) (by assumption) ?_
                            rotate_left
                            · intro w hSw; (try dsimp only at hSw); go_simp; try with_reducible rfl
                            try simp only [Act.put, List.setIfInBounds_toArray, List.set_cons_zero, List.set_cons_succ]
                            refine take_at (i := 20) (v := ?_) rfl rfl (by kernel_rfl) (by kernel_rfl) (by kernel_rfl) (fun _ _ _ h => h) (Or.inl ⟨by rfl, ?_⟩) (by assumption) ?_
                            rotate_left
                            · intro w hSw; (try dsimp only at hSw); go_simp; try with_reducible rfl
                            try simp only [Act.put, List.setIfInBounds_toArray, List.set_cons_zero, List.set_cons_succ]
                            refine take_at (i := 21) (v := ?_) rfl rfl (by kernel_rfl) (by kernel_rfl) (by kernel_rfl) (fun _ _ _ h => h) (Or.inl ⟨by rfl, ?_⟩) (by assumption) ?_
                            rotate_left
                            · intro w hSw; (try dsimp only at hSw); go_simp; try with_reducible rfl
                            try simp only [Act.put, List.setIfInBounds_toArray, List.set_cons_zero, List.set_cons_succ]
                            refine take_at (i := 22) (v := ?_) rfl rfl (by kernel_rfl) (by kernel_rfl) (by kernel_rfl) (fun _ _ _ h => h) (Or.inl ⟨by rfl, ?_⟩) (by assumption) ?_
                            rotate_left
                            · intro w hSw; (try dsimp only at hSw); go_simp; try with_reducible rfl
                            try simp only [Act.put, List.setIfInBounds_toArray, List.set_cons_zero, List.set_cons_succ]
                            refine take_at (i := 23) (v := ?_) rfl rfl (by kernel_rfl) (by kernel_rfl) (by kernel_rfl) (fun _ _ _ h => h) (Or.inl ⟨by rfl, ?_⟩) (by assumption) ?_
                            rotate_left
                            · intro w hSw; (try dsimp only at hSw); go_simp; try with_reducible rfl
                            try simp only [Act.put, List.setIfInBounds_toArray, List.set_cons_zero, List.set_cons_succ]
                            refine take_at (i := 24) (v := ?_) rfl rfl (by kernel_rfl) (by kernel_rfl) (by kernel_rfl) (fun _ _ _ h => h) (Or.inl ⟨by rfl, ?_⟩) (by assumption) ?_
                            rotate_left
                            · intro w hSw; (try dsimp only at hSw); go_simp; try with_reducible rfl
                            try simp only [Act.put, List.setIfInBounds_toArray, List.set_cons_zero, List.set_cons_succ]
                            refine take_at (i := 25) (v := ?_) rfl rfl (by kernel_rfl) (by kernel_rfl) (by kernel_rfl) (fun _ _ _ h => h) (Or.inl ⟨by rfl, ?_⟩) (by assumption) ?_
                            rotate_left
                            · intro w hSw; (try dsimp only at hSw); go_simp; try with_reducible rfl
                            try simp only [Act.put, List.setIfInBounds_toArray, List.set_cons_zero, List.set_cons_succ]
                            refine take_at (i := 26) (v := ?_) rfl rfl (by kernel_rfl) (by kernel_rfl) (by kernel_rfl) (fun _ _ _ h => h) (Or.inl ⟨by rfl, ?_⟩) (by assumption) ?_
                            rotate_left
                            · intro w hSw; (try dsimp only at hSw); go_simp; try with_reducible rfl
                            try simp only [Act.put, List.setIfInBounds_toArray, List.set_cons_zero, List.set_cons_succ]
                            refine take_at (i := 27) (v := ?_) rfl rfl (by kernel_rfl) (by kernel_rfl) (by kernel_rfl) (fun _ _ _ h => h) (Or.inl ⟨by rfl, ?_⟩) (by assumption) ?_
                            rotate_left
                            · intro w hSw; (try dsimp only at hSw); go_simp; try with_reducible rfl
                            try simp only [Act.put, List.setIfInBounds_toArray, List.set_cons_zero, List.set_cons_succ]
                            refine take_at (i := 28) (v := ?_) rfl rfl (by kernel_rfl) (by kernel_rfl) (by kernel_rfl) (fun _ _ _ h => h) (Or.inl ⟨by rfl, ?_⟩) (by assumption) ?_
                            rotate_left
                            · intro w hSw; (try dsimp only at hSw); go_simp; try with_reducible rfl
                            try simp only [Act.put, List.setIfInBounds_toArray, List.set_cons_zero, List.set_cons_succ]
                            refine take_at (i := 29) (v := ?_) rfl rfl (by kernel_rfl) (by kernel_rfl) (by kernel_rfl) (fun _ _ _ h => h) (Or.inl ⟨by rfl, ?_⟩) (by assumption) ?_
                            rotate_left
                            · intro w hSw; (try dsimp only at hSw); go_simp; try with_reducible rfl
                            try simp only [Act.put, List.setIfInBounds_toArray, List.set_cons_zero, List.set_cons_succ]
                            refine take_at (i := 30) (v := undef) rfl rfl (by kernel_rfl) (by kernel_rfl) (by kernel_rfl) (fun _ _ _ h => h) (Or.inr ⟨by rfl, rfl⟩) (by assumption) ?_
                            try simp only [Act.put, List.setIfInBounds_toArray, List.set_cons_zero, List.set_cons_succ]
                            refine take_at (i := 31) (v := undef) rfl rfl (by kernel_rfl) (by kernel_rfl) (by kernel_rfl) (fun _ _ _ h => h) (Or.inr ⟨by rfl, rfl⟩) (by assumption) ?_
                            try simp only [Act.put, List.setIfInBounds_toArray, List.set_cons_zero, List.set_cons_succ]
                            refine take_at (i := 32) (v := undef) rfl rfl (by kernel_rfl) (by kernel_rfl) (by kernel_rfl) (fun _ _ _ h => h) (Or.inr ⟨by rfl, rfl⟩) (by assumption) ?_
                            try simp only [Act.put, List.setIfInBounds_toArray, List.set_cons_zero, List.set_cons_succ]
                            refine take_at (i := 33) (v := undef) rfl rfl (by kernel_rfl) (by kernel_rfl) (by kernel_rfl) (fun _ _ _ h => h) (Or.inr ⟨by rfl, rfl⟩) (by assumption) ?_
                            try simp only [Act.put, List.setIfInBounds_toArray, List.set_cons_zero, List.set_cons_succ]
                            refine take_at (i := 34) (v := undef) rfl rfl (by kernel_rfl) (by kernel_rfl) (by kernel_rfl) (fun _ _ _ h => h) (Or.inr ⟨by rfl, rfl⟩) (by assumption) ?_
                            try simp only [Act.put, List.setIfInBounds_toArray, List.set_cons_zero, List.set_cons_succ]
                            refine take_at (i := 35) (v := undef) rfl rfl (by kernel_rfl) (by kernel_rfl) (by kernel_rfl) (fun _ _ _ h => h) (Or.inr ⟨by rfl, rfl⟩) (by assumption) ?_
                            try simp only [Act.put, List.setIfInBounds_toArray, List.set_cons_zero, List.set_cons_succ]
                            refine take_at (i := 36) (v := undef) rfl rfl (by kernel_rfl) (by kernel_rfl) (by kernel_rfl) (fun _ _ _ h => h) (Or.inr ⟨by rfl, rfl⟩) (by assumption) ?_
                            try simp only [Act.put, List.setIfInBounds_toArray, List.set_cons_zero, List.set_cons_succ]
                            refine take_at (i := 37) (v := ?_) rfl rfl (by kernel_rfl) (by kernel_rfl) (by kernel_rfl) (fun _ _ _ h => h) (Or.inl ⟨by rfl, ?_⟩) (by assumption) ?_
                            rotate_left
                            · intro w hSw; (try dsimp only at hSw); go_simp; try with_reducible rfl
                            try simp only [Act.put, List.setIfInBounds_toArray, List.set_cons_zero, List.set_cons_succ]
                            refine take_at (i := 38) (v := ?_) rfl rfl (by kernel_rfl) (by kernel_rfl) (by kernel_rfl) (fun _ _ _ h => h) (Or.inl ⟨by rfl, ?_⟩) (by assumption) ?_
                            rotate_left
                            · intro w hSw; (try dsimp only at hSw); go_simp; try with_reducible rfl
                            try simp only [Act.put, List.setIfInBounds_toArray, List.set_cons_zero, List.set_cons_succ]
                            refine take_at (i := 39) (v := ?_) rfl rfl (by kernel_rfl) (by kernel_rfl) (by kernel_rfl) (fun _ _ _ h => h) (Or.inl ⟨by rfl, ?_⟩) (by assumption) ?_
                            rotate_left
                            · intro w hSw; (try dsimp only at hSw); go_simp; try with_reducible rfl
                            try simp only [Act.put, List.setIfInBounds_toArray, List.set_cons_zero, List.set_cons_succ]
                            refine take_at (i := 40) (v := ?_) rfl rfl (by kernel_rfl) (by kernel_rfl) (by kernel_rfl) (fun _ _ _ h => h) (Or.inl ⟨by rfl, ?_⟩) (by assumption) ?_
                            rotate_left
                            · intro w hSw; (try dsimp only at hSw); go_simp; try with_reducible rfl
                            try simp only [Act.put, List.setIfInBounds_toArray, List.set_cons_zero, List.set_cons_succ]
                            refine wpAnyH_ready (rs := [41]) (by kernel_rfl) (by simp) ?_
                            refine AllReadyH.cons rfl (fun K hK => ?_) AllReadyH.nil
                            go_simp
                            refine (CIq.out 1 true HRI.out.one _ HV1.out).mono ?_
                            rintro e V2 ⟨rfl, hb2⟩
                            have HV2 : Hid (Below wx.heap.size wx V2) := below_step HV1.out (Nat.le_refl _) hb2
                            clear hb2
                            refine hK.out _ _ (HS22.out _ HV2.out) (fun hHeld => ?_)
                            clear hK K
                            refine take_at (i := 42) (v := ?_) rfl rfl (by kernel_rfl) (by kernel_rfl) (by kernel_rfl) (fun _ _ _ h => h) (Or.inl ⟨by rfl, ?_⟩) (by assumption) ?_
                            rotate_left
                            · intro w hSw; (try dsimp only at hSw); go_simp; try with_reducible rfl
                            try simp only [Act.put, List.setIfInBounds_toArray, List.set_cons_zero, List.set_cons_succ]
                            refine take_at (i := 43) (v := ?_) rfl rfl (by kernel_rfl) (by kernel_rfl) (by kernel_rfl) (fun _ _ _ h => h) (Or.inl ⟨by rfl, ?_⟩) (by assumption) ?_
                            rotate_left
                            · intro w hSw; (try dsimp only at hSw); go_simp; try with_reducible rfl
                            try simp only [Act.put, List.setIfInBounds_toArray, List.set_cons_zero, List.set_cons_succ]
                            refine wpAnyH_done (by kernel_rfl) (NoPanic.normal ?_) _
                            go_wp2_with fail
                            go_meet
                            case rel => exact ⟨rfl, HV2⟩
                          · have q2 : (R.1 == 2) = false := by rw [beq_eq_false_iff_ne]; exact k2
                            by_cases k3 : R.1 = 3
                            · have q3 : (R.1 == 3) = true := by rw [beq_iff_eq]; exact k3
                              refine wp_region_noPanic ?_
                              refine wp_region_held_drew (S := fun W => (W.cell? ⟨h8, 0, none⟩ = some (.int .i64 E2) ∧ W.cell? ⟨h8, 1, none⟩ = some (.slice (some ⟨b2, 0, none⟩) 6 c2) ∧ W.cell? ⟨h8, 2, none⟩ = some (.int .i64 O2)) ∧ (W.cell? ⟨lb, off + k * 16, none⟩ = some (.int .i64 R.1) ∧ W.cell? ⟨lb, off + k * 16 + 14, none⟩ = some (.int .i64 R.2.2.2.2.2.2.1))) (by kernel_rfl) (by first | exact trivial | assumption | exact ⟨by assumption, by assumption⟩) (fun hHeld => ?_)
                              refine take_at (i := 0) (v := ?_) rfl rfl (by kernel_rfl) (by kernel_rfl) (by kernel_rfl) (fun _ _ _ h => h) (Or.inl ⟨by rfl, ?_⟩) (by assumption) ?_
                              rotate_left
                              · intro w hSw; (try dsimp only at hSw); go_simp; try with_reducible rfl
                              try simp only [Act.put, List.setIfInBounds_toArray, List.set_cons_zero, List.set_cons_succ]
                              refine take_at (i := 1) (v := ?_) rfl rfl (by kernel_rfl) (by kernel_rfl) (by kernel_rfl) (fun _ _ _ h => h) (Or.inl ⟨by rfl, ?_⟩) (by assumption) ?_
                              rotate_left
                              · intro w hSw; (try dsimp only at hSw); go_simp; try with_reducible rfl
                              try simp only [Act.put, List.setIfInBounds_toArray, List.set_cons_zero, List.set_cons_succ]
                              refine take_at (i := 2) (v := ?_) rfl rfl (by kernel_rfl) (by kernel_rfl) (by kernel_rfl) (fun _ _ _ h => h) (Or.inl ⟨by rfl, ?_⟩) (by assumption) ?_
                              rotate_left
                              · intro w hSw; (try dsimp only at hSw); go_simp; try with_reducible rfl
                              try simp only [Act.put, List.setIfInBounds_toArray, List.set_cons_zero, List.set_cons_succ]
                              refine take_at (i := 3) (v := ?_) rfl rfl (by kernel_rfl) (by kernel_rfl) (by kernel_rfl) (fun _ _ _ h => h) (Or.inl ⟨by rfl, ?_⟩) (by assumption) ?_
                              rotate_left
                              · intro w hSw; (try dsimp only at hSw); go_simp; try with_reducible rfl
                              try simp only [Act.put, List.setIfInBounds_toArray, List.set_cons_zero, List.set_cons_succ]
                              refine take_at (i := 4) (v := ?_) rfl rfl (by kernel_rfl) (by kernel_rfl) (by kernel_rfl) (fun _ _ _ h => h) (Or.inl ⟨by rfl, ?_⟩) (by assumption) ?_
                              rotate_left
                              · intro w hSw; (try dsimp only at hSw); go_simp; try with_reducible rfl
                              try simp only [Act.put, List.setIfInBounds_toArray, List.set_cons_zero, List.set_cons_succ]
                              refine take_at (i := 5) (v := ?_) rfl rfl (by kernel_rfl) (by kernel_rfl) (by kernel_rfl) (fun _ _ _ h => h) (Or.inl ⟨by rfl, ?_⟩) (by assumption) ?_
                              rotate_left
                              · intro w hSw; (try dsimp only at hSw); go_simp; try with_reducible rfl
                              try simp only [Act.put, List.setIfInBounds_toArray, List.set_cons_zero, List.set_cons_succ]
                              refine take_at (i := 6) (v := ?_) rfl rfl (by kernel_rfl) (by kernel_rfl) (by kernel_rfl) (fun _ _ _ h => h) (Or.inl ⟨by rfl, ?_⟩) (by assumption) ?_
                              rotate_left
                              · intro w hSw; (try dsimp only at hSw); go_simp; try with_reducible rfl
                              try simp only [Act.put, List.setIfInBounds_toArray, List.set_cons_zero, List.set_cons_succ]
                              refine take_at (i := 7) (v := ?_) rfl rfl (by kernel_rfl) (by kernel_rfl) (by kernel_rfl) (fun _ _ _ h => h) (Or.inl ⟨by rfl, ?_⟩) (by assumption) ?_
                              rotate_left
                              · intro w hSw; (try dsimp only at hSw); go_simp; try with_reducible rfl
                              try simp only [Act.put, List.setIfInBounds_toArray, List.set_cons_zero, List.set_cons_succ]
                              refine take_at (i := 8) (v := ?_) rfl rfl (by kernel_rfl) (by kernel_rfl) (by kernel_rfl) (fun _ _ _ h => h) (Or.inl ⟨by rfl, ?_⟩) (by assumption) ?_
                              rotate_left
                              · intro w hSw; (try dsimp only at hSw); go_simp; try with_reducible rfl
                              try simp only [Act.put, List.setIfInBounds_toArray, List.set_cons_zero, List.set_cons_succ]
                              refine take_at (i := 9) (v := ?_) rfl rfl (by kernel_rfl) (by kernel_rfl) (by kernel_rfl) (fun _ _ _ h => h) (Or.inl ⟨by rfl, ?_⟩) (by assumption) ?_
                              rotate_left
                              · intro w hSw; (try dsimp only at hSw); go_simp; try with_reducible rfl
                              try simp only [Act.put, List.setIfInBounds_toArray, List.set_cons_zero, List.set_cons_succ]
                              refine take_at (i := 10) (v := undef) rfl rfl (by kernel_rfl) (by kernel_rfl) (by kernel_rfl) (fun _ _ _ h => h) (Or.inr ⟨by rfl, rfl⟩) (by assumption) ?_
                              try simp only [Act.put, List.setIfInBounds_toArray, List.set_cons_zero, List.set_cons_succ]
                              refine take_at (i := 11) (v := undef) rfl rfl (by kernel_rfl) (by kernel_rfl) (by kernel_rfl) (fun _ _ _ h => h) (Or.inr ⟨by rfl, rfl⟩) (by assumption) ?_
                              try simp only [Act.put, List.setIfInBounds_toArray, List.set_cons_zero, List.set_cons_succ]
                              refine take_at (i := 12) (v := undef) rfl rfl (by kernel_rfl) (by kernel_rfl) (by kernel_rfl) (fun _ _ _ h => h) (Or.inr ⟨by rfl, rfl⟩) (by assumption) ?_
                              try simp only [Act.put, List.setIfInBounds_toArray, List.set_cons_zero, List.set_cons_succ]
                              refine take_at (i := 13) (v := undef) rfl rfl (by kernel_rfl) (by kernel_rfl) (by kernel_rfl) (fun _ _ _ h => h) (Or.inr ⟨by rfl, rfl⟩) (by assumption) ?_
                              try simp only [Act.put, List.setIfInBounds_toArray, List.set_cons_zero, List.set_cons_succ]
                              refine take_at (i := 14) (v := undef) rfl rfl (by kernel_rfl) (by kernel_rfl) (by kernel_rfl) (fun _ _ _ h => h) (Or.inr ⟨by rfl, rfl⟩) (by assumption) ?_
                              try simp only [Act.put, List.setIfInBounds_toArray, List.set_cons_zero, List.set_cons_succ]
                              refine take_at (i := 15) (v := undef) rfl rfl (by kernel_rfl) (by kernel_rfl) (by kernel_rfl) (fun _ _ _ h => h) (Or.inr ⟨by rfl, rfl⟩) (by assumption) ?_
                              try simp only [Act.put, List.setIfInBounds_toArray, List.set_cons_zero, List.set_cons_succ]
                              refine take_at (i := 16) (v := undef) rfl rfl (by kernel_rfl) (by kernel_rfl) (by kernel_rfl) (fun _ _ _ h => h) (Or.inr ⟨by rfl, rfl⟩) (by assumption) ?_
                              try simp only [Act.put, List.setIfInBounds_toArray, List.set_cons_zero, List.set_cons_succ]
                              refine take_at (i := 17) (v := undef) rfl rfl (by kernel_rfl) (by kernel_rfl) (by kernel_rfl) (fun _ _ _ h => h) (Or.inr ⟨by rfl, rfl⟩) (by assumption) ?_
                              try simp only [Act.put, List.setIfInBounds_toArray, List.set_cons_zero, List.set_cons_succ]
                              refine take_at (i := 18) (v := ?_) rfl rfl (by kernel_rfl) (by kernel_rfl) (by kernel_rfl) (fun _ _ _ h => h) (Or.inl ⟨by rfl, ?_⟩) (by assumption) ?_
                              rotate_left
                              · intro w hSw; (try dsimp only at hSw); go_simp; try with_reducible rfl
                              try simp only [Act.put, List.setIfInBounds_toArray, List.set_cons_zero, List.set_cons_succ]
                              refine take_at (i := 19) (v := ?_) rfl rfl (by kernel_rfl) (by kernel_rfl) (by kernel_rfl) (fun _ _ _ h => h) (Or.inl ⟨by rfl, ?_⟩) (by assumption) ?_
                              rotate_left
                              · intro w hSw; (try dsimp only at hSw); go_simp; try with_reducible rfl
                              try simp only [Act.put, List.setIfInBounds_toArray, List.set_cons_zero, List.set_cons_succ]
                              refine take_at (i := 20) (v := ?_) rfl rfl (by kernel_rfl) (by kernel_rfl) (by kernel_rfl) (fun _ _ _ h => h) (Or.inl ⟨by rfl, ?_⟩) (by assumption) ?_
                              rotate_left
                              · intro w hSw; (try dsimp only at hSw); go_simp; try with_reducible rfl
                              try simp only [Act.put, List.setIfInBounds_toArray, List.set_cons_zero, List.set_cons_succ]
                              refine take_at (i := 21) (v := ?_) rfl rfl (by kernel_rfl) (by kernel_rfl) (by kernel_rfl) (fun _ _ _ h => h) (Or.inl ⟨by rfl, ?_⟩) (by assumption) ?_
                              rotate_left
                              · intro w hSw; (try dsimp only at hSw); go_simp; try with_reducible rfl
                              try simp only [Act.put, List.setIfInBounds_toArray, List.set_cons_zero, List.set_cons_succ]
                              refine take_at (i := 22) (v := ?_) rfl rfl (by kernel_rfl) (by kernel_rfl) (by kernel_rfl) (fun _ _ _ h => h) (Or.inl ⟨by rfl, ?_⟩) (by assumption) ?_
                              rotate_left
                              · intro w hSw; (try dsimp only at hSw); go_simp; try with_reducible rfl
                              try simp only [Act.put, List.setIfInBounds_toArray, List.set_cons_zero, List.set_cons_succ]
                              refine take_at (i := 23) (v := ?_) rfl rfl (by kernel_rfl) (by kernel_rfl) (by kernel_rfl) (fun _ _ _ h => h) (Or.inl ⟨by rfl, ?_⟩) (by assumption) ?_
                              rotate_left
                              · intro w hSw; (try dsimp only at hSw); go_simp; try with_reducible rfl
                              try simp only [Act.put, List.setIfInBounds_toArray, List.set_cons_zero, List.set_cons_succ]
                              refine take_at (i := 24) (v := ?_) rfl rfl (by kernel_rfl) (by kernel_rfl) (by kernel_rfl) (fun _ _ _ h => h) (Or.inl ⟨by rfl, ?_⟩) (by assumption) ?_
                              rotate_left
                              · intro w hSw; (try dsimp only at hSw); go_simp; try with_reducible rfl
                              try simp only [Act.put, List.setIfInBounds_toArray, List.set_cons_zero, List.set_cons_succ]
                              refine take_at (i := 25) (v := ?_) rfl rfl (by kernel_rfl) (by kernel_rfl) (by kernel_rfl) (fun _ _ _ h => h) (Or.inl ⟨by rfl, ?_⟩) (by assumption) ?_
                              rotate_left
                              · intro w hSw; (try dsimp only at hSw); go_simp; try with_reducible rfl
                              try simp only [Act.put, List.setIfInBounds_toArray, List.set_cons_zero, List.set_cons_succ]
                              refine take_at (i := 26) (v := ?_) rfl rfl (by kernel_rfl) (by kernel_rfl) (by kernel_rfl) (fun _ _ _ h => h) (Or.inl ⟨by rfl, ?_⟩) (by assumption) ?_
                              rotate_left
                              · intro w hSw; (try dsimp only at hSw); go_simp; try with_reducible rfl
                              try simp only [Act.put, List.setIfInBounds_toArray, List.set_cons_zero, List.set_cons_succ]
                              refine take_at (i := 27) (v := ?_) rfl rfl (by kernel_rfl) (by kernel_rfl) (by kernel_rfl) (fun _ _ _ h => h) (Or.inl ⟨by rfl, ?_⟩) (by assumption) ?_
                              rotate_left
                              · intro w hSw; (try dsimp only at hSw); go_simp; try with_reducible rfl
                              try simp only [Act.put, List.setIfInBounds_toArray, List.set_cons_zero, List.set_cons_succ]
                              refine take_at (i := 28) (v := ?_) rfl rfl (by kernel_rfl) (by kernel_rfl) (by kernel_rfl) (fun _ _ _ h => h) (Or.inl ⟨by rfl, ?_⟩) (by assumption) ?_
                              rotate_left
                              · intro w hSw; (try dsimp only at hSw); go_simp; try with_reducible rfl
                              try simp only [Act.put, List.setIfInBounds_toArray, List.set_cons_zero, List.set_cons_succ]
                              refine take_at (i := 29) (v := ?_) rfl rfl (by kernel_rfl) (by kernel_rfl) (by kernel_rfl) (fun _ _ _ h => h) (Or.inl ⟨by rfl, ?_⟩) (by assumption) ?_
                              rotate_left
                              · intro w hSw; (try dsimp only at hSw); go_simp; try with_reducible rfl
                              try simp only [Act.put, List.setIfInBounds_toArray, List.set_cons_zero, List.set_cons_succ]
                              refine take_at (i := 30) (v := ?_) rfl rfl (by kernel_rfl) (by kernel_rfl) (by kernel_rfl) (fun _ _ _ h => h) (Or.inl ⟨by rfl, ?_⟩) (by assumption) ?_
                              rotate_left
                              · intro w hSw; (try dsimp only at hSw); go_simp; try with_reducible rfl
                              try simp only [Act.put, List.setIfInBounds_toArray, List.set_cons_zero, List.set_cons_succ]
                              refine take_at (i := 31) (v := ?_) rfl rfl (by kernel_rfl) (by kernel_rfl) (by kernel_rfl) (fun _ _ _ h => h) (Or.inl ⟨by rfl, ?_⟩) (by assumption) ?_
                              rotate_left
                              · intro w hSw; (try dsimp only at hSw); go_simp; try with_reducible rfl
                              try simp only [Act.put, List.setIfInBounds_toArray, List.set_cons_zero, List.set_cons_succ]
                              refine take_at (i := 32) (v := ?_) rfl rfl (by kernel_rfl) (by kernel_rfl) (by kernel_rfl) (fun _ _ _ h => h) (Or.inl ⟨by rfl, ?_⟩) (by assumption) ?_
                              rotate_left
                              · intro w hSw; (try dsimp only at hSw); go_simp; try with_reducible rfl
                              try simp only [Act.put, List.setIfInBounds_toArray, List.set_cons_zero, List.set_cons_succ]
                              refine take_at (i := 33) (v := ?_) rfl rfl (by kernel_rfl) (by kernel_rfl) (by kernel_rfl) (fun _ _ _ h => h) (Or.inl ⟨by rfl, ?_⟩) (by assumption) ?_
                              rotate_left
                              · intro w hSw; (try dsimp only at hSw); go_simp; try with_reducible rfl
                              try simp only [Act.put, List.setIfInBounds_toArray, List.set_cons_zero, List.set_cons_succ]
                              refine take_at (i := 34) (v := ?_) rfl rfl (by kernel_rfl) (by kernel_rfl) (by kernel_rfl) (fun _ _ _ h => h) (Or.inl ⟨by rfl, ?_⟩) (by assumption) ?_
                              rotate_left
                              · intro w hSw; (try dsimp only at hSw); go_simp; try with_reducible rfl
                              try simp only [Act.put, List.setIfInBounds_toArray, List.set_cons_zero, List.set_cons_succ]
                              refine take_at (i := 35) (v := ?_) rfl rfl (by kernel_rfl) (by kernel_rfl) (by kernel_rfl) (fun _ _ _ h => h) (Or.inl ⟨by rfl, ?_⟩) (by assumption) ?_
                              rotate_left
                              · intro w hSw; (try dsimp only at hSw); go_simp; try with_reducible rfl
                              try simp only [Act.put, List.setIfInBounds_toArray, List.set_cons_zero, List.set_cons_succ]
                              clear hS0
                              refine wpAnyH_ready (rs := [36]) (by kernel_rfl) (by simp) ?_
                              refine AllReadyH.cons rfl (fun K hK => ?_) AllReadyH.nil
                              go_simp
                              refine (CIq.out _ false (HRI.out.rem rfl k3) _ hV0).mono ?_
                              rintro e V1 ⟨rfl, hb1⟩
                              have HV1 : Hid (Below wx.heap.size wx V1) := below_step hV0 (Nat.le_refl _) hb1
                              clear hb1
                              refine hK.out _ _ (HS22.out _ HV1.out) (fun hHeld => ?_)
                              clear hK K
                              refine take_at (i := 37) (v := ?_) rfl rfl (by kernel_rfl) (by kernel_rfl) (by kernel_rfl) (fun _ _ _ h => h) (Or.inl ⟨by rfl, ?_⟩) (by assumption) ?_
                              rotate_left
                              · intro w hSw; (try dsimp only at hSw); go_simp; try with_reducible rfl
                              try simp only [Act.put, List.setIfInBounds_toArray, List.set_cons_zero, List.set_cons_succ]
                              refine take_at (i := 38) (v := ?_) rfl rfl (by kernel_rfl) (by kernel_rfl) (by kernel_rfl) (fun _ _ _ h => h) (Or.inl ⟨by rfl, ?_⟩) (by assumption) ?_
                              rotate_left
                              · intro w hSw; (try dsimp only at hSw); go_simp; try with_reducible rfl
                              try simp only [Act.put, List.setIfInBounds_toArray, List.set_cons_zero, List.set_cons_succ]
                              refine take_at (i := 39) (v := ?_) rfl rfl (by kernel_rfl) (by kernel_rfl) (by kernel_rfl) (fun _ _ _ h => h) (Or.inl ⟨by rfl, ?_⟩) (by assumption) ?_
                              rotate_left
                              · intro w hSw; (try dsimp only at hSw); go_simp; try with_reducible rfl
                              try simp only [Act.put, List.setIfInBounds_toArray, List.set_cons_zero, List.set_cons_succ]
                              refine take_at (i := 40) (v := ?_) rfl rfl (by kernel_rfl) (by kernel_rfl) (by kernel_rfl) (fun _ _ _ h => h) (Or.inl ⟨by rfl, ?_⟩) (by assumption) ?_
                              rotate_left
                              · intro w hSw; (try dsimp only at hSw); go_simp; try with_reducible rfl
                              try simp only [Act.put, List.setIfInBounds_toArray, List.set_cons_zero, List.set_cons_succ]
                              refine wpAnyH_ready (rs := [41]) (by kernel_rfl) (by simp) ?_
                              refine AllReadyH.cons rfl (fun K hK => ?_) AllReadyH.nil
                              go_simp
                              refine (CIq.out 1 true HRI.out.one _ HV1.out).mono ?_
                              rintro e V2 ⟨rfl, hb2⟩
                              have HV2 : Hid (Below wx.heap.size wx V2) := below_step HV1.out (Nat.le_refl _) hb2
                              clear hb2
                              refine hK.out _ _ (HS22.out _ HV2.out) (fun hHeld => ?_)
                              clear hK K
                              refine take_at (i := 42) (v := ?_) rfl rfl (by kernel_rfl) (by kernel_rfl) (by kernel_rfl) (fun _ _ _ h => h) (Or.inl ⟨by rfl, ?_⟩) (by assumption) ?_
                              rotate_left
                              · intro w hSw; (try dsimp only at hSw); go_simp; try with_reducible rfl
                              try simp only [Act.put, List.setIfInBounds_toArray, List.set_cons_zero, List.set_cons_succ]
                              refine take_at (i := 43) (v := ?_) rfl rfl (by kernel_rfl) (by kernel_rfl) (by kernel_rfl) (fun _ _ _ h => h) (Or.inl ⟨by rfl, ?_⟩) (by assumption) ?_
                              rotate_left
                              · intro w hSw; (try dsimp only at hSw); go_simp; try with_reducible rfl
                              try simp only [Act.put, List.setIfInBounds_toArray, List.set_cons_zero, List.set_cons_succ]
                              refine wpAnyH_done (by kernel_rfl) (NoPanic.normal ?_) _
                              go_wp2_with fail
                              go_meet
                              case rel => exact ⟨rfl, HV2⟩
                            · have q3 : (R.1 == 3) = false := by rw [beq_eq_false_iff_ne]; exact k3
                              refine wp_region_noPanic ?_
                              refine wp_region_held_drew (S := fun W => (W.cell? ⟨h8, 0, none⟩ = some (.int .i64 E2) ∧ W.cell? ⟨h8, 1, none⟩ = some (.slice (some ⟨b2, 0, none⟩) 6 c2) ∧ W.cell? ⟨h8, 2, none⟩ = some (.int .i64 O2)) ∧ (W.cell? ⟨lb, off + k * 16, none⟩ = some (.int .i64 R.1) ∧ W.cell? ⟨lb, off + k * 16 + 14, none⟩ = some (.int .i64 R.2.2.2.2.2.2.1))) (by kernel_rfl) (by first | exact trivial | assumption | exact ⟨by assumption, by assumption⟩) (fun hHeld => ?_)
                              refine take_at (i := 0) (v := ?_) rfl rfl (by kernel_rfl) (by kernel_rfl) (by kernel_rfl) (fun _ _ _ h => h) (Or.inl ⟨by rfl, ?_⟩) (by assumption) ?_
                              rotate_left
                              · intro w hSw; (try dsimp only at hSw); go_simp; try with_reducible rfl
                              try simp only [Act.put, List.setIfInBounds_toArray, List.set_cons_zero, List.set_cons_succ]
                              refine take_at (i := 1) (v := ?_) rfl rfl (by kernel_rfl) (by kernel_rfl) (by kernel_rfl) (fun _ _ _ h => h) (Or.inl ⟨by rfl, ?_⟩) (by assumption) ?_
                              rotate_left
                              · intro w hSw; (try dsimp only at hSw); go_simp; try with_reducible rfl
                              try simp only [Act.put, List.setIfInBounds_toArray, List.set_cons_zero, List.set_cons_succ]
                              refine take_at (i := 2) (v := ?_) rfl rfl (by kernel_rfl) (by kernel_rfl) (by kernel_rfl) (fun _ _ _ h => h) (Or.inl ⟨by rfl, ?_⟩) (by assumption) ?_
                              rotate_left
                              · intro w hSw; (try dsimp only at hSw); go_simp; try with_reducible rfl
                              try simp only [Act.put, List.setIfInBounds_toArray, List.set_cons_zero, List.set_cons_succ]
                              refine take_at (i := 3) (v := ?_) rfl rfl (by kernel_rfl) (by kernel_rfl) (by kernel_rfl) (fun _ _ _ h => h) (Or.inl ⟨by rfl, ?_⟩) (by assumption) ?_
                              rotate_left
                              · intro w hSw; (try dsimp only at hSw); go_simp; try with_reducible rfl
                              try simp only [Act.put, List.setIfInBounds_toArray, List.set_cons_zero, List.set_cons_succ]
                              refine take_at (i := 4) (v := ?_) rfl rfl (by kernel_rfl) (by kernel_rfl) (by kernel_rfl) (fun _ _ _ h => h) (Or.inl ⟨by rfl, ?_⟩) (by assumption) ?_
                              rotate_left
                              · intro w hSw; (try dsimp only at hSw); go_simp; try with_reducible rfl
                              try simp only [Act.put, List.setIfInBounds_toArray, List.set_cons_zero, List.set_cons_succ]
                              refine take_at (i := 5) (v := ?_) rfl rfl (by kernel_rfl) (by kernel_rfl) (by kernel_rfl) (fun _ _ _ h => h) (Or.inl ⟨by rfl, ?_⟩) (by assumption) ?_
                              rotate_left
                              · intro w hSw; (try dsimp only at hSw); go_simp; try with_reducible rfl
                              try simp only [Act.put, List.setIfInBounds_toArray, List.set_cons_zero, List.set_cons_succ]
                              refine take_at (i := 6) (v := ?_) rfl rfl (by kernel_rfl) (by kernel_rfl) (by kernel_rfl) (fun _ _ _ h => h) (Or.inl ⟨by rfl, ?_⟩) (by assumption) ?_
                              rotate_left
                              · intro w hSw; (try dsimp only at hSw); go_simp; try with_reducible rfl
                              try simp only [Act.put, List.setIfInBounds_toArray, List.set_cons_zero, List.set_cons_succ]
                              refine take_at (i := 7) (v := ?_) rfl rfl (by kernel_rfl) (by kernel_rfl) (by kernel_rfl) (fun _ _ _ h => h) (Or.inl ⟨by rfl, ?_⟩) (by assumption) ?_
                              rotate_left
                              · intro w hSw; (try dsimp only at hSw); go_simp; try with_reducible rfl
                              try simp only [Act.put, List.setIfInBounds_toArray, List.set_cons_zero, List.set_cons_succ]
                              refine take_at (i := 8) (v := ?_) rfl rfl (by kernel_rfl) (by kernel_rfl) (by kernel_rfl) (fun _ _ _ h => h) (Or.inl ⟨by rfl, ?_⟩) (by assumption) ?_
                              rotate_left
                              · intro w hSw; (try dsimp only at hSw); go_simp; try with_reducible rfl
                              try simp only [Act.put, List.setIfInBounds_toArray, List.set_cons_zero, List.set_cons_succ]
                              refine take_at (i := 9) (v := ?_) rfl rfl (by kernel_rfl) (by kernel_rfl) (by kernel_rfl) (fun _ _ _ h => h) (Or.inl ⟨by rfl, ?_⟩) (by assumption) ?_
                              rotate_left
                              · intro w hSw; (try dsimp only at hSw); go_simp; try with_reducible rfl
                              try simp only [Act.put, List.setIfInBounds_toArray, List.set_cons_zero, List.set_cons_succ]
                              refine take_at (i := 10) (v := undef) rfl rfl (by kernel_rfl) (by kernel_rfl) (by kernel_rfl) (fun _ _ _ h => h) (Or.inr ⟨by rfl, rfl⟩) (by assumption) ?_
                              try simp only [Act.put, List.setIfInBounds_toArray, List.set_cons_zero, List.set_cons_succ]
                              refine take_at (i := 11) (v := undef) rfl rfl (by kernel_rfl) (by kernel_rfl) (by kernel_rfl) (fun _ _ _ h => h) (Or.inr ⟨by rfl, rfl⟩) (by assumption) ?_
                              try simp only [Act.put, List.setIfInBounds_toArray, List.set_cons_zero, List.set_cons_succ]
                              refine take_at (i := 12) (v := undef) rfl rfl (by kernel_rfl) (by kernel_rfl) (by kernel_rfl) (fun _ _ _ h => h) (Or.inr ⟨by rfl, rfl⟩) (by assumption) ?_
                              try simp only [Act.put, List.setIfInBounds_toArray, List.set_cons_zero, List.set_cons_succ]
                              refine take_at (i := 13) (v := undef) rfl rfl (by kernel_rfl) (by kernel_rfl) (by kernel_rfl) (fun _ _ _ h => h) (Or.inr ⟨by rfl, rfl⟩) (by assumption) ?_
                              try simp only [Act.put, List.setIfInBounds_toArray, List.set_cons_zero, List.set_cons_succ]
                              refine take_at (i := 14) (v := undef) rfl rfl (by kernel_rfl) (by kernel_rfl) (by kernel_rfl) (fun _ _ _ h => h) (Or.inr ⟨by rfl, rfl⟩) (by assumption) ?_
                              try simp only [Act.put, List.setIfInBounds_toArray, List.set_cons_zero, List.set_cons_succ]
                              refine take_at (i := 15) (v := undef) rfl rfl (by kernel_rfl) (by kernel_rfl) (by kernel_rfl) (fun _ _ _ h => h) (Or.inr ⟨by rfl, rfl⟩) (by assumption) ?_
                              try simp only [Act.put, List.setIfInBounds_toArray, List.set_cons_zero, List.set_cons_succ]
                              refine take_at (i := 16) (v := undef) rfl rfl (by kernel_rfl) (by kernel_rfl) (by kernel_rfl) (fun _ _ _ h => h) (Or.inr ⟨by rfl, rfl⟩) (by assumption) ?_
                              try simp only [Act.put, List.setIfInBounds_toArray, List.set_cons_zero, List.set_cons_succ]
                              refine take_at (i := 17) (v := undef) rfl rfl (by kernel_rfl) (by kernel_rfl) (by kernel_rfl) (fun _ _ _ h => h) (Or.inr ⟨by rfl, rfl⟩) (by assumption) ?_
                              try simp only [Act.put, List.setIfInBounds_toArray, List.set_cons_zero, List.set_cons_succ]
                              refine take_at (i := 18) (v := ?_) rfl rfl (by kernel_rfl) (by kernel_rfl) (by kernel_rfl) (fun _ _ _ h => h) (Or.inl ⟨by rfl, ?_⟩) (by assumption) ?_
                              rotate_left
                              · intro w hSw; (try dsimp only at hSw); go_simp; try with_reducible rfl
                              try simp only [Act.put, List.setIfInBounds_toArray, List.set_cons_zero, List.set_cons_succ]
                              refine take_at (i := 19) (v := ?_) rfl rfl (by kernel_rfl) (by kernel_rfl) (by kernel_rfl) (fun _ _ _ h => h) (Or.inl ⟨by rfl, ?_⟩) (by assumption) ?_
                              rotate_left
                              · intro w hSw; (try dsimp only at hSw); go_simp; try with_reducible rfl
                              try simp only [Act.put, List.setIfInBounds_toArray, List.set_cons_zero, List.set_cons_succ]
                              refine take_at (i := 20) (v := ?_) rfl rfl (by kernel_rfl) (by kernel_rfl) (by kernel_rfl) (fun _ _ _ h => h) (Or.inl ⟨by rfl, ?_⟩) (by assumption) ?_
                              rotate_left
                              · intro w hSw; (try dsimp only at hSw); go_simp; try with_reducible rfl
                              try simp only [Act.put, List.setIfInBounds_toArray, List.set_cons_zero, List.set_cons_succ]
                              refine take_at (i := 21) (v := ?_) rfl rfl (by kernel_rfl) (by kernel_rfl) (by kernel_rfl) (fun _ _ _ h => h) (Or.inl ⟨by rfl, ?_⟩) (by assumption) ?_
                              rotate_left
                              · intro w hSw; (try dsimp only at hSw); go_simp; try with_reducible rfl
                              try simp only [Act.put, List.setIfInBounds_toArray, List.set_cons_zero, List.set_cons_succ]
                              refine take_at (i := 22) (v := ?_) rfl rfl (by kernel_rfl) (by kernel_rfl) (by kernel_rfl) (fun _ _ _ h => h) (Or.inl ⟨by rfl, ?_⟩) (by assumption) ?_
                              rotate_left
                              · intro w hSw; (try dsimp only at hSw); go_simp; try with_reducible rfl
                              try simp only [Act.put, List.setIfInBounds_toArray, List.set_cons_zero, List.set_cons_succ]
                              refine take_at (i := 23) (v := ?_) rfl rfl (by kernel_rfl) (by kernel_rfl) (by kernel_rfl) (fun _ _ _ h => h) (Or.inl ⟨by rfl, ?_⟩) (by assumption) ?_
                              rotate_left
                              · intro w hSw; (try dsimp only at hSw); go_simp; try with_reducible rfl
                              try simp only [Act.put, List.setIfInBounds_toArray, List.set_cons_zero, List.set_cons_succ]
                              refine take_at (i := 24) (v := ?_) rfl rfl (by kernel_rfl) (by kernel_rfl) (by kernel_rfl) (fun _ _ _ h => h) (Or.inl ⟨by rfl, ?_⟩) (by assumption) ?_
                              rotate_left
                              · intro w hSw; (try dsimp only at hSw); go_simp; try with_reducible rfl
                              try simp only [Act.put, List.setIfInBounds_toArray, List.set_cons_zero, List.set_cons_succ]
                              refine take_at (i := 25) (v := ?_) rfl rfl (by kernel_rfl) (by kernel_rfl) (by kernel_rfl) (fun _ _ _ h => h) (Or.inl ⟨by rfl, ?_⟩) (by assumption) ?_
                              rotate_left
                              · intro w hSw; (try dsimp only at hSw); go_simp; try with_reducible rfl
                              try simp only [Act.put, List.setIfInBounds_toArray, List.set_cons_zero, List.set_cons_succ]
                              refine take_at (i := 26) (v := ?_) rfl rfl (by kernel_rfl) (by kernel_rfl) (by kernel_rfl) (fun _ _ _ h => h) (Or.inl ⟨by rfl, ?_⟩) (by assumption) ?_
                              rotate_left
                              · intro w hSw; (try dsimp only at hSw); go_simp; try with_reducible rfl
                              try simp only [Act.put, List.setIfInBounds_toArray, List.set_cons_zero, List.set_cons_succ]
                              refine take_at (i := 27) (v := ?_) rfl rfl (by kernel_rfl) (by kernel_rfl) (by kernel_rfl) (fun _ _ _ h => h) (Or.inl ⟨by rfl, ?_⟩) (by assumption) ?_
                              rotate_left
                              · intro w hSw; (try dsimp only at hSw); go_simp; try with_reducible rfl
                              try simp only [Act.put, List.setIfInBounds_toArray, List.set_cons_zero, List.set_cons_succ]
                              refine take_at (i := 28) (v := ?_) rfl rfl (by kernel_rfl) (by kernel_rfl) (by kernel_rfl) (fun _ _ _ h => h) (Or.inl ⟨by rfl, ?_⟩) (by assumption) ?_
                              rotate_left
                              · intro w hSw; (try dsimp only at hSw); go_simp; try with_reducible rfl
                              try simp only [Act.put, List.setIfInBounds_toArray, List.set_cons_zero, List.set_cons_succ]
                              refine take_at (i := 29) (v := ?_) rfl rfl (by kernel_rfl) (by kernel_rfl) (by kernel_rfl) (fun _ _ _ h => h) (Or.inl ⟨by rfl, ?_⟩) (by assumption) ?_
                              rotate_left
                              · intro w hSw; (try dsimp only at hSw); go_simp; try with_reducible rfl
                              try simp only [Act.put, List.setIfInBounds_toArray, List.set_cons_zero, List.set_cons_succ]
                              refine take_at (i := 30) (v := undef) rfl rfl (by kernel_rfl) (by kernel_rfl) (by kernel_rfl) (fun _ _ _ h => h) (Or.inr ⟨by rfl, rfl⟩) (by assumption) ?_
                              try simp only [Act.put, List.setIfInBounds_toArray, List.set_cons_zero, List.set_cons_succ]
                              refine take_at (i := 31) (v := undef) rfl rfl (by kernel_rfl) (by kernel_rfl) (by kernel_rfl) (fun _ _ _ h => h) (Or.inr ⟨by rfl, rfl⟩) (by assumption) ?_
                              try simp only [Act.put, List.setIfInBounds_toArray, List.set_cons_zero, List.set_cons_succ]
                              refine take_at (i := 32) (v := undef) rfl rfl (by kernel_rfl) (by kernel_rfl) (by kernel_rfl) (fun _ _ _ h => h) (Or.inr ⟨by rfl, rfl⟩) (by assumption) ?_
                              try simp only [Act.put, List.setIfInBounds_toArray, List.set_cons_zero, List.set_cons_succ]
                              refine take_at (i := 33) (v := undef) rfl rfl (by kernel_rfl) (by kernel_rfl) (by kernel_rfl) (fun _ _ _ h => h) (Or.inr ⟨by rfl, rfl⟩) (by assumption) ?_
                              try simp only [Act.put, List.setIfInBounds_toArray, List.set_cons_zero, List.set_cons_succ]
                              refine take_at (i := 34) (v := undef) rfl rfl (by kernel_rfl) (by kernel_rfl) (by kernel_rfl) (fun _ _ _ h => h) (Or.inr ⟨by rfl, rfl⟩) (by assumption) ?_
                              try simp only [Act.put, List.setIfInBounds_toArray, List.set_cons_zero, List.set_cons_succ]
                              refine take_at (i := 35) (v := undef) rfl rfl (by kernel_rfl) (by kernel_rfl) (by kernel_rfl) (fun _ _ _ h => h) (Or.inr ⟨by rfl, rfl⟩) (by assumption) ?_
                              try simp only [Act.put, List.setIfInBounds_toArray, List.set_cons_zero, List.set_cons_succ]
                              refine take_at (i := 36) (v := undef) rfl rfl (by kernel_rfl) (by kernel_rfl) (by kernel_rfl) (fun _ _ _ h => h) (Or.inr ⟨by rfl, rfl⟩) (by assumption) ?_
                              try simp only [Act.put, List.setIfInBounds_toArray, List.set_cons_zero, List.set_cons_succ]
                              refine take_at (i := 37) (v := ?_) rfl rfl (by kernel_rfl) (by kernel_rfl) (by kernel_rfl) (fun _ _ _ h => h) (Or.inl ⟨by rfl, ?_⟩) (by assumption) ?_
                              rotate_left
                              · intro w hSw; (try dsimp only at hSw); go_simp; try with_reducible rfl
                              try simp only [Act.put, List.setIfInBounds_toArray, List.set_cons_zero, List.set_cons_succ]
                              refine take_at (i := 38) (v := ?_) rfl rfl (by kernel_rfl) (by kernel_rfl) (by kernel_rfl) (fun _ _ _ h => h) (Or.inl ⟨by rfl, ?_⟩) (by assumption) ?_
                              rotate_left
                              · intro w hSw; (try dsimp only at hSw); go_simp; try with_reducible rfl
                              try simp only [Act.put, List.setIfInBounds_toArray, List.set_cons_zero, List.set_cons_succ]
                              refine take_at (i := 39) (v := ?_) rfl rfl (by kernel_rfl) (by kernel_rfl) (by kernel_rfl) (fun _ _ _ h => h) (Or.inl ⟨by rfl, ?_⟩) (by assumption) ?_
                              rotate_left
                              · intro w hSw; (try dsimp only at hSw); go_simp; try with_reducible rfl
                              try simp only [Act.put, List.setIfInBounds_toArray, List.set_cons_zero, List.set_cons_succ]
                              refine take_at (i := 40) (v := ?_) rfl rfl (by kernel_rfl) (by kernel_rfl) (by kernel_rfl) (fun _ _ _ h => h) (Or.inl ⟨by rfl, ?_⟩) (by assumption) ?_
                              rotate_left
                              · intro w hSw; (try dsimp only at hSw); go_simp; try with_reducible rfl
                              try simp only [Act.put, List.setIfInBounds_toArray, List.set_cons_zero, List.set_cons_succ]
                              clear hS0
                              have HV1 : Hid (Below wx.heap.size wx wx.drew) := hV0
                              refine wpAnyH_ready (rs := [41]) (by kernel_rfl) (by simp) ?_
                              refine AllReadyH.cons rfl (fun K hK => ?_) AllReadyH.nil
                              go_simp
                              refine (CIq.out 1 true HRI.out.one _ HV1.out).mono ?_
                              rintro e V2 ⟨rfl, hb2⟩
                              have HV2 : Hid (Below wx.heap.size wx V2) := below_step HV1.out (Nat.le_refl _) hb2
                              clear hb2
                              refine hK.out _ _ (HS22.out _ HV2.out) (fun hHeld => ?_)
                              clear hK K
                              refine take_at (i := 42) (v := ?_) rfl rfl (by kernel_rfl) (by kernel_rfl) (by kernel_rfl) (fun _ _ _ h => h) (Or.inl ⟨by rfl, ?_⟩) (by assumption) ?_
                              rotate_left
                              · intro w hSw; (try dsimp only at hSw); go_simp; try with_reducible rfl
                              try simp only [Act.put, List.setIfInBounds_toArray, List.set_cons_zero, List.set_cons_succ]
                              refine take_at (i := 43) (v := ?_) rfl rfl (by kernel_rfl) (by kernel_rfl) (by kernel_rfl) (fun _ _ _ h => h) (Or.inl ⟨by rfl, ?_⟩) (by assumption) ?_
                              rotate_left
                              · intro w hSw; (try dsimp only at hSw); go_simp; try with_reducible rfl
                              try simp only [Act.put, List.setIfInBounds_toArray, List.set_cons_zero, List.set_cons_succ]
                              refine wpAnyH_done (by kernel_rfl) (NoPanic.normal ?_) _
                              go_wp2_with fail
                              go_meet
                              case rel => exact ⟨rfl, HV2⟩
                        | false =>
                          refine wp_region_noPanic ?_
                          refine wp_region_held_drew (S := fun W => (W.cell? ⟨h8, 0, none⟩ = some (.int .i64 E2) ∧ W.cell? ⟨h8, 1, none⟩ = some (.slice (some ⟨b2, 0, none⟩) 6 c2) ∧ W.cell? ⟨h8, 2, none⟩ = some (.int .i64 O2)) ∧ (W.cell? ⟨lb, off + k * 16, none⟩ = some (.int .i64 R.1) ∧ W.cell? ⟨lb, off + k * 16 + 14, none⟩ = some (.int .i64 R.2.2.2.2.2.2.1))) (by kernel_rfl) (by first | exact trivial | assumption | exact ⟨by assumption, by assumption⟩) (fun hHeld => ?_)
                          refine take_at (i := 0) (v := ?_) rfl rfl (by kernel_rfl) (by kernel_rfl) (by kernel_rfl) (fun _ _ _ h => h) (Or.inl ⟨by rfl, ?_⟩) (by assumption) ?_
                          rotate_left
                          · intro w hSw; (try dsimp only at hSw); go_simp; try with_reducible rfl
                          try simp only [Act.put, List.setIfInBounds_toArray, List.set_cons_zero, List.set_cons_succ]
                          refine take_at (i := 1) (v := ?_) rfl rfl (by kernel_rfl) (by kernel_rfl) (by kernel_rfl) (fun _ _ _ h => h) (Or.inl ⟨by rfl, ?_⟩) (by assumption) ?_
                          rotate_left
                          · intro w hSw; (try dsimp only at hSw); go_simp; try with_reducible rfl
                          try simp only [Act.put, List.setIfInBounds_toArray, List.set_cons_zero, List.set_cons_succ]
                          refine take_at (i := 2) (v := undef) rfl rfl (by kernel_rfl) (by kernel_rfl) (by kernel_rfl) (fun _ _ _ h => h) (Or.inr ⟨by rfl, rfl⟩) (by assumption) ?_
                          try simp only [Act.put, List.setIfInBounds_toArray, List.set_cons_zero, List.set_cons_succ]
                          refine take_at (i := 3) (v := undef) rfl rfl (by kernel_rfl) (by kernel_rfl) (by kernel_rfl) (fun _ _ _ h => h) (Or.inr ⟨by rfl, rfl⟩) (by assumption) ?_
                          try simp only [Act.put, List.setIfInBounds_toArray, List.set_cons_zero, List.set_cons_succ]
                          refine take_at (i := 4) (v := undef) rfl rfl (by kernel_rfl) (by kernel_rfl) (by kernel_rfl) (fun _ _ _ h => h) (Or.inr ⟨by rfl, rfl⟩) (by assumption) ?_
                          try simp only [Act.put, List.setIfInBounds_toArray, List.set_cons_zero, List.set_cons_succ]
                          refine take_at (i := 5) (v := undef) rfl rfl (by kernel_rfl) (by kernel_rfl) (by kernel_rfl) (fun _ _ _ h => h) (Or.inr ⟨by rfl, rfl⟩) (by assumption) ?_
                          try simp only [Act.put, List.setIfInBounds_toArray, List.set_cons_zero, List.set_cons_succ]
                          refine take_at (i := 6) (v := undef) rfl rfl (by kernel_rfl) (by kernel_rfl) (by kernel_rfl) (fun _ _ _ h => h) (Or.inr ⟨by rfl, rfl⟩) (by assumption) ?_
                          try simp only [Act.put, List.setIfInBounds_toArray, List.set_cons_zero, List.set_cons_succ]
                          refine take_at (i := 7) (v := undef) rfl rfl (by kernel_rfl) (by kernel_rfl) (by kernel_rfl) (fun _ _ _ h => h) (Or.inr ⟨by rfl, rfl⟩) (by assumption) ?_
                          try simp only [Act.put, List.setIfInBounds_toArray, List.set_cons_zero, List.set_cons_succ]
                          refine take_at (i := 8) (v := ?_) rfl rfl (by kernel_rfl) (by kernel_rfl) (by kernel_rfl) (fun _ _ _ h => h) (Or.inl ⟨by rfl, ?_⟩) (by assumption) ?_
                          rotate_left
                          · intro w hSw; (try dsimp only at hSw); go_simp; try with_reducible rfl
                          try simp only [Act.put, List.setIfInBounds_toArray, List.set_cons_zero, List.set_cons_succ]
                          refine take_at (i := 9) (v := ?_) rfl rfl (by kernel_rfl) (by kernel_rfl) (by kernel_rfl) (fun _ _ _ h => h) (Or.inl ⟨by rfl, ?_⟩) (by assumption) ?_
                          rotate_left
                          · intro w hSw; (try dsimp only at hSw); go_simp; try with_reducible rfl
                          try simp only [Act.put, List.setIfInBounds_toArray, List.set_cons_zero, List.set_cons_succ]
                          refine take_at (i := 10) (v := undef) rfl rfl (by kernel_rfl) (by kernel_rfl) (by kernel_rfl) (fun _ _ _ h => h) (Or.inr ⟨by rfl, rfl⟩) (by assumption) ?_
                          try simp only [Act.put, List.setIfInBounds_toArray, List.set_cons_zero, List.set_cons_succ]
                          refine take_at (i := 11) (v := undef) rfl rfl (by kernel_rfl) (by kernel_rfl) (by kernel_rfl) (fun _ _ _ h => h) (Or.inr ⟨by rfl, rfl⟩) (by assumption) ?_
                          try simp only [Act.put, List.setIfInBounds_toArray, List.set_cons_zero, List.set_cons_succ]
                          refine take_at (i := 12) (v := undef) rfl rfl (by kernel_rfl) (by kernel_rfl) (by kernel_rfl) (fun _ _ _ h => h) (Or.inr ⟨by rfl, rfl⟩) (by assumption) ?_
                          try simp only [Act.put, List.setIfInBounds_toArray, List.set_cons_zero, List.set_cons_succ]
                          refine take_at (i := 13) (v := undef) rfl rfl (by kernel_rfl) (by kernel_rfl) (by kernel_rfl) (fun _ _ _ h => h) (Or.inr ⟨by rfl, rfl⟩) (by assumption) ?_
                          try simp only [Act.put, List.setIfInBounds_toArray, List.set_cons_zero, List.set_cons_succ]
                          refine take_at (i := 14) (v := undef) rfl rfl (by kernel_rfl) (by kernel_rfl) (by kernel_rfl) (fun _ _ _ h => h) (Or.inr ⟨by rfl, rfl⟩) (by assumption) ?_
                          try simp only [Act.put, List.setIfInBounds_toArray, List.set_cons_zero, List.set_cons_succ]
                          refine take_at (i := 15) (v := undef) rfl rfl (by kernel_rfl) (by kernel_rfl) (by kernel_rfl) (fun _ _ _ h => h) (Or.inr ⟨by rfl, rfl⟩) (by assumption) ?_
                          try simp only [Act.put, List.setIfInBounds_toArray, List.set_cons_zero, List.set_cons_succ]
                          refine take_at (i := 16) (v := undef) rfl rfl (by kernel_rfl) (by kernel_rfl) (by kernel_rfl) (fun _ _ _ h => h) (Or.inr ⟨by rfl, rfl⟩) (by assumption) ?_
                          try simp only [Act.put, List.setIfInBounds_toArray, List.set_cons_zero, List.set_cons_succ]
                          refine take_at (i := 17) (v := undef) rfl rfl (by kernel_rfl) (by kernel_rfl) (by kernel_rfl) (fun _ _ _ h => h) (Or.inr ⟨by rfl, rfl⟩) (by assumption) ?_
                          try simp only [Act.put, List.setIfInBounds_toArray, List.set_cons_zero, List.set_cons_succ]
                          refine take_at (i := 18) (v := ?_) rfl rfl (by kernel_rfl) (by kernel_rfl) (by kernel_rfl) (fun _ _ _ h => h) (Or.inl ⟨by rfl, ?_⟩) (by assumption) ?_
                          rotate_left
                          · intro w hSw; (try dsimp only at hSw); go_simp; try with_reducible rfl
                          try simp only [Act.put, List.setIfInBounds_toArray, List.set_cons_zero, List.set_cons_succ]
                          refine take_at (i := 19) (v := ?_) rfl rfl (by kernel_rfl) (by kernel_rfl) (by kernel_rfl) (fun _ _ _ h => h) (Or.inl ⟨by rfl, ?_⟩) (by assumption) ?_
                          rotate_left
                          · intro w hSw; (try dsimp only at hSw); go_simp; try with_reducible rfl
                          try simp only [Act.put, List.setIfInBounds_toArray, List.set_cons_zero, List.set_cons_succ]
                          refine take_at (i := 20) (v := ?_) rfl rfl (by kernel_rfl) (by kernel_rfl) (by kernel_rfl) (fun _ _ _ h => h) (Or.inl ⟨by rfl, ?_⟩) (by assumption) ?_
                          rotate_left
                          · intro w hSw; (try dsimp only at hSw); go_simp; try with_reducible rfl
                          try simp only [Act.put, List.setIfInBounds_toArray, List.set_cons_zero, List.set_cons_succ]
                          refine take_at (i := 21) (v := ?_) rfl rfl (by kernel_rfl) (by kernel_rfl) (by kernel_rfl) (fun _ _ _ h => h) (Or.inl ⟨by rfl, ?_⟩) (by assumption) ?_
                          rotate_left
                          · intro w hSw; (try dsimp only at hSw); go_simp; try with_reducible rfl
                          try simp only [Act.put, List.setIfInBounds_toArray, List.set_cons_zero, List.set_cons_succ]
                          refine take_at (i := 22) (v := undef) rfl rfl (by kernel_rfl) (by kernel_rfl) (by kernel_rfl) (fun _ _ _ h => h) (Or.inr ⟨by rfl, rfl⟩) (by assumption) ?_
                          try simp only [Act.put, List.setIfInBounds_toArray, List.set_cons_zero, List.set_cons_succ]
                          refine take_at (i := 23) (v := undef) rfl rfl (by kernel_rfl) (by kernel_rfl) (by kernel_rfl) (fun _ _ _ h => h) (Or.inr ⟨by rfl, rfl⟩) (by assumption) ?_
                          try simp only [Act.put, List.setIfInBounds_toArray, List.set_cons_zero, List.set_cons_succ]
                          refine take_at (i := 24) (v := undef) rfl rfl (by kernel_rfl) (by kernel_rfl) (by kernel_rfl) (fun _ _ _ h => h) (Or.inr ⟨by rfl, rfl⟩) (by assumption) ?_
                          try simp only [Act.put, List.setIfInBounds_toArray, List.set_cons_zero, List.set_cons_succ]
                          refine take_at (i := 25) (v := undef) rfl rfl (by kernel_rfl) (by kernel_rfl) (by kernel_rfl) (fun _ _ _ h => h) (Or.inr ⟨by rfl, rfl⟩) (by assumption) ?_
                          try simp only [Act.put, List.setIfInBounds_toArray, List.set_cons_zero, List.set_cons_succ]
                          refine take_at (i := 26) (v := undef) rfl rfl (by kernel_rfl) (by kernel_rfl) (by kernel_rfl) (fun _ _ _ h => h) (Or.inr ⟨by rfl, rfl⟩) (by assumption) ?_
                          try simp only [Act.put, List.setIfInBounds_toArray, List.set_cons_zero, List.set_cons_succ]
                          refine take_at (i := 27) (v := undef) rfl rfl (by kernel_rfl) (by kernel_rfl) (by kernel_rfl) (fun _ _ _ h => h) (Or.inr ⟨by rfl, rfl⟩) (by assumption) ?_
                          try simp only [Act.put, List.setIfInBounds_toArray, List.set_cons_zero, List.set_cons_succ]
                          refine take_at (i := 28) (v := ?_) rfl rfl (by kernel_rfl) (by kernel_rfl) (by kernel_rfl) (fun _ _ _ h => h) (Or.inl ⟨by rfl, ?_⟩) (by assumption) ?_
                          rotate_left
                          · intro w hSw; (try dsimp only at hSw); go_simp; try with_reducible rfl
                          try simp only [Act.put, List.setIfInBounds_toArray, List.set_cons_zero, List.set_cons_succ]
                          refine take_at (i := 29) (v := ?_) rfl rfl (by kernel_rfl) (by kernel_rfl) (by kernel_rfl) (fun _ _ _ h => h) (Or.inl ⟨by rfl, ?_⟩) (by assumption) ?_
                          rotate_left
                          · intro w hSw; (try dsimp only at hSw); go_simp; try with_reducible rfl
                          try simp only [Act.put, List.setIfInBounds_toArray, List.set_cons_zero, List.set_cons_succ]
                          refine take_at (i := 30) (v := undef) rfl rfl (by kernel_rfl) (by kernel_rfl) (by kernel_rfl) (fun _ _ _ h => h) (Or.inr ⟨by rfl, rfl⟩) (by assumption) ?_
                          try simp only [Act.put, List.setIfInBounds_toArray, List.set_cons_zero, List.set_cons_succ]
                          refine take_at (i := 31) (v := undef) rfl rfl (by kernel_rfl) (by kernel_rfl) (by kernel_rfl) (fun _ _ _ h => h) (Or.inr ⟨by rfl, rfl⟩) (by assumption) ?_
                          try simp only [Act.put, List.setIfInBounds_toArray, List.set_cons_zero, List.set_cons_succ]
                          refine take_at (i := 32) (v := undef) rfl rfl (by kernel_rfl) (by kernel_rfl) (by kernel_rfl) (fun _ _ _ h => h) (Or.inr ⟨by rfl, rfl⟩) (by assumption) ?_
                          try simp only [Act.put, List.setIfInBounds_toArray, List.set_cons_zero, List.set_cons_succ]
                          refine take_at (i := 33) (v := undef) rfl rfl (by kernel_rfl) (by kernel_rfl) (by kernel_rfl) (fun _ _ _ h => h) (Or.inr ⟨by rfl, rfl⟩) (by assumption) ?_
                          try simp only [Act.put, List.setIfInBounds_toArray, List.set_cons_zero, List.set_cons_succ]
                          refine take_at (i := 34) (v := undef) rfl rfl (by kernel_rfl) (by kernel_rfl) (by kernel_rfl) (fun _ _ _ h => h) (Or.inr ⟨by rfl, rfl⟩) (by assumption) ?_
                          try simp only [Act.put, List.setIfInBounds_toArray, List.set_cons_zero, List.set_cons_succ]
                          refine take_at (i := 35) (v := undef) rfl rfl (by kernel_rfl) (by kernel_rfl) (by kernel_rfl) (fun _ _ _ h => h) (Or.inr ⟨by rfl, rfl⟩) (by assumption) ?_
                          try simp only [Act.put, List.setIfInBounds_toArray, List.set_cons_zero, List.set_cons_succ]
                          refine take_at (i := 36) (v := undef) rfl rfl (by kernel_rfl) (by kernel_rfl) (by kernel_rfl) (fun _ _ _ h => h) (Or.inr ⟨by rfl, rfl⟩) (by assumption) ?_
                          try simp only [Act.put, List.setIfInBounds_toArray, List.set_cons_zero, List.set_cons_succ]
                          refine take_at (i := 37) (v := ?_) rfl rfl (by kernel_rfl) (by kernel_rfl) (by kernel_rfl) (fun _ _ _ h => h) (Or.inl ⟨by rfl, ?_⟩) (by assumption) ?_
                          rotate_left
                          · intro w hSw; (try dsimp only at hSw); go_simp; try with_reducible rfl
                          try simp only [Act.put, List.setIfInBounds_toArray, List.set_cons_zero, List.set_cons_succ]
                          refine take_at (i := 38) (v := ?_) rfl rfl (by kernel_rfl) (by kernel_rfl) (by kernel_rfl) (fun _ _ _ h => h) (Or.inl ⟨by rfl, ?_⟩) (by assumption) ?_
                          rotate_left
                          · intro w hSw; (try dsimp only at hSw); go_simp; try with_reducible rfl
                          try simp only [Act.put, List.setIfInBounds_toArray, List.set_cons_zero, List.set_cons_succ]
                          refine take_at (i := 39) (v := ?_) rfl rfl (by kernel_rfl) (by kernel_rfl) (by kernel_rfl) (fun _ _ _ h => h) (Or.inl ⟨by rfl, ?_⟩) (by assumption) ?_
                          rotate_left
                          · intro w hSw; (try dsimp only at hSw); go_simp; try with_reducible rfl
                          try simp only [Act.put, List.setIfInBounds_toArray, List.set_cons_zero, List.set_cons_succ]
                          refine take_at (i := 40) (v := ?_) rfl rfl (by kernel_rfl) (by kernel_rfl) (by kernel_rfl) (fun _ _ _ h => h) (Or.inl ⟨by rfl, ?_⟩) (by assumption) ?_
                          rotate_left
                          · intro w hSw; (try dsimp only at hSw); go_simp; try with_reducible rfl
                          try simp only [Act.put, List.setIfInBounds_toArray, List.set_cons_zero, List.set_cons_succ]
                          clear hS0
                          have HV1 : Hid (Below wx.heap.size wx wx.drew) := hV0
                          refine wpAnyH_ready (rs := [41]) (by kernel_rfl) (by simp) ?_
                          refine AllReadyH.cons rfl (fun K hK => ?_) AllReadyH.nil
                          go_simp
                          refine (CIq.out 1 true HRI.out.one _ HV1.out).mono ?_
                          rintro e V2 ⟨rfl, hb2⟩
                          have HV2 : Hid (Below wx.heap.size wx V2) := below_step HV1.out (Nat.le_refl _) hb2
                          clear hb2
                          refine hK.out _ _ (HS22.out _ HV2.out) (fun hHeld => ?_)
                          clear hK K
                          refine take_at (i := 42) (v := ?_) rfl rfl (by kernel_rfl) (by kernel_rfl) (by kernel_rfl) (fun _ _ _ h => h) (Or.inl ⟨by rfl, ?_⟩) (by assumption) ?_
                          rotate_left
                          · intro w hSw; (try dsimp only at hSw); go_simp; try with_reducible rfl
                          try simp only [Act.put, List.setIfInBounds_toArray, List.set_cons_zero, List.set_cons_succ]
                          refine take_at (i := 43) (v := ?_) rfl rfl (by kernel_rfl) (by kernel_rfl) (by kernel_rfl) (fun _ _ _ h => h) (Or.inl ⟨by rfl, ?_⟩) (by assumption) ?_
                          rotate_left
                          · intro w hSw; (try dsimp only at hSw); go_simp; try with_reducible rfl
                          try simp only [Act.put, List.setIfInBounds_toArray, List.set_cons_zero, List.set_cons_succ]
                          refine wpAnyH_done (by kernel_rfl) (NoPanic.normal ?_) _
                          go_wp2_with fail
                          go_meet
                          case rel => exact ⟨rfl, HV2⟩
                      case rest => as_aux_lemma =>
                        obtain ⟨rfl, HB8⟩ := hcut
                        obtain ⟨W7, hW7⟩ : ∃ W7, wc = W7 := ⟨_, rfl⟩
                        rw [hW7] at HB8 ⊢
                        have HJ7 : Hid (JdS w h5 b c E O l W7) := HJx.out.on HB8.out
                        have HN7 : Hid (JdS W4 h8 b2 c2 E2 O2 l2 W7) := HNx.out.on HB8.out
                        have HR7 : Hid (Below wr.heap.size wr W7) := below_step HRx.out (Nat.le_refl _) HB8.out
                        clear hW7 HB8 HS22 CIq HJx HNx HRx
                        have CJ2 : Hid (∀ W, Below W7.heap.size W7 W → Calls Tryd.prog 7 #[.agg #[.int .i64 E2, .slice (some ⟨b2, 0, none⟩) 6 c2, .int .i64 O2], .int .i64 E2, .agg #[.int .i64 R.1, .int .i64 R.2.1, .int .i64 R.2.2.1, .int .i64 R.2.2.2.1, .string R.2.2.2.2.1, .int .i64 R.2.2.2.2.2.1.1, .int .i64 R.2.2.2.2.2.1.2.1.1, .int .i64 R.2.2.2.2.2.1.2.1.2, .int .i64 R.2.2.2.2.2.1.2.2.1.1, .int .i64 R.2.2.2.2.2.1.2.2.1.2, .int .i64 R.2.2.2.2.2.1.2.2.2.1.1, .int .i64 R.2.2.2.2.2.1.2.2.2.1.2, .string R.2.2.2.2.2.1.2.2.2.2.1, .string R.2.2.2.2.2.1.2.2.2.2.2, .int .i64 R.2.2.2.2.2.2.1, .slice ra R.2.2.2.2.2.2.2.length rc]] W fun e w' => JgPost W 1 (judgeG (E2, l2, O2) E2 R) e w') := fun W hW => by
                          have hm := (HN7.out.on hW).mm
                          have hh := judge20_any M HM.out (E2, l2, O2) (some ⟨b2, 0, none⟩) c2 E2 R ra rc W (HG.out.below (below_step HJ7.out.bel (Nat.le_refl _) hW)) (HRJ.out W (below_step HR7.out (Nat.le_refl _) hW)) (by show l2.length ≤ _; rw [hm.1]; decide) (by show MmsAt W _ l2.length l2; rw [hm.1]; exact hm.at)
                          unfold grpA recA at hh
                          simp only [hm.1] at hh
                          have hag := HRI.out.again M
                          simp only at hag
                          rw [hag] at hh
                          exact hh
                        have HS24 : Hid (∀ W, Below W7.heap.size W7 W → (W.cell? ⟨h8, 0, none⟩ = some (.int .i64 E2) ∧ W.cell? ⟨h8, 1, none⟩ = some (.slice (some ⟨b2, 0, none⟩) 6 c2) ∧ W.cell? ⟨h8, 2, none⟩ = some (.int .i64 O2)) ∧ (W.cell? ⟨lb, off + k * 16, none⟩ = some (.int .i64 R.1) ∧ W.cell? ⟨lb, off + k * 16 + 1, none⟩ = some (.int .i64 R.2.1) ∧ W.cell? ⟨lb, off + k * 16 + 2, none⟩ = some (.int .i64 R.2.2.1) ∧ W.cell? ⟨lb, off + k * 16 + 3, none⟩ = some (.int .i64 R.2.2.2.1) ∧ W.cell? ⟨lb, off + k * 16 + 4, none⟩ = some (.string R.2.2.2.2.1) ∧ W.cell? ⟨lb, off + k * 16 + 5, none⟩ = some (.int .i64 R.2.2.2.2.2.1.1) ∧ W.cell? ⟨lb, off + k * 16 + 6, none⟩ = some (.int .i64 R.2.2.2.2.2.1.2.1.1) ∧ W.cell? ⟨lb, off + k * 16 + 7, none⟩ = some (.int .i64 R.2.2.2.2.2.1.2.1.2) ∧ W.cell? ⟨lb, off + k * 16 + 8, none⟩ = some (.int .i64 R.2.2.2.2.2.1.2.2.1.1) ∧ W.cell? ⟨lb, off + k * 16 + 9, none⟩ = some (.int .i64 R.2.2.2.2.2.1.2.2.1.2) ∧ W.cell? ⟨lb, off + k * 16 + 10, none⟩ = some (.int .i64 R.2.2.2.2.2.1.2.2.2.1.1) ∧ W.cell? ⟨lb, off + k * 16 + 11, none⟩ = some (.int .i64 R.2.2.2.2.2.1.2.2.2.1.2) ∧ W.cell? ⟨lb, off + k * 16 + 12, none⟩ = some (.string R.2.2.2.2.2.1.2.2.2.2.1) ∧ W.cell? ⟨lb, off + k * 16 + 13, none⟩ = some (.string R.2.2.2.2.2.1.2.2.2.2.2) ∧ W.cell? ⟨lb, off + k * 16 + 14, none⟩ = some (.int .i64 R.2.2.2.2.2.2.1) ∧ W.cell? ⟨lb, off + k * 16 + 15, none⟩ = some (.slice ra R.2.2.2.2.2.2.2.length rc))) := fun W hW => ⟨⟨(HN7.out.on hW).gg.cell 0, (HN7.out.on hW).gg.cell 1, (HN7.out.on hW).gg.cell 2⟩, HC16.out W (below_step HR7.out (Nat.le_refl _) hW)⟩
                        have HRIS : Hid ((1 : Int) = 0 → RiS (E2, l2, O2) R (judgeG (E2, l2, O2) E2 R).1 (judgeG (E2, l2, O2) E2 R).2) := fun h => by cases h
                        go_upto_region 24 with fail
                        go_cut [13, 14, 15] (fun u8 u9 u10 wy => ∃ (h13 : Nat) (cn2 : Bool), u8 = .pointer (some ⟨h13, 0, none⟩) ∧ u9 = .bool cn2 ∧ u10 = .int .i64 1 ∧ Hid (Below W7.heap.size W7 wy))
                        case first => as_aux_lemma =>
                          have hV0 : Below W7.heap.size W7 W7.drew := (Below.refl _ _).drew
                          have hS0 := HS24.out _ hV0
                          refine wp_region_noPanic ?_
                          refine wp_region_held_drew (S := fun W => (W.cell? ⟨h8, 0, none⟩ = some (.int .i64 E2) ∧ W.cell? ⟨h8, 1, none⟩ = some (.slice (some ⟨b2, 0, none⟩) 6 c2) ∧ W.cell? ⟨h8, 2, none⟩ = some (.int .i64 O2)) ∧ (W.cell? ⟨lb, off + k * 16, none⟩ = some (.int .i64 R.1) ∧ W.cell? ⟨lb, off + k * 16 + 1, none⟩ = some (.int .i64 R.2.1) ∧ W.cell? ⟨lb, off + k * 16 + 2, none⟩ = some (.int .i64 R.2.2.1) ∧ W.cell? ⟨lb, off + k * 16 + 3, none⟩ = some (.int .i64 R.2.2.2.1) ∧ W.cell? ⟨lb, off + k * 16 + 4, none⟩ = some (.string R.2.2.2.2.1) ∧ W.cell? ⟨lb, off + k * 16 + 5, none⟩ = some (.int .i64 R.2.2.2.2.2.1.1) ∧ W.cell? ⟨lb, off + k * 16 + 6, none⟩ = some (.int .i64 R.2.2.2.2.2.1.2.1.1) ∧ W.cell? ⟨lb, off + k * 16 + 7, none⟩ = some (.int .i64 R.2.2.2.2.2.1.2.1.2) ∧ W.cell? ⟨lb, off + k * 16 + 8, none⟩ = some (.int .i64 R.2.2.2.2.2.1.2.2.1.1) ∧ W.cell? ⟨lb, off + k * 16 + 9, none⟩ = some (.int .i64 R.2.2.2.2.2.1.2.2.1.2) ∧ W.cell? ⟨lb, off + k * 16 + 10, none⟩ = some (.int .i64 R.2.2.2.2.2.1.2.2.2.1.1) ∧ W.cell? ⟨lb, off + k * 16 + 11, none⟩ = some (.int .i64 R.2.2.2.2.2.1.2.2.2.1.2) ∧ W.cell? ⟨lb, off + k * 16 + 12, none⟩ = some (.string R.2.2.2.2.2.1.2.2.2.2.1) ∧ W.cell? ⟨lb, off + k * 16 + 13, none⟩ = some (.string R.2.2.2.2.2.1.2.2.2.2.2) ∧ W.cell? ⟨lb, off + k * 16 + 14, none⟩ = some (.int .i64 R.2.2.2.2.2.2.1) ∧ W.cell? ⟨lb, off + k * 16 + 15, none⟩ = some (.slice ra R.2.2.2.2.2.2.2.length rc))) (by kernel_rfl) (by first | exact trivial | assumption | exact ⟨by assumption, by assumption⟩) (fun hHeld => ?_)
                          refine take_at (i := 0) (v := ?_) rfl rfl (by kernel_rfl) (by kernel_rfl) (by kernel_rfl) (fun _ _ _ h => h) (Or.inl ⟨by rfl, ?_⟩) (by assumption) ?_
                          rotate_left
                          · intro w hSw; (try dsimp only at hSw); go_simp; try with_reducible rfl
                          try simp only [Act.put, List.setIfInBounds_toArray, List.set_cons_zero, List.set_cons_succ]
                          refine take_at (i := 1) (v := ?_) rfl rfl (by kernel_rfl) (by kernel_rfl) (by kernel_rfl) (fun _ _ _ h => h) (Or.inl ⟨by rfl, ?_⟩) (by assumption) ?_
                          rotate_left
                          · intro w hSw; (try dsimp only at hSw); go_simp; try with_reducible rfl
                          try simp only [Act.put, List.setIfInBounds_toArray, List.set_cons_zero, List.set_cons_succ]
                          refine take_at (i := 2) (v := ?_) rfl rfl (by kernel_rfl) (by kernel_rfl) (by kernel_rfl) (fun _ _ _ h => h) (Or.inl ⟨by rfl, ?_⟩) (by assumption) ?_
                          rotate_left
                          · intro w hSw; (try dsimp only at hSw); go_simp; try with_reducible rfl
                          try simp only [Act.put, List.setIfInBounds_toArray, List.set_cons_zero, List.set_cons_succ]
                          refine take_at (i := 3) (v := ?_) rfl rfl (by kernel_rfl) (by kernel_rfl) (by kernel_rfl) (fun _ _ _ h => h) (Or.inl ⟨by rfl, ?_⟩) (by assumption) ?_
                          rotate_left
                          · intro w hSw; (try dsimp only at hSw); go_simp; try with_reducible rfl
                          try simp only [Act.put, List.setIfInBounds_toArray, List.set_cons_zero, List.set_cons_succ]
                          refine take_at (i := 4) (v := ?_) rfl rfl (by kernel_rfl) (by kernel_rfl) (by kernel_rfl) (fun _ _ _ h => h) (Or.inl ⟨by rfl, ?_⟩) (by assumption) ?_
                          rotate_left
                          · intro w hSw; (try dsimp only at hSw); go_simp; try with_reducible rfl
                          try simp only [Act.put, List.setIfInBounds_toArray, List.set_cons_zero, List.set_cons_succ]
                          refine take_at (i := 5) (v := ?_) rfl rfl (by kernel_rfl) (by kernel_rfl) (by kernel_rfl) (fun _ _ _ h => h) (Or.inl ⟨by rfl, ?_⟩) (by assumption) ?_
                          rotate_left
                          · intro w hSw; (try dsimp only at hSw); go_simp; try with_reducible rfl
                          try simp only [Act.put, List.setIfInBounds_toArray, List.set_cons_zero, List.set_cons_succ]
                          refine take_at (i := 6) (v := ?_) rfl rfl (by kernel_rfl) (by kernel_rfl) (by kernel_rfl) (fun _ _ _ h => h) (Or.inl ⟨by rfl, ?_⟩) (by assumption) ?_
                          rotate_left
                          · intro w hSw; (try dsimp only at hSw); go_simp; try with_reducible rfl
                          try simp only [Act.put, List.setIfInBounds_toArray, List.set_cons_zero, List.set_cons_succ]
                          clear hS0
                          refine wpAnyH_ready (rs := [7, 12]) (by kernel_rfl) (by simp) ?_
                          refine AllReadyH.cons rfl (fun K hK => ?_) (AllReadyH.cons rfl (fun K hK => ?_) AllReadyH.nil)
                          · go_simp
                            refine (CJ2.out _ hV0).mono ?_
                            intro e V2 hJ
                            obtain ⟨cs, cn, rfl, hcz, hc1, hbJ, hst⟩ := rj_store (h8 := V2.heap.size) hJ HRIS.out hV0 (Nat.le_trans hV0.size (jg_below hJ).size)
                            have hV2 : Below W7.heap.size W7 V2 := below_step hV0 (Nat.le_refl _) hbJ
                            have HST : Hid (∀ W, _ → _ → _) := hst
                            clear hJ hst hbJ
                            refine hK.out _ _ (HS24.out _ hV2) (fun hHeld => ?_)
                            clear hK K
                            refine take_at (i := 8) (v := ?_) rfl rfl (by kernel_rfl) (by kernel_rfl) (by kernel_rfl) (fun _ _ _ h => h) (Or.inl ⟨by rfl, ?_⟩) (by assumption) ?_
                            rotate_left
                            · intro w hSw; (try dsimp only at hSw); go_simp; try with_reducible rfl
                            try simp only [Act.put, List.setIfInBounds_toArray, List.set_cons_zero, List.set_cons_succ]
                            refine take_at (i := 9) (v := ?_) rfl rfl (by kernel_rfl) (by kernel_rfl) (by kernel_rfl) (fun _ _ _ h => h) (Or.inl ⟨by rfl, ?_⟩) (by assumption) ?_
                            rotate_left
                            · intro w hSw; (try dsimp only at hSw); go_simp; try with_reducible rfl
                            try simp only [Act.put, List.setIfInBounds_toArray, List.set_cons_zero, List.set_cons_succ]
                            refine take_at (i := 10) (v := ?_) rfl rfl (by kernel_rfl) (by kernel_rfl) (by kernel_rfl) (fun _ _ _ h => h) (Or.inl ⟨by rfl, ?_⟩) (by assumption) ?_
                            rotate_left
                            · intro w hSw; (try dsimp only at hSw); go_simp; try with_reducible rfl
                            try simp only [Act.put, List.setIfInBounds_toArray, List.set_cons_zero, List.set_cons_succ]
                            refine take_at (i := 11) (v := ?_) rfl rfl (by kernel_rfl) (by kernel_rfl) (by kernel_rfl) (fun _ _ _ h => h) (Or.inl ⟨by rfl, ?_⟩) (by assumption) ?_
                            rotate_left
                            · intro w hSw; (try dsimp only at hSw); go_simp; try with_reducible rfl
                            try simp only [Act.put, List.setIfInBounds_toArray, List.set_cons_zero, List.set_cons_succ]
                            refine wpAnyH_ready (rs := [12]) (by kernel_rfl) (by simp) ?_
                            refine AllReadyH.cons rfl (fun K hK => ?_) AllReadyH.nil
                            go_simp
                            have hVZ : Below W7.heap.size W7 (V2.alloc (.cells #[.int .i64 0, .slice none 0 0, .int .i64 0] 26)) := hV2.alloc hV2.size _
                            refine hK.out _ _ (HS24.out _ hVZ) (fun hHeld => ?_)
                            clear hK K
                            refine wpAnyH_ready (rs := [13]) (by kernel_rfl) (by simp) ?_
                            refine AllReadyH.cons rfl (fun K hK => ?_) AllReadyH.nil
                            refine step_storeRow rfl rfl 26 _ _ rfl V2.heap.size #[.int .i64 0, .slice none 0 0, .int .i64 0] cs (by with_unfolding_all rfl) (by with_unfolding_all rfl) (Blk.new V2 _ _) hcz.symm (by first | (rw [hcz]; kernel_rfl) | kernel_rfl) hc1 ?_
                            have HR : Hid (RjP W7 (E2, l2, O2) R V2.heap.size cn _ ((V2.alloc (.cells #[.int .i64 0, .slice none 0 0, .int .i64 0] 26)).setRow V2.heap.size cs)) := HST.out _ (below_new _ _) (Blk.new V2 _ _)
                            refine hK.out _ _ (HS24.out _ HR.out.1) (fun hHeld => ?_)
                            clear hK K
                            refine take_at (i := 14) (v := ?_) rfl rfl (by kernel_rfl) (by kernel_rfl) (by kernel_rfl) (fun _ _ _ h => h) (Or.inl ⟨by rfl, ?_⟩) (by assumption) ?_
                            rotate_left
                            · intro w hSw; (try dsimp only at hSw); go_simp; try with_reducible rfl
                            try simp only [Act.put, List.setIfInBounds_toArray, List.set_cons_zero, List.set_cons_succ]
                            refine take_at (i := 15) (v := ?_) rfl rfl (by kernel_rfl) (by kernel_rfl) (by kernel_rfl) (fun _ _ _ h => h) (Or.inl ⟨by rfl, ?_⟩) (by assumption) ?_
                            rotate_left
                            · intro w hSw; (try dsimp only at hSw); go_simp; try with_reducible rfl
                            try simp only [Act.put, List.setIfInBounds_toArray, List.set_cons_zero, List.set_cons_succ]
                            refine wpAnyH_done (by kernel_rfl) (NoPanic.normal ?_) _
                            go_wp2_with fail
                            go_meet
                            case rel => exact ⟨V2.heap.size, cn, rfl, rfl, rfl, HR.out.1⟩
                          · go_simp
                            have hVA : Below W7.heap.size W7 (W7.drew.alloc (.cells #[.int .i64 0, .slice none 0 0, .int .i64 0] 26)) := hV0.alloc (Nat.le_refl _) _
                            have KV0 : Blk (W7.drew.alloc (.cells #[.int .i64 0, .slice none 0 0, .int .i64 0] 26)) 26 W7.heap.size #[.int .i64 0, .slice none 0 0, .int .i64 0] := Blk.new' _ _ _ _ rfl
                            refine hK.out _ _ (HS24.out _ hVA) (fun hHeld => ?_)
                            clear hK K
                            refine wpAnyH_ready (rs := [7]) (by kernel_rfl) (by simp) ?_
                            refine AllReadyH.cons rfl (fun K hK => ?_) AllReadyH.nil
                            go_simp
                            refine (CJ2.out _ hVA).mono ?_
                            intro e V2 hJ
                            obtain ⟨cs, cn, rfl, hcz, hc1, hbJ, hst⟩ := rj_store (h8 := W7.heap.size) hJ HRIS.out hVA (Nat.le_refl _)
                            have hV2 : Below W7.heap.size W7 V2 := below_step hVA (Nat.le_refl _) hbJ
                            have KV2 := KV0.on hbJ
                            have HST : Hid (∀ W, _ → _ → _) := hst
                            clear hJ hst hbJ
                            refine hK.out _ _ (HS24.out _ hV2) (fun hHeld => ?_)
                            clear hK K
                            refine take_at (i := 8) (v := ?_) rfl rfl (by kernel_rfl) (by kernel_rfl) (by kernel_rfl) (fun _ _ _ h => h) (Or.inl ⟨by rfl, ?_⟩) (by assumption) ?_
                            rotate_left
                            · intro w hSw; (try dsimp only at hSw); go_simp; try with_reducible rfl
                            try simp only [Act.put, List.setIfInBounds_toArray, List.set_cons_zero, List.set_cons_succ]
                            refine take_at (i := 9) (v := ?_) rfl rfl (by kernel_rfl) (by kernel_rfl) (by kernel_rfl) (fun _ _ _ h => h) (Or.inl ⟨by rfl, ?_⟩) (by assumption) ?_
                            rotate_left
                            · intro w hSw; (try dsimp only at hSw); go_simp; try with_reducible rfl
                            try simp only [Act.put, List.setIfInBounds_toArray, List.set_cons_zero, List.set_cons_succ]
                            refine take_at (i := 10) (v := ?_) rfl rfl (by kernel_rfl) (by kernel_rfl) (by kernel_rfl) (fun _ _ _ h => h) (Or.inl ⟨by rfl, ?_⟩) (by assumption) ?_
                            rotate_left
                            · intro w hSw; (try dsimp only at hSw); go_simp; try with_reducible rfl
                            try simp only [Act.put, List.setIfInBounds_toArray, List.set_cons_zero, List.set_cons_succ]
                            refine take_at (i := 11) (v := ?_) rfl rfl (by kernel_rfl) (by kernel_rfl) (by kernel_rfl) (fun _ _ _ h => h) (Or.inl ⟨by rfl, ?_⟩) (by assumption) ?_
                            rotate_left
                            · intro w hSw; (try dsimp only at hSw); go_simp; try with_reducible rfl
                            try simp only [Act.put, List.setIfInBounds_toArray, List.set_cons_zero, List.set_cons_succ]
                            refine wpAnyH_ready (rs := [13]) (by kernel_rfl) (by simp) ?_
                            refine AllReadyH.cons rfl (fun K hK => ?_) AllReadyH.nil
                            refine step_storeRow rfl rfl 26 _ _ rfl W7.heap.size #[.int .i64 0, .slice none 0 0, .int .i64 0] cs (by with_unfolding_all rfl) (by with_unfolding_all rfl) KV2 hcz.symm (by first | (rw [hcz]; kernel_rfl) | kernel_rfl) hc1 ?_
                            have HR : Hid (RjP W7 (E2, l2, O2) R W7.heap.size cn _ (V2.setRow W7.heap.size cs)) := HST.out _ (Below.refl _ _) KV2
                            refine hK.out _ _ (HS24.out _ HR.out.1) (fun hHeld => ?_)
                            clear hK K
                            refine take_at (i := 14) (v := ?_) rfl rfl (by kernel_rfl) (by kernel_rfl) (by kernel_rfl) (fun _ _ _ h => h) (Or.inl ⟨by rfl, ?_⟩) (by assumption) ?_
                            rotate_left
                            · intro w hSw; (try dsimp only at hSw); go_simp; try with_reducible rfl
                            try simp only [Act.put, List.setIfInBounds_toArray, List.set_cons_zero, List.set_cons_succ]
                            refine take_at (i := 15) (v := ?_) rfl rfl (by kernel_rfl) (by kernel_rfl) (by kernel_rfl) (fun _ _ _ h => h) (Or.inl ⟨by rfl, ?_⟩) (by assumption) ?_
                            rotate_left
                            · intro w hSw; (try dsimp only at hSw); go_simp; try with_reducible rfl
                            try simp only [Act.put, List.setIfInBounds_toArray, List.set_cons_zero, List.set_cons_succ]
                            refine wpAnyH_done (by kernel_rfl) (NoPanic.normal ?_) _
                            go_wp2_with fail
                            go_meet
                            case rel => exact ⟨W7.heap.size, cn, rfl, rfl, rfl, HR.out.1⟩
                        case rest => as_aux_lemma =>
                          obtain ⟨h13, cn2, rfl, rfl, rfl, HB9⟩ := hcut
                          obtain ⟨W9, hW9⟩ : ∃ W9, wc = W9 := ⟨_, rfl⟩
                          rw [hW9] at HB9 ⊢
                          have HJ9 : Hid (JdS w h5 b c E O l W9) := HJ7.out.on HB9.out
                          have HN9 : Hid (JdS W4 h8 b2 c2 E2 O2 l2 W9) := HN7.out.on HB9.out
                          have v0 : W9.cell? ⟨h8, 0, none⟩ = some (.int .i64 E2) := HN9.out.gg.cell 0
                          have v1 : W9.cell? ⟨h8, 1, none⟩ = some (.slice (some ⟨b2, 0, none⟩) 6 c2) := HN9.out.gg.cell 1
                          have v2 : W9.cell? ⟨h8, 2, none⟩ = some (.int .i64 O2) := HN9.out.gg.cell 2
                          have HXB := HJ9.out.gg
                          have HL4 : Hid (w.heap.size ≤ b2) := Nat.le_trans HJ4w.out HN9.out.lb
                          have HXN : Hid (∃ b c E O l, SixM l ∧ JdS w h5 b c E O l (W9.setRow h5 #[.int .i64 E2, .slice (some ⟨b2, 0, none⟩) 6 c2, .int .i64 O2])) :=
                            ⟨b2, c2, E2, O2, l2, HRI.out.six, HXB.setRow _, HN9.out.mm.same (setRow_other _ _ _ _ (fun e => HN9.out.mm.ne HXB e.symm)), below_setRow HJ9.out.bel HJ9.out.lh _, HJ9.out.lh, HL4.out⟩
                          obtain ⟨W10, hW10⟩ : ∃ W10, W9.setRow h5 #[.int .i64 E2, .slice (some ⟨b2, 0, none⟩) 6 c2, .int .i64 O2] = W10 := ⟨_, rfl⟩
                          rw [hW10] at HXN
                          clear HS24 CJ2 HJ7 HN7 HJ9 HN9 HR7 HRI HRIS hW9 HB9
                          go_wp2_with (with_reducible refine wpList_storeBlk rfl 26 _ _ rfl h5 #[.int .i64 E, .slice (some ⟨b, 0, none⟩) 6 c, .int .i64 O] #[.int .i64 E2, .slice (some ⟨b2, 0, none⟩) 6 c2, .int .i64 O2] ?hx ?hy HXB rfl ?hi ?h1 ?_
                                       (case hx => rfl)
                                       (case hy => rfl)
                                       (case hi => kernel_rfl)
                                       (case h1 => simp [Value.oneCell'])
                                       try rw [hW10]
                                       go_wp2_with fail)
                          first
                            | exact ⟨⟨k + 1, by omega, by omega, by go_num, HXN⟩, by simp [intOf]; omega⟩
                            | (refine ⟨?_, ?_⟩
                               · ((repeat apply Exists.intro); exact ⟨⟨k + 1, by omega, by omega, by go_num, HXN⟩, rfl⟩)
                               · simp [intOf] <;> omega)
      · have HBW : Hid (Below w.heap.size w wr) := HWB
        obtain rfl : k = 30 := by omega
        have b1 : ¬ (((30 : Nat) : Int) < 30) := by decide
        clear HJ HWB
        go_wp2_with fail
        refine (awake20_any _ (HG.out.below HBW.out)).mono ?_
        rintro e w9 ⟨rfl, hb9⟩
        have HF : Hid (Below w.heap.size w w9) := below_step HBW.out (Nat.le_refl _) hb9
        clear hb9
        go_wp2_with fail
        go_ret
        exact ⟨rfl, HF.out⟩
    · have b0 : ¬ ((k : Int) < (len0 : Int)) := by omega
      have HBW : Hid (Below w.heap.size w wr) := HWB
      clear HJ HWB
      go_wp2_with fail
      refine (awake20_any _ (HG.out.below HBW.out)).mono ?_
      rintro e w9 ⟨rfl, hb9⟩
      have HF : Hid (Below w.heap.size w w9) := below_step HBW.out (Nat.le_refl _) hb9
      clear hb9
      go_wp2_with fail
      go_ret
      exact ⟨rfl, HF.out⟩
end Go.Proofs.YtkmdajenbidaaaaDoor
