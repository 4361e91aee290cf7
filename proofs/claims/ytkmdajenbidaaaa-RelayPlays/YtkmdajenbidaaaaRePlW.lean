/- RelayPlays' walk. (mkrepl.py) -/
import Derived.Test.YtkmdajenbidaaaaRPL
import Derived.Deep.DeepCutAuto
namespace Go.Proofs.Ytkmdajenbidaaaa
open Go.RowKit
set_option maxRecDepth 100000
set_option linter.unusedSimpArgs false
set_option linter.unusedVariables false
set_option maxRecDepth 100000

/-- Has it a snapshot? -/
def hasR (X : RlT) : Bool := decide (X.2.2.1.1 ≠ 0)
theorem rdA_has (X : RlT) (xa : Option Addr) (xc : Nat) : rdA X xa xc = #[.int .i64 X.1, .int .i64 X.2.1, .int .i64 X.2.2.1.1, .int .i64 (lastL X), .slice xa X.2.2.2.length xc, .bool (hasR X), .int .i64 X.2.2.1.1, .int .i64 X.2.2.1.2.1, .string X.2.2.1.2.2] := rfl

theorem PlS.cells {w W : World} {hq : Nat} {X : RlT} {v : Value} {xa : Option Addr} {xc : Nat} (h : PlS w hq X v xa xc W) : W.cell? ⟨hq, 0, none⟩ = some (.int .i64 X.1) ∧ W.cell? ⟨hq, 1, none⟩ = some (.int .i64 X.2.1) ∧ W.cell? ⟨hq, 2, none⟩ = some (.int .i64 X.2.2.1.1) ∧ W.cell? ⟨hq, 3, none⟩ = some (.int .i64 (lastL X)) ∧ W.cell? ⟨hq, 4, none⟩ = some (.slice xa X.2.2.2.length xc) ∧ W.cell? ⟨hq, 5, none⟩ = some (.bool (hasR X)) ∧ W.cell? ⟨hq, 6, none⟩ = some (.int .i64 X.2.2.1.1) ∧ W.cell? ⟨hq, 7, none⟩ = some (.int .i64 X.2.2.1.2.1) ∧ W.cell? ⟨hq, 8, none⟩ = some (.string X.2.2.1.2.2) :=
  ⟨h.q.cell 0, h.q.cell 1, h.q.cell 2, h.q.cell 3, h.q.cell 4, h.q.cell 5, h.q.cell 6, h.q.cell 7, h.q.cell 8⟩

theorem lightF_exR (bl : ByteArray) (it : List ItT) : ∃ D : Bool, D = true ↔ LightF bl it :=
  ⟨@decide (LightF bl it) (Classical.propDecidable _), by simp⟩

theorem rdA_one (X : RlT) (a : Option Addr) (c : Nat) : (rdA X a c).all (·.oneCell') = true := by simp [rdA, Value.oneCell']

theorem fr_cell {w W : World} {p : Addr} {u : Value} (h : Below w.heap.size w W) (hc : w.cell? p = some u) : W.cell? p = some u := by
  rw [h.cell (World.block_lt_of_cell? w _ hc)]; exact hc

theorem light_it {B : ByteArray} {it : List ItT} (h : LightF B it) (i : Nat) : (itL it i).2.2.size ≤ 1000000 := by
  by_cases hi : i < it.length
  · have := h.1 i hi (by have := h.2.2; omega); omega
  · unfold itL
    rw [List.getD_eq_getElem?_getD, List.getElem?_eq_none (by omega)]
    exact Nat.zero_le _


set_option maxHeartbeats 40000000 in
theorem relayPlays_walk (ga qa : Int) (a1 : Option Addr) (len1 cap1 : Nat) (a2 : Option Addr) (len2 cap2 : Nat) (w : World) (z1 : ∃ L, FrsAt w a1 len1 L ∧ len1 ≤ maxLen) (z2 : ∃ l, StrsAt w a2 len2 l ∧ len2 ≤ maxLen ∧ ∀ s ∈ l, s.size ≤ maxLen) :
    Calls Try.prog 3 #[.agg #[.int .i64 ga, .int .i64 qa], .slice a1 len1 cap1, .slice a2 len2 cap2] w fun e w' => e = .returned (.bool true) ∧ Below w.heap.size w w' := by
  obtain ⟨L, hL, hl1⟩ := z1
  obtain ⟨tx, htx, hl2, htz⟩ := z2
  have hl1' : len1 ≤ 9223372036854775807 := by unfold maxLen at hl1; omega
  have hl2' : len2 ≤ 9223372036854775807 := by unfold maxLen at hl2; omega
  have HF : Hid (FrsAt w a1 len1 L) := hL
  have HT : Hid (StrsAt w a2 len2 tx) := htx
  have HTZ : Hid (∀ s ∈ tx, s.size ≤ maxLen) := htz
  obtain ⟨w0, hw0⟩ : ∃ w0, w.alloc (.cells #[.int .i64 ga, .int .i64 qa] 22) = w0 := ⟨_, rfl⟩
  have HB0 : Hid (Below w.heap.size w w0) := by rw [← hw0]; exact below_new _ _
  have HA0 : Hid (Blk w0 22 w.heap.size #[.int .i64 ga, .int .i64 qa]) := by rw [← hw0]; exact Blk.new _ _ _
  have b0 : w0.cell? ⟨w.heap.size, 0, none⟩ = some (.int .i64 ga) := HA0.out.cell 0
  have b1 : w0.cell? ⟨w.heap.size, 1, none⟩ = some (.int .i64 qa) := HA0.out.cell 1
  clear hL htx htz hl1 hl2
  by_cases hbad : newBad ga qa
  · have C1 : Hid (Calls _ _ _ _ _) := new_bad ga qa w0 hbad
    have C2 : Hid (∀ W, _) := fun W => rnew21_bad ga qa W hbad
    clear hbad HF HT HTZ
    go_enter Try.func3, Try.ntmps3
    go_wp2_with fail
    refine C1.out.mono ?_
    rintro e w1 ⟨rfl, hb1⟩
    have HB1 : Hid (Below w.heap.size w w1) := below_step HB0.out (Nat.le_refl _) hb1
    have b2 : w1.cell? ⟨w.heap.size, 0, none⟩ = some (.int .i64 ga) := (HA0.out.on hb1).cell 0
    have b3 : w1.cell? ⟨w.heap.size, 1, none⟩ = some (.int .i64 qa) := (HA0.out.on hb1).cell 1
    clear hb1 C1 b0 b1 hw0 HB0 HA0
    go_wp2_with fail
    refine (C2.out w1).mono ?_
    rintro e w2 ⟨rfl, hb2⟩
    have HB2 : Hid (Below w.heap.size w w2) := below_step HB1.out (Nat.le_refl _) hb2
    have HBW : Hid (Below w.heap.size w (w2.alloc (.cells #[.int .i64 0, .int .i64 0, .int .i64 0, .int .i64 0, .slice none 0 0, .bool false, .int .i64 0, .int .i64 0, .string ⟨#[]⟩] 33))) := below_step HB2.out (Nat.le_refl _) (below_new _ _)
    clear hb2 HB1 HB2 b2 b3 C2
    go_wp2_with fail
    refine (awake21_any _).mono ?_
    rintro e w9 ⟨rfl, hb9⟩
    have HF : Hid (Below w.heap.size w w9) := below_step HBW.out (Nat.le_refl _) hb9
    clear hb9
    go_wp2_with fail
    go_ret
    exact ⟨rfl, HF.out⟩
  · obtain ⟨g1, g2, g3, g4⟩ : ¬ ga < 0 ∧ ¬ 1099511627775 < ga ∧ ¬ qa < 0 ∧ ¬ 1048576 < qa := by unfold newBad at hbad; omega
    have C1 : Hid (Calls _ _ _ _ _) := new_any ga qa w0 g1 g2 g3 g4
    have C2' := fun W => rnew21_any ga qa W g1 g2 g3 g4
    have hok : RlOk 0 (newR ga qa) := newR_ok (by omega) (by omega) (by omega) (by omega)
    have C2 : Hid (∀ W, _) := C2'
    have HOK0 : Hid (RlOk 0 (newR ga qa)) := hok
    clear hbad g1 g2 g3 g4 hok C2'
    go_enter Try.func3, Try.ntmps3
    go_wp2_with fail
    refine C1.out.mono ?_
    rintro e w1 ⟨rfl, hr1, hb1⟩
    have HR1 : Hid (RlAt w1 w0.heap.size (.slice none 0 0) (newR ga qa)) := hr1
    have HB1 : Hid (Below w0.heap.size w0 w1) := hb1
    have b2 : w1.cell? ⟨w.heap.size, 0, none⟩ = some (.int .i64 ga) := (HA0.out.on hb1).cell 0
    have b3 : w1.cell? ⟨w.heap.size, 1, none⟩ = some (.int .i64 qa) := (HA0.out.on hb1).cell 1
    clear hb1 hr1 C1 b0 b1 hw0 HA0
    go_wp2_with fail
    refine (C2.out w1).mono ?_
    rintro e w2 ⟨rfl, hb2⟩
    have HS0 : Hid (PlS w0 w2.heap.size (newR ga qa) (.slice none 0 0) none 0 (w2.alloc (.cells (rdA (newR ga qa) none 0) 33))) :=
      ⟨below_step (below_step HB1.out (Nat.le_refl _) hb2) (Nat.le_refl _) (below_new _ _), (HR1.out.on hb2).on (below_new _ _), fun k hk => (by cases hk), Blk.new _ _ _, (HR1.out.on hb2).lt, ⟨rfl, .inl rfl⟩, .inl ⟨rfl, rfl, rfl⟩, .inl rfl, fun _ _ => .inl rfl, .inl rfl⟩
    clear hb2 HR1 HB1 b2 b3 C2
    simp only [rdA_has] at HS0 ⊢
    go_wp2_with fail
    obtain ⟨W2, hW2⟩ : ∃ W2, w2.alloc (.cells #[.int .i64 (newR ga qa).1, .int .i64 (newR ga qa).2.1, .int .i64 (newR ga qa).2.2.1.1, .int .i64 (lastL (newR ga qa)), .slice none (newR ga qa).2.2.2.length 0, .bool (hasR (newR ga qa)), .int .i64 (newR ga qa).2.2.1.1, .int .i64 (newR ga qa).2.2.1.2.1, .string (newR ga qa).2.2.1.2.2] 33) = W2 := ⟨_, rfl⟩
    rw [hW2] at HS0
    try rw [hW2]
    obtain ⟨hq, hhq⟩ : ∃ hq, w2.heap.size = hq := ⟨_, rfl⟩
    rw [hhq] at HS0 ⊢
    go_loopw [11] (fun iv wr => ∃ k : Nat, k ≤ len1 ∧ k ≤ 60 ∧ iv = .int .i64 k ∧ Hid (∃ X v xa xc, RlOk k X ∧ PlS w0 hq X v xa xc wr)) (fun iv _ => 61 - (intOf iv).toNat)
    case atStart => exact ⟨0, Nat.zero_le _, by omega, rfl, _, _, _, _, HOK0.out, HS0.out⟩
    case round =>
      clear HS0 HOK0 hW2 hhq
      obtain ⟨k, hk, hk60, rfl, HX⟩ := hrel
      obtain ⟨X, v, xa, xc, hok, hs⟩ := HX.out
      have HOK : Hid (RlOk k X) := hok
      have HS : Hid (PlS w0 hq X v xa xc wr) := hs
      have HK6 : Hid (k ≤ 60) := hk60
      have HWB : Hid (Below w.heap.size w wr) := below_step HB0.out (Nat.le_refl _) hs.bel
      clear hok hs HX
      by_cases hlt : k < len1
      · have b0 : (k : Int) < (len1 : Int) := by omega
        by_cases hlt2 : k < 60
        · have b1 : (k : Int) < 60 := by omega
          obtain ⟨fb, off, rfl, hcl⟩ := (HF.out.below HWB.out).resolve_left (by omega)
          obtain ⟨h8, hfx⟩ := hcl k hlt
          obtain ⟨⟨F, fa, fc⟩, hx⟩ : ∃ x, frL L k = x := ⟨_, rfl⟩
          rw [hx] at h8 hfx
          clear hcl hx
          obtain ⟨D, hD⟩ := lightF_exR F.2.2.2.2.2.1 F.2.2.2.2.2.2.1
          have hmx : (maxLen : Nat) ≤ 9223372036854775807 := by unfold maxLen; omega
          have CL' := fun W (hW : Below wr.heap.size wr W) => rlight19_any F fa fc W D hD (hfx.at'.below hW) hfx.ok.cap (Nat.le_trans hfx.c hmx) (fun i => Nat.le_trans (hfx.z i) hmx) (Nat.le_trans hfx.b hmx)
          have CP' := fun W (hW : Below wr.heap.size wr W) (hl : LightF F.2.2.2.2.2.1 F.2.2.2.2.2.2.1) => rputF_any F fa fc W (by have := hl.2.2; omega) (hfx.at'.below hW) (fun i => light_it hl i) (by have := hl.2.1; omega)
          have hps : (putFC F).2 = 0 → (putFC F).1.size ≤ 65536 := fun h => putB_size _ _ _ (show putB (mayCb F) (frPs F) = ((putFC F).1, 0) by rw [← h]; rfl)
          obtain ⟨⟨P, PE⟩, hP⟩ : ∃ p, putFC F = p := ⟨_, rfl⟩
          rw [hP] at CP' hps
          simp only at CP' hps
          obtain ⟨Kd, G, S, E, M, B, it, er⟩ := F
          simp only [frmA] at h8 CL' CP' hD
          have HC8 : Hid (∀ W, Below wr.heap.size wr W → W.cell? ⟨fb, off + k * 8, none⟩ = some (.int .i64 Kd) ∧ W.cell? ⟨fb, off + k * 8 + 1, none⟩ = some (.int .i64 G) ∧ W.cell? ⟨fb, off + k * 8 + 2, none⟩ = some (.int .i64 S) ∧ W.cell? ⟨fb, off + k * 8 + 3, none⟩ = some (.int .i64 E) ∧ W.cell? ⟨fb, off + k * 8 + 4, none⟩ = some (.int .i64 M) ∧ W.cell? ⟨fb, off + k * 8 + 5, none⟩ = some (.string B) ∧ W.cell? ⟨fb, off + k * 8 + 6, none⟩ = some (.slice fa it.length fc) ∧ W.cell? ⟨fb, off + k * 8 + 7, none⟩ = some (.int .i64 er)) := fun W hW => ⟨fr_cell hW (h8 0 (by decide)), fr_cell hW (h8 1 (by decide)), fr_cell hW (h8 2 (by decide)), fr_cell hW (h8 3 (by decide)), fr_cell hW (h8 4 (by decide)), fr_cell hW (h8 5 (by decide)), fr_cell hW (h8 6 (by decide)), fr_cell hW (h8 7 (by decide))⟩
          have CL : Hid (∀ W, Below wr.heap.size wr W → _) := CL'
          have CP : Hid (∀ W, Below wr.heap.size wr W → LightF B it → _) := CP'
          have HPS : Hid (PE = 0 → P.size ≤ 65536) := hps
          have HDL : Hid (D = true ↔ LightF B it) := hD
          have HTX : Hid (k < len2 → ∃ b o, a2 = some ⟨b, o, none⟩ ∧ ∀ W, Below wr.heap.size wr W → W.cell? ⟨b, o + k, none⟩ = some (.string (strL tx k))) := fun h => by
            obtain ⟨b, o, e, hc⟩ := HT.out.2.resolve_left (by omega)
            refine ⟨b, o, e, fun W hW => ?_⟩
            have hc1 := hc k h
            rw [(below_step HWB.out (Nat.le_refl _) hW).cell (World.block_lt_of_cell? w _ hc1)]
            exact hc1
          obtain ⟨Tk, hTk⟩ : ∃ Tk, strL tx k = Tk := ⟨_, rfl⟩
          rw [hTk] at HTX
          obtain ⟨c0, c1, c2, c3, c4, c5, c6, c7⟩ := HC8.out wr (Below.refl _ _)
          clear CL' CP' hps hD hP h8 hfx hTk
          go_upto_region 10 with fail
          go_cut [74] (fun dv wx => ∃ D2 : Bool, dv = .bool D2 ∧ Hid (D2 = false → LightF B it ∧ (k < len2 → Tk.size ≤ 300)) ∧ Hid (Below wr.heap.size wr wx))
          case first =>
            go_wp2_with fail
            refine (CL.out _ (Below.refl _ _)).mono ?_
            rintro e W1 ⟨rfl, hb⟩
            have HB1 : Hid (Below wr.heap.size wr W1) := hb
            clear hb
            cases D with
            | false =>
              go_wp2_with fail
              go_meet
              case rel => exact ⟨true, rfl, fun h => (by cases h), HB1⟩
            | true =>
              by_cases hk2 : k < len2
              · have b2 : (k : Int) < (len2 : Int) := by omega
                obtain ⟨tb, tof, rfl, htc⟩ := HTX.out hk2
                have t0 := htc W1 HB1.out
                by_cases hT : 300 < Tk.size
                · have b3 : (300 : Int) < (Tk.size : Int) := by omega
                  go_wp2_with fail
                  go_meet
                  case rel => exact ⟨true, rfl, fun h => (by cases h), HB1⟩
                · have b3 : ¬ ((300 : Int) < (Tk.size : Int)) := by omega
                  go_wp2_with fail
                  go_meet
                  case rel => exact ⟨_, rfl, fun _ => ⟨HDL.out.1 (by simp), fun _ => by omega⟩, HB1⟩
              · have b2 : ¬ ((k : Int) < (len2 : Int)) := by omega
                go_wp2_with fail
                go_meet
                case rel => exact ⟨false, rfl, fun _ => ⟨HDL.out.1 (by simp), fun h => absurd h hk2⟩, HB1⟩
          case rest =>
            obtain ⟨D2, rfl, HD2, HB2⟩ := hcut
            clear CL HDL c0 c1 c2 c3 c4 c5 c6 c7
            obtain ⟨W2, hW2⟩ : ∃ W2, wc = W2 := ⟨_, rfl⟩
            rw [hW2] at HB2 ⊢
            clear hW2
            cases D2 with
            | true =>
              have HBW : Hid (Below w.heap.size w W2) := below_step HWB.out (Nat.le_refl _) HB2.out
              go_wp2_with fail
              refine (awake21_any _).mono ?_
              rintro e w9 ⟨rfl, hb9⟩
              have HF : Hid (Below w.heap.size w w9) := below_step HBW.out (Nat.le_refl _) hb9
              clear hb9
              go_wp2_with fail
              go_ret
              exact ⟨rfl, HF.out⟩
            | false =>
              obtain ⟨hlf, htl⟩ := HD2.out rfl
              have HTL : Hid (k < len2 → Tk.size ≤ 300) := htl
              have CP1 : Hid (Calls _ _ _ _ _) := CP.out W2 HB2.out hlf
              obtain ⟨c0, c1, c2, c3, c4, c5, c6, c7⟩ := HC8.out W2 HB2.out
              clear htl HD2 CP hlf
              go_wp2_with fail
              refine CP1.out.mono ?_
              rintro e W3 ⟨rfl, hb3⟩
              have HB3 : Hid (Below wr.heap.size wr W3) := below_step HB2.out (Nat.le_refl _) hb3
              clear hb3 CP1 c0 c1 c2 c3 c4 c5 c6 c7 HB2 HC8
              go_upto_if 85 with fail
              go_cut [12] (fun sv wx => ∃ S1 : ByteArray, sv = .string S1 ∧ Hid (S1.size ≤ 65536) ∧ Hid (Below wr.heap.size wr wx))
              case first =>
                by_cases hpe : PE = 0
                · have e0 : (PE != 0) = false := by rw [hpe]; rfl
                  have e1 : decide (PE = 0) = true := decide_eq_true hpe
                  go_wp2_with fail
                  go_meet
                  case rel => exact ⟨P, rfl, HPS.out hpe, HB3⟩
                · have e0 : (PE != 0) = true := by rw [bne_iff_ne]; exact hpe
                  have e1 : decide (PE = 0) = false := decide_eq_false hpe
                  go_wp2_with fail
                  go_meet
                  case rel => exact ⟨_, rfl, (by show (ByteArray.mk #[110, 111, 110, 101]).size ≤ 65536; decide), HB3⟩
              case rest =>
                obtain ⟨S1, rfl, HZ1, HB4⟩ := hcut
                clear HB3 HPS
                obtain ⟨W4, hW4⟩ : ∃ W4, wc = W4 := ⟨_, rfl⟩
                rw [hW4] at HB4 ⊢
                clear hW4
                go_upto_region 15 with fail
                go_cut [96] (fun dv wx => ∃ D3 : Bool, dv = .bool D3 ∧ Hid (D3 = true → k < len2) ∧ Hid (Below wr.heap.size wr wx))
                case first =>
                  by_cases hk2 : k < len2
                  · have b2 : (k : Int) < (len2 : Int) := by omega
                    obtain ⟨tb, tof, rfl, htc⟩ := HTX.out hk2
                    have t0 := htc W4 HB4.out
                    obtain ⟨D3, hD3⟩ : ∃ D3, (Tk.toList != (ByteArray.mk #[]).toList) = D3 := ⟨_, rfl⟩
                    go_wp2_with fail
                    go_meet
                    case rel => exact ⟨_, rfl, fun _ => hk2, HB4⟩
                  · have b2 : ¬ ((k : Int) < (len2 : Int)) := by omega
                    go_wp2_with fail
                    go_meet
                    case rel => exact ⟨false, rfl, fun h => (by cases h), HB4⟩
                case rest =>
                  obtain ⟨D3, rfl, HD3, HB5⟩ := hcut
                  clear HB4
                  obtain ⟨W5, hW5⟩ : ∃ W5, wc = W5 := ⟨_, rfl⟩
                  rw [hW5] at HB5 ⊢
                  clear hW5
                  go_upto_if 96 with fail
                  go_cut [12] (fun sv wx => ∃ S0 : ByteArray, sv = .string S0 ∧ Hid (S0.size ≤ 65536) ∧ Hid (Below wr.heap.size wr wx))
                  case first =>
                    cases D3 with
                    | true =>
                      have hk2 := HD3.out rfl
                      have b2 : (k : Int) < (len2 : Int) := by omega
                      obtain ⟨tb, tof, rfl, htc⟩ := HTX.out hk2
                      have t0 := htc W5 HB5.out
                      go_wp2_with fail
                      go_meet
                      case rel => exact ⟨Tk, rfl, Nat.le_trans (HTL.out hk2) (by decide), HB5⟩
                    | false =>
                      go_wp2_with fail
                      go_meet
                      case rel => exact ⟨S1, rfl, HZ1, HB5⟩
                  case rest =>
                    obtain ⟨S0, rfl, HSZ, HB6⟩ := hcut
                    clear HB5 HD3 HZ1 HTX HTL
                    obtain ⟨wt, hwt⟩ : ∃ wt, wc = wt := ⟨_, rfl⟩
                    rw [hwt] at HB6 ⊢
                    have HS6 : Hid (PlS w0 hq X v xa xc wt) := HS.out.on HB6.out
                    clear HS hwt HB6
                    have HS := HS6
                    clear HS6
                    have C1' := rhear21_any X k HOK.out (by have := HK6.out; omega) S0 HSZ.out xa xc wt HS.out.r HS.out.ok
                    simp only [rdA_has] at C1'
                    have C1 : Hid (Calls Try.prog 9 _ wt _) := C1'
                    obtain ⟨d0, d1, d2, d3, d4, d5, d6, d7, d8⟩ := HS.out.cells
                    clear C1'
                    go_wp2_with fail
                    refine C1.out.mono ?_
                    rintro e w3 ⟨u, rfl, hr3, hb3⟩
                    have C2' := fun W h => hear_any w0.heap.size v X k HOK.out (by have := HK6.out; omega) S0 (by have := HSZ.out; omega) W h
                    have hok1 := hearR_ok HOK.out S0
                    obtain ⟨xb, xd, rfl, hn3⟩ := HS.out.next hb3 hr3
                    obtain ⟨⟨X', Q⟩, hXQ⟩ : ∃ p, hearR X S0 = p := ⟨_, rfl⟩
                    rw [hXQ] at C2' hok1 hn3 ⊢
                    simp only at C2' hok1 hn3
                    have C2 : Hid (∀ W, RlAt W w0.heap.size v X → _) := C2'
                    have HOK1 : Hid (RlOk (k + 1) X') := hok1
                    have HN3 : Hid (PnS w0 hq w3.heap.size X X' v xa xb xc xd _) := hn3
                    have hqq : (Q.toList != Q.toList) = false := by simp
                    clear C1 C2' hr3 hb3 hok1 hn3 hXQ d0 d1 d2 d3 d4 d5 d6 d7 d8 HS
                    simp only [rdA_has] at HN3 ⊢
                    obtain ⟨W3, hW3⟩ : ∃ W3, w3.alloc (.cells #[.int .i64 X'.1, .int .i64 X'.2.1, .int .i64 X'.2.2.1.1, .int .i64 (lastL X'), .slice xb X'.2.2.2.length xd, .bool (hasR X'), .int .i64 X'.2.2.1.1, .int .i64 X'.2.2.1.2.1, .string X'.2.2.1.2.2] 33) = W3 := ⟨_, rfl⟩
                    rw [hW3] at HN3
                    have HW3 : Hid (_ = W3) := hW3
                    clear hW3
                    go_wp2_with fail
                    rw [HW3.out]
                    obtain ⟨hn, hhn⟩ : ∃ hn, w3.heap.size = hn := ⟨_, rfl⟩
                    rw [hhn] at HN3 ⊢
                    clear HW3 hhn
                    refine (C2.out W3 HN3.out.p.rel).mono ?_
                    rintro e w4 ⟨rfl, ht⟩
                    obtain ⟨hn4, hq4, v', hs5⟩ := HN3.out.heard ht
                    have HS5 : Hid (PlS w0 hq X' v' xb xd _) := hs5
                    simp only [rdA_has] at hn4 hq4 HS5
                    have c0 := hn4.cell 0
                    have c1 := hn4.cell 1
                    have c2 := hn4.cell 2
                    have c3 := hn4.cell 3
                    have c4 := hn4.cell 4
                    have c5 := hn4.cell 5
                    have c6 := hn4.cell 6
                    have c7 := hn4.cell 7
                    have c8 := hn4.cell 8
                    simp only [List.getElem?_toArray, List.getElem?_cons_zero, List.getElem?_cons_succ] at c0 c1 c2 c3 c4 c5 c6 c7 c8
                    obtain ⟨W5, hW5⟩ : ∃ W5, w4.setRow hq #[.int .i64 X'.1, .int .i64 X'.2.1, .int .i64 X'.2.2.1.1, .int .i64 (lastL X'), .slice xb X'.2.2.2.length xd, .bool (hasR X'), .int .i64 X'.2.2.1.1, .int .i64 X'.2.2.1.2.1, .string X'.2.2.1.2.2] = W5 := ⟨_, rfl⟩
                    rw [hW5] at HS5
                    clear ht hs5 C2 HN3 hn4
                    go_wp2_with (with_reducible refine wpList_storeBlk rfl 33 _ _ rfl hq #[.int .i64 X.1, .int .i64 X.2.1, .int .i64 X.2.2.1.1, .int .i64 (lastL X), .slice xa X.2.2.2.length xc, .bool (hasR X), .int .i64 X.2.2.1.1, .int .i64 X.2.2.1.2.1, .string X.2.2.1.2.2] #[.int .i64 X'.1, .int .i64 X'.2.1, .int .i64 X'.2.2.1.1, .int .i64 (lastL X'), .slice xb X'.2.2.2.length xd, .bool (hasR X'), .int .i64 X'.2.2.1.1, .int .i64 X'.2.2.1.2.1, .string X'.2.2.1.2.2] ?hx ?hy hq4 rfl ?hi ?h1 ?_
                                 (case hx => rfl)
                                 (case hy => rfl)
                                 (case hi => kernel_rfl)
                                 (case h1 => simp [Value.oneCell'])
                                 try rw [hW5]
                                 go_wp2_with fail)
                    clear c0 c1 c2 c3 c4 c5 c6 c7 c8 hq4 hW5 hqq
                    have D0 : Hid (PlS w0 hq X' v' xb xd W5.drew) := HS5.out.on (Below.refl _ _).drew
                    have hS0 := D0.out.cells
                    clear HS5
                    refine wp_region_noPanic ?_
                    refine wp_region_held_drew (S := fun W => W.cell? ⟨hq, 0, none⟩ = some (.int .i64 X'.1) ∧ W.cell? ⟨hq, 1, none⟩ = some (.int .i64 X'.2.1) ∧ W.cell? ⟨hq, 2, none⟩ = some (.int .i64 X'.2.2.1.1) ∧ W.cell? ⟨hq, 3, none⟩ = some (.int .i64 (lastL X')) ∧ W.cell? ⟨hq, 4, none⟩ = some (.slice xb X'.2.2.2.length xd) ∧ W.cell? ⟨hq, 5, none⟩ = some (.bool (hasR X')) ∧ W.cell? ⟨hq, 6, none⟩ = some (.int .i64 X'.2.2.1.1) ∧ W.cell? ⟨hq, 7, none⟩ = some (.int .i64 X'.2.2.1.2.1) ∧ W.cell? ⟨hq, 8, none⟩ = some (.string X'.2.2.1.2.2)) (by kernel_rfl) (by first | exact trivial | assumption | exact ⟨by assumption, by assumption⟩) (fun hHeld => ?_)
                    refine take_at (i := 0) (v := ?_) rfl rfl (by kernel_rfl) (by kernel_rfl) (by kernel_rfl) (fun _ _ _ h => h) (Or.inl ⟨by rfl, ?_⟩) (by assumption) ?_
                    rotate_left
                    · intro w hSw; (try dsimp only at hSw); go_simp; try with_reducible rfl
                    try simp only [Act.put, List.setIfInBounds_toArray, List.set_cons_zero, List.set_cons_succ]
                    refine take_at (i := 2) (v := ?_) rfl rfl (by kernel_rfl) (by kernel_rfl) (by kernel_rfl) (fun _ _ _ h => h) (Or.inl ⟨by rfl, ?_⟩) (by assumption) ?_
                    rotate_left
                    · intro w hSw; (try dsimp only at hSw); go_simp; try with_reducible rfl
                    try simp only [Act.put, List.setIfInBounds_toArray, List.set_cons_zero, List.set_cons_succ]
                    refine take_at (i := 3) (v := ?_) rfl rfl (by kernel_rfl) (by kernel_rfl) (by kernel_rfl) (fun _ _ _ h => h) (Or.inl ⟨by rfl, ?_⟩) (by assumption) ?_
                    rotate_left
                    · intro w hSw; (try dsimp only at hSw); go_simp; try with_reducible rfl
                    try simp only [Act.put, List.setIfInBounds_toArray, List.set_cons_zero, List.set_cons_succ]
                    refine wpAnyH_ready (rs := [1]) (by kernel_rfl) (by simp) ?_
                    refine AllReadyH.cons rfl (fun K hK => ?_) AllReadyH.nil
                    go_simp
                    refine (rlast_any w0.heap.size v' X' (k + 1) (by have := HK6.out; omega) HOK1.out _ D0.out.rel).mono ?_
                    rintro e VD1 ⟨rfl, hb⟩
                    have D1 : Hid (PlS w0 hq X' v' xb xd VD1) := D0.out.on hb
                    clear hb D0
                    refine hK.out _ _ D1.out.cells (fun hHeld => ?_)
                    clear hK K
                    refine take_at (i := 4) (v := ?_) rfl rfl (by kernel_rfl) (by kernel_rfl) (by kernel_rfl) (fun _ _ _ h => h) (Or.inl ⟨by rfl, ?_⟩) (by assumption) ?_
                    rotate_left
                    · intro w hSw; (try dsimp only at hSw); go_simp; try with_reducible rfl
                    try simp only [Act.put, List.setIfInBounds_toArray, List.set_cons_zero, List.set_cons_succ]
                    refine take_at (i := 5) (v := ?_) rfl rfl (by kernel_rfl) (by kernel_rfl) (by kernel_rfl) (fun _ _ _ h => h) (Or.inl ⟨by rfl, ?_⟩) (by assumption) ?_
                    rotate_left
                    · intro w hSw; (try dsimp only at hSw); go_simp; try with_reducible rfl
                    try simp only [Act.put, List.setIfInBounds_toArray, List.set_cons_zero, List.set_cons_succ]
                    refine take_at (i := 6) (v := ?_) rfl rfl (by kernel_rfl) (by kernel_rfl) (by kernel_rfl) (fun _ _ _ h => h) (Or.inl ⟨by rfl, ?_⟩) (by assumption) ?_
                    rotate_left
                    · intro w hSw; (try dsimp only at hSw); go_simp; try with_reducible rfl
                    try simp only [Act.put, List.setIfInBounds_toArray, List.set_cons_zero, List.set_cons_succ]
                    refine take_at (i := 8) (v := ?_) rfl rfl (by kernel_rfl) (by kernel_rfl) (by kernel_rfl) (fun _ _ _ h => h) (Or.inl ⟨by rfl, ?_⟩) (by assumption) ?_
                    rotate_left
                    · intro w hSw; (try dsimp only at hSw); go_simp; try with_reducible rfl
                    try simp only [Act.put, List.setIfInBounds_toArray, List.set_cons_zero, List.set_cons_succ]
                    refine take_at (i := 9) (v := ?_) rfl rfl (by kernel_rfl) (by kernel_rfl) (by kernel_rfl) (fun _ _ _ h => h) (Or.inl ⟨by rfl, ?_⟩) (by assumption) ?_
                    rotate_left
                    · intro w hSw; (try dsimp only at hSw); go_simp; try with_reducible rfl
                    try simp only [Act.put, List.setIfInBounds_toArray, List.set_cons_zero, List.set_cons_succ]
                    refine wpAnyH_ready (rs := [7]) (by kernel_rfl) (by simp) ?_
                    refine AllReadyH.cons rfl (fun K hK => ?_) AllReadyH.nil
                    go_simp
                    refine (rbase_any w0.heap.size v' X' _ D1.out.rel).mono ?_
                    rintro e VD2 ⟨rfl, hb⟩
                    have D2 : Hid (PlS w0 hq X' v' xb xd VD2) := D1.out.on hb
                    clear hb D1
                    refine hK.out _ _ D2.out.cells (fun hHeld => ?_)
                    clear hK K
                    refine take_at (i := 10) (v := ?_) rfl rfl (by kernel_rfl) (by kernel_rfl) (by kernel_rfl) (fun _ _ _ h => h) (Or.inl ⟨by rfl, ?_⟩) (by assumption) ?_
                    rotate_left
                    · intro w hSw; (try dsimp only at hSw); go_simp; try with_reducible rfl
                    try simp only [Act.put, List.setIfInBounds_toArray, List.set_cons_zero, List.set_cons_succ]
                    refine take_at (i := 11) (v := ?_) rfl rfl (by kernel_rfl) (by kernel_rfl) (by kernel_rfl) (fun _ _ _ h => h) (Or.inl ⟨by rfl, ?_⟩) (by assumption) ?_
                    rotate_left
                    · intro w hSw; (try dsimp only at hSw); go_simp; try with_reducible rfl
                    try simp only [Act.put, List.setIfInBounds_toArray, List.set_cons_zero, List.set_cons_succ]
                    refine take_at (i := 12) (v := ?_) rfl rfl (by kernel_rfl) (by kernel_rfl) (by kernel_rfl) (fun _ _ _ h => h) (Or.inl ⟨by rfl, ?_⟩) (by assumption) ?_
                    rotate_left
                    · intro w hSw; (try dsimp only at hSw); go_simp; try with_reducible rfl
                    try simp only [Act.put, List.setIfInBounds_toArray, List.set_cons_zero, List.set_cons_succ]
                    refine take_at (i := 13) (v := ?_) rfl rfl (by kernel_rfl) (by kernel_rfl) (by kernel_rfl) (fun _ _ _ h => h) (Or.inl ⟨by rfl, ?_⟩) (by assumption) ?_
                    rotate_left
                    · intro w hSw; (try dsimp only at hSw); go_simp; try with_reducible rfl
                    try simp only [Act.put, List.setIfInBounds_toArray, List.set_cons_zero, List.set_cons_succ]
                    refine take_at (i := 15) (v := ?_) rfl rfl (by kernel_rfl) (by kernel_rfl) (by kernel_rfl) (fun _ _ _ h => h) (Or.inl ⟨by rfl, ?_⟩) (by assumption) ?_
                    rotate_left
                    · intro w hSw; (try dsimp only at hSw); go_simp; try with_reducible rfl
                    try simp only [Act.put, List.setIfInBounds_toArray, List.set_cons_zero, List.set_cons_succ]
                    refine wpAnyH_ready (rs := [14]) (by kernel_rfl) (by simp) ?_
                    refine AllReadyH.cons rfl (fun K hK => ?_) AllReadyH.nil
                    go_simp
                    refine (rbytes_any w0.heap.size v' X' (k + 1) HOK1.out _ D2.out.rel).mono ?_
                    rintro e VD3 ⟨rfl, hb⟩
                    have D3 : Hid (PlS w0 hq X' v' xb xd VD3) := D2.out.on hb
                    clear hb D2
                    refine hK.out _ _ D3.out.cells (fun hHeld => ?_)
                    clear hK K
                    refine wpAnyH_ready (rs := [16]) (by kernel_rfl) (by simp) ?_
                    refine AllReadyH.cons rfl (fun K hK => ?_) AllReadyH.nil
                    go_simp
                    refine (rbytes21_any X' (k + 1) HOK1.out xb xd _ D3.out.r).mono ?_
                    rintro e VD4 ⟨rfl, hb⟩
                    have D4 : Hid (PlS w0 hq X' v' xb xd VD4) := D3.out.on hb
                    clear hb D3
                    refine hK.out _ _ D4.out.cells (fun hHeld => ?_)
                    clear hK K
                    refine take_at (i := 17) (v := ?_) rfl rfl (by kernel_rfl) (by kernel_rfl) (by kernel_rfl) (fun _ _ _ h => h) (Or.inl ⟨by rfl, ?_⟩) (by assumption) ?_
                    rotate_left
                    · intro w hSw; (try dsimp only at hSw); go_simp; try with_reducible rfl
                    try simp only [Act.put, List.setIfInBounds_toArray, List.set_cons_zero, List.set_cons_succ]
                    refine take_at (i := 18) (v := ?_) rfl rfl (by kernel_rfl) (by kernel_rfl) (by kernel_rfl) (fun _ _ _ h => h) (Or.inl ⟨by rfl, ?_⟩) (by assumption) ?_
                    rotate_left
                    · intro w hSw; (try dsimp only at hSw); go_simp; try with_reducible rfl
                    try simp only [Act.put, List.setIfInBounds_toArray, List.set_cons_zero, List.set_cons_succ]
                    refine take_at (i := 19) (v := ?_) rfl rfl (by kernel_rfl) (by kernel_rfl) (by kernel_rfl) (fun _ _ _ h => h) (Or.inl ⟨by rfl, ?_⟩) (by assumption) ?_
                    rotate_left
                    · intro w hSw; (try dsimp only at hSw); go_simp; try with_reducible rfl
                    try simp only [Act.put, List.setIfInBounds_toArray, List.set_cons_zero, List.set_cons_succ]
                    refine take_at (i := 20) (v := ?_) rfl rfl (by kernel_rfl) (by kernel_rfl) (by kernel_rfl) (fun _ _ _ h => h) (Or.inl ⟨by rfl, ?_⟩) (by assumption) ?_
                    rotate_left
                    · intro w hSw; (try dsimp only at hSw); go_simp; try with_reducible rfl
                    try simp only [Act.put, List.setIfInBounds_toArray, List.set_cons_zero, List.set_cons_succ]
                    refine take_at (i := 22) (v := ?_) rfl rfl (by kernel_rfl) (by kernel_rfl) (by kernel_rfl) (fun _ _ _ h => h) (Or.inl ⟨by rfl, ?_⟩) (by assumption) ?_
                    rotate_left
                    · intro w hSw; (try dsimp only at hSw); go_simp; try with_reducible rfl
                    try simp only [Act.put, List.setIfInBounds_toArray, List.set_cons_zero, List.set_cons_succ]
                    refine take_at (i := 23) (v := ?_) rfl rfl (by kernel_rfl) (by kernel_rfl) (by kernel_rfl) (fun _ _ _ h => h) (Or.inl ⟨by rfl, ?_⟩) (by assumption) ?_
                    rotate_left
                    · intro w hSw; (try dsimp only at hSw); go_simp; try with_reducible rfl
                    try simp only [Act.put, List.setIfInBounds_toArray, List.set_cons_zero, List.set_cons_succ]
                    refine wpAnyH_ready (rs := [21]) (by kernel_rfl) (by simp) ?_
                    refine AllReadyH.cons rfl (fun K hK => ?_) AllReadyH.nil
                    go_simp
                    refine (ritems_any w0.heap.size v' X' (by have := HOK1.out.many; omega) _ D4.out.rel).mono ?_
                    rintro e V5 ⟨vi, rfl, hoi, hb⟩
                    have D5 : Hid (PlS w0 hq X' v' xb xd V5) := D4.out.on hb
                    obtain ⟨ai, ci, rfl, _, _, hri⟩ := hoi.rows
                    have HRI : Hid (ItsAt V5 ai X'.2.2.2.length X'.2.2.2) := hri
                    clear hb hoi hri D4
                    refine hK.out _ _ D5.out.cells (fun hHeld => ?_)
                    clear hK K
                    refine wpAnyH_ready (rs := [24]) (by kernel_rfl) (by simp) ?_
                    refine AllReadyH.cons rfl (fun K hK => ?_) AllReadyH.nil
                    go_simp
                    refine (rsameItems21_any X'.2.2.2 X'.2.2.2 true (by simp) ai xb X'.2.2.2.length X'.2.2.2.length ci xd V5 (by have := HOK1.out.many; omega) (by have := HOK1.out.many; omega) HRI.out D5.out.r).mono ?_
                    rintro e V6 ⟨rfl, hb⟩
                    have D6 : Hid (PlS w0 hq X' v' xb xd V6) := D5.out.on hb
                    clear hb D5 HRI
                    refine hK.out _ _ D6.out.cells (fun hHeld => ?_)
                    clear hK K
                    refine take_at (i := 25) (v := ?_) rfl rfl (by kernel_rfl) (by kernel_rfl) (by kernel_rfl) (fun _ _ _ h => h) (Or.inl ⟨by rfl, ?_⟩) (by assumption) ?_
                    rotate_left
                    · intro w hSw; (try dsimp only at hSw); go_simp; try with_reducible rfl
                    try simp only [Act.put, List.setIfInBounds_toArray, List.set_cons_zero, List.set_cons_succ]
                    refine take_at (i := 26) (v := ?_) rfl rfl (by kernel_rfl) (by kernel_rfl) (by kernel_rfl) (fun _ _ _ h => h) (Or.inl ⟨by rfl, ?_⟩) (by assumption) ?_
                    rotate_left
                    · intro w hSw; (try dsimp only at hSw); go_simp; try with_reducible rfl
                    try simp only [Act.put, List.setIfInBounds_toArray, List.set_cons_zero, List.set_cons_succ]
                    refine wpAnyH_done (by kernel_rfl) (NoPanic.normal ?_) _
                    go_wp2_with fail
                    have hk6 := HK6.out
                    have HR6 : Hid (∃ X v xa xc, RlOk (k + 1) X ∧ PlS w0 hq X v xa xc V6) := ⟨X', v', xb, xd, HOK1.out, D6.out⟩
                    first
                      | exact ⟨⟨k + 1, by omega, by omega, by go_num, HR6⟩, by simp [intOf]; omega⟩
                      | (refine ⟨?_, ?_⟩
                         · ((repeat apply Exists.intro); exact ⟨⟨k + 1, by omega, by omega, by go_num, HR6⟩, rfl⟩)
                         · simp [intOf] <;> omega)
        · have hk60 : k = 60 := by omega
          subst hk60
          have b1 : ¬ (((60 : Nat) : Int) < 60) := by decide
          have HBW : Hid (Below w.heap.size w wr) := HWB
          clear HS HOK HWB
          go_wp2_with fail
          refine (awake21_any _).mono ?_
          rintro e w9 ⟨rfl, hb9⟩
          have HF : Hid (Below w.heap.size w w9) := below_step HBW.out (Nat.le_refl _) hb9
          clear hb9
          go_wp2_with fail
          go_ret
          exact ⟨rfl, HF.out⟩
      · have b0 : ¬ ((k : Int) < (len1 : Int)) := by omega
        have HBW : Hid (Below w.heap.size w wr) := HWB
        clear HS HOK HWB
        go_wp2_with fail
        refine (awake21_any _).mono ?_
        rintro e w9 ⟨rfl, hb9⟩
        have HF : Hid (Below w.heap.size w w9) := below_step HBW.out (Nat.le_refl _) hb9
        clear hb9
        go_wp2_with fail
        go_ret
        exact ⟨rfl, HF.out⟩
end Go.Proofs.Ytkmdajenbidaaaa
