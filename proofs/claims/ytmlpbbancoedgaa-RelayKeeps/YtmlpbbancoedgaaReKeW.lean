/- RelayKeeps' walk. -/
import Derived.Test.YtmlpbbancoedgaaRK1
namespace Go.Proofs.Ytmlpbbancoedgaa
open Go.RowKit
set_option maxRecDepth 100000
set_option linter.unusedSimpArgs false
set_option linter.unusedVariables false

theorem shr_any (x : Int) (s : Nat) : ∃ y : Int, ∀ W : World, (Op.shift .shr .i64 x .i64 (s : Int)).run Try.prog W = .ok (.int .i64 y) W := by
  refine ⟨x.fdiv (2 ^ (min (s : Int).toNat IntKind.i64.bits)), fun W => ?_⟩
  unfold Op.shift
  rw [if_neg (by omega)]
  rfl

/-- What the second loop has found. -/
def WantP (log : List ByteArray) (b : Nat) (x : ByteArray) (m wn : Nat) : Prop := (wn = 0 ∧ ∀ j, b ≤ j → j < m → txE log j ≠ x) ∨ ∃ j, b ≤ j ∧ j < m ∧ txE log j = x ∧ wn = j + 1




set_option maxHeartbeats 60000000 in
theorem relayKeeps_walk (a : Option Addr) (len cap : Nat) (kept upto : Int) (w : World) (hz : ∃ l, IntsAt w .i64 a len l ∧ len ≤ maxLen ∧ ∀ q ∈ l, (Lit.int .i64 q).wf = true) :
    Calls Try.prog 4 #[.slice a len cap, .int .i64 kept, .int .i64 upto] w fun e w' => e = .returned (.bool true) ∧ Below w.heap.size w w' := by
  obtain ⟨ls, hI, hml, _⟩ := hz
  have HI : Hid (IntsAt w .i64 a len ls) := hI
  have hlen : len ≤ 9223372036854775807 := by unfold maxLen at hml; omega
  have CN : Hid (Calls _ _ _ _ _) := new_any 7 1048576 w (by decide) (by decide) (by decide) (by decide)
  have HP0 : Hid (KeP 0 0 0 ⟨#[]⟩ []) := ⟨Nat.le_refl _, Nat.le_refl _, (fun x hx => by cases hx), (fun i j _ _ h => absurd h (Nat.not_lt_zero _)), (by decide), (newR_ok (g := 7) (q := 1048576) (by decide) (by decide) (by decide) (by decide)), newR_ep 7 1048576⟩
  clear hI hml
  go_enter Try.func4, Try.ntmps4
  go_wp2_with fail
  refine CN.out.mono ?_
  rintro e w1 ⟨rfl, hr1, hb1⟩
  have HS1 : Hid (RlV w w.heap.size (keX 0 0 ⟨#[]⟩ []) w1) := ⟨hb1, Nat.le_refl _, _, hr1, fun k hk => by cases hk⟩
  clear hr1 hb1 CN
  go_wp2_with fail
  go_loopw [9, 10, 11] (fun lv bv v wr => ∃ (i b : Nat) (E : Int) (B : ByteArray) (log : List ByteArray), i ≤ len ∧ i ≤ 40 ∧ bv = .int .i64 b ∧ v = .int .i64 i ∧ Hid (KeP (2 * i) b E B log) ∧ Hid (LogO wr w.heap.size lv log) ∧ Hid (RlV w w.heap.size (keX b E B log) wr)) (fun _ _ v _ => 41 - (intOf v).toNat)
  case atStart => exact ⟨0, 0, 0, ⟨#[]⟩, [], Nat.zero_le _, by omega, rfl, rfl, HP0, World.ownsRow_nil _ _ _ _, HS1⟩
  case round =>
    clear HS1 HP0
    rename World => wr
    obtain ⟨i, b, E, B, log, hi, hi40, rfl, rfl, HP, HL, HS⟩ := hrel
    by_cases hlt : i < len
    · by_cases hlt2 : i < 40
      · have b0 : (i : Int) < (len : Int) := by omega
        have b1 : (i : Int) < 40 := by omega
        obtain ⟨lb, off, rfl, hcl⟩ := (HI.out.below HS.out.bel).2.resolve_left (by omega)
        have c0 := hcl i hlt
        obtain ⟨z, hzz⟩ : ∃ z, ls.getD i 0 = z := ⟨_, rfl⟩
        rw [hzz] at c0
        obtain ⟨c, hc⟩ : ∃ c : Nat, (z % 16).toNat = c := ⟨_, rfl⟩
        have hca : bits .and .i64 z 15 = (c : Int) := by rw [i64_mask z 4 (by decide) 15 (by decide)]; omega
        obtain ⟨d, hd⟩ : ∃ d, 97 + c = d := ⟨_, rfl⟩
        have hdl : d < 256 := by omega
        have hw1 : IntKind.i64.wrap (97 + (c : Int)) = (d : Int) := by rw [IntKind.wrap_i64]; omega
        have hw2 : IntKind.u8.wrap (d : Int) = (d : Int) := by rw [IntKind.wrap_u8]; omega
        have hcv := conv_oneR (row_oneR wr d) hdl
        have hszz : ¬ (9223372036854775807 < 4 + (oneB d).size) := by rw [oneB_size]; omega
        have hszy : ¬ (9223372036854775807 < (⟨#[98, 108, 111, 98]⟩ : ByteArray).size + (oneB d).size) := hszz
        obtain ⟨x, hx⟩ : ∃ x : ByteArray, (⟨#[98, 108, 111, 98]⟩ : ByteArray) ++ oneB d = x := ⟨_, rfl⟩
        have HXS : Hid (x.size = 5) := by show _ = _; rw [← hx, ByteArray.size_append, oneB_size]; rfl
        have hb1 : Below wr.heap.size wr (wr.alloc (.cells #[.int .u8 (d : Int)] 5)) := below_new _ _
        have HS1 : Hid (RlV w w.heap.size (keX b E B log) (wr.alloc (.cells #[.int .u8 (d : Int)] 5))) := HS.out.on hb1
        have HL1 : Hid (LogO (wr.alloc (.cells #[.int .u8 (d : Int)] 5)) w.heap.size _ log) := HL.out.on hb1
        obtain ⟨la, lc, rfl, hlc1, hlc2, _⟩ := HL.out.rows
        have hbl := HP.out.bl
        have hnl := HP.out.n
        obtain ⟨L, hL⟩ : ∃ L, log.length = L := ⟨_, rfl⟩
        have HLL : Hid (log.length = L) := hL
        rw [hL] at HL1 hbl hnl ⊢
        clear hcl hzz hc hd hdl hb1 HS HL hlt hlt2 hL
        go_wp2_with fail
        obtain ⟨W1, hW1⟩ : ∃ W1, wr.alloc (.cells #[.int .u8 (d : Int)] 5) = W1 := ⟨_, rfl⟩
        rw [hW1] at HS1 HL1 ⊢
        clear hW1 hcv
        go_loopw [13, 14] (fun wv kv wx => ∃ m wn : Nat, b ≤ m ∧ m ≤ L ∧ kv = .int .i64 m ∧ wv = .int .i64 wn ∧ Hid (WantP log b x m wn) ∧ Hid (Below W1.heap.size W1 wx)) (fun _ kv _ => L - (intOf kv).toNat)
        case atStart => exact ⟨b, 0, Nat.le_refl _, hbl, rfl, rfl, .inl ⟨rfl, fun j h1 h2 => by omega⟩, Below.refl _ _⟩
        case round =>
          rename World => wx
          obtain ⟨m, wn, hbm, hmL, rfl, rfl, HW, HBx⟩ := hrel
          by_cases hm : m < L
          · have b2 : (m : Int) < (L : Int) := by omega
            have hLx := HL1.out.on HBx.out
            obtain ⟨la', lc', hv', _, _, hcells⟩ := LogO.rows (log := log) (by show LogO wx w.heap.size (.slice la L lc) log; exact hLx)
            injection hv' with e1 e2 e3
            subst e1
            obtain ⟨lg0, rfl, cm⟩ := hcells m (by have := HLL.out; omega)
            obtain ⟨A, hA⟩ : ∃ A, txE log m = A := ⟨_, rfl⟩
            rw [hA] at cm
            have hw5 : IntKind.i64.wrap ((m : Int) + 1) = (m : Int) + 1 := by rw [IntKind.wrap_i64]; omega
            have hmm : m < 100 := by omega
            by_cases hax : A = x
            · have hq : (A.toList == x.toList) = true := by rw [hax]; exact beq_self_eq_true _
              have HW2 : Hid (WantP log b x (m + 1) (m + 1)) := .inr ⟨m, hbm, by omega, hA.trans hax, rfl⟩
              clear hLx hcells hA hax HW e2 e3
              go_wp2_with fail
              refine ⟨?_, ?_⟩
              · first
                | exact ⟨m + 1, m + 1, by omega, by omega, by go_num, by go_num, HW2, HBx⟩
                | ((repeat apply Exists.intro); refine ⟨?_, rfl⟩; exact ⟨m + 1, m + 1, by omega, by omega, by go_num, by go_num, HW2, HBx⟩)
              · simp [intOf] <;> omega
            · have hq : (A.toList == x.toList) = false := by rw [txtBeqL]; exact decide_eq_false hax
              have HW2 : Hid (WantP log b x (m + 1) wn) := by
                rcases HW.out with ⟨h1, h2⟩ | ⟨j, h1, h2, h3, h4⟩
                · exact .inl ⟨h1, fun j hj1 hj2 => by
                    by_cases e : j = m
                    · rw [e, hA]; exact hax
                    · exact h2 j hj1 (by omega)⟩
                · exact .inr ⟨j, h1, by omega, h3, h4⟩
              clear hLx hcells hA hax HW e2 e3
              go_wp2_with fail
              refine ⟨?_, ?_⟩
              · first
                | exact ⟨m + 1, wn, by omega, by omega, by go_num, rfl, HW2, HBx⟩
                | ((repeat apply Exists.intro); refine ⟨?_, rfl⟩; exact ⟨m + 1, wn, by omega, by omega, by go_num, rfl, HW2, HBx⟩)
              · simp [intOf] <;> omega
          · obtain rfl : m = L := by omega
            have b2 : ¬ ((m : Int) < (m : Int)) := by omega
            have HSx : Hid (RlV w w.heap.size (keX b E B log) wx) := HS1.out.on HBx.out
            have HLx : Hid (LogO wx w.heap.size (.slice la m lc) log) := HL1.out.on HBx.out
            clear HS1 HL1 HBx
            rcases HW.out with ⟨hw0, hno⟩ | ⟨j, hj1, hj2, hj3, hj4⟩
            · subst hw0
              obtain ⟨v', w', hA, hl', hr'⟩ := log_append HSx.out HLx.out x (by have := HLL.out; omega)
              obtain ⟨hdo, hkp⟩ := ke_new HP.out (by omega) x HXS.out (fun j h1 h2 => hno j h1 (by have := HLL.out; omega))
              obtain ⟨lg, hlg⟩ : ∃ lg, log ++ [x] = lg := ⟨_, rfl⟩
              rw [hlg] at hl' hdo hkp
              have hll : lg.length = m + 1 := by rw [← hlg, List.length_append, HLL.out]; rfl
              obtain ⟨la2, lc2, rfl, _, _, _⟩ := hl'.rows
              have HP1 : Hid (KeP (2 * i + 1) b E B lg) := hkp
              have HL : Hid (LogO w' w.heap.size (.slice la2 lg.length lc2) lg) := hl'
              have HR4 : Hid (RlV w w.heap.size (keX b E B log) w') := hr'
              obtain ⟨wn, hwn⟩ : ∃ wn, m + 1 = wn := ⟨_, rfl⟩
              have HD : Hid (doR (keX b E B log) (appF 7 2 x) = (keX b E B lg, takF ((wn : Int)))) := by
                show _ = _
                rw [hdo, HLL.out, ← hwn]; rfl
              rw [hwn] at hll
              rw [hll] at hA HL
              have HLN : Hid (lg.length = wn) := hll
              clear hno hdo hkp hlg hl' hr' HSx HLx hwn HW hll
              go_wp2_with (at_builtin; refine Lib.wpList_append_run _ rfl _ _ 24 24 rfl _ _ rfl rfl _ _ (hA _) ?_)
              clear hA
              have CA' := ask_gen w w.heap.size (keX b E B log) (2 * (2 * i)) HP.out.ok HP.out.ep (by omega) _ (appF_fit (g := 7) (E := 2) (b := x) ⟨by decide, by decide⟩ ⟨by decide, by decide⟩ (by have := HXS.out; omega)) rfl (keX b E B lg) (takF ((wn : Int))) HD.out _ HR4.out
              simp only [frmA, appF, takF, withG, List.length_nil, show (keX b E B log).1 = 7 from rfl] at CA'
              have CA : Hid (Calls _ _ _ _ _) := CA'
              clear CA'
              refine CA.out.mono ?_
              rintro e w5 ⟨a5, c5, rfl, _, _, hs5, ho5⟩
              have hb5 : Below w5.heap.size w5 (w5.alloc (.cells #[.int .i64 2, .int .i64 7, .int .i64 (wn : Int), .int .i64 0, .int .i64 0, .string ⟨#[]⟩, .slice a5 0 c5, .int .i64 0] 39)) := below_new _ _
              have HS5 : Hid (RlV w w.heap.size (keX b E B lg) (w5.alloc (.cells #[.int .i64 2, .int .i64 7, .int .i64 (wn : Int), .int .i64 0, .int .i64 0, .string ⟨#[]⟩, .slice a5 0 c5, .int .i64 0] 39))) := hs5.on hb5
              have HL5 : Hid (LogO (w5.alloc (.cells #[.int .i64 2, .int .i64 7, .int .i64 (wn : Int), .int .i64 0, .int .i64 0, .string ⟨#[]⟩, .slice a5 0 c5, .int .i64 0] 39)) w.heap.size (.slice la2 wn lc2) lg) := (HL.out.ot ho5).on hb5
              have HB5 : Hid (Blk (w5.alloc (.cells #[.int .i64 2, .int .i64 7, .int .i64 (wn : Int), .int .i64 0, .int .i64 0, .string ⟨#[]⟩, .slice a5 0 c5, .int .i64 0] 39)) 39 w5.heap.size #[.int .i64 2, .int .i64 7, .int .i64 (wn : Int), .int .i64 0, .int .i64 0, .string ⟨#[]⟩, .slice a5 0 c5, .int .i64 0]) := Blk.new _ _ _
              have g50 : (w5.alloc (.cells #[.int .i64 2, .int .i64 7, .int .i64 (wn : Int), .int .i64 0, .int .i64 0, .string ⟨#[]⟩, .slice a5 0 c5, .int .i64 0] 39)).cell? ⟨w5.heap.size, 0, none⟩ = some (.int .i64 2) := HB5.out.cell 0
              have g52 : (w5.alloc (.cells #[.int .i64 2, .int .i64 7, .int .i64 (wn : Int), .int .i64 0, .int .i64 0, .string ⟨#[]⟩, .slice a5 0 c5, .int .i64 0] 39)).cell? ⟨w5.heap.size, 2, none⟩ = some (.int .i64 (wn : Int)) := HB5.out.cell 2
              clear CA hs5 ho5 hb5 HR4 HL HD
              go_wp2_with fail
              obtain ⟨v5, hr5, hv5⟩ := HS5.out.rel
              refine (rlast_any w.heap.size v5 (keX b E B lg) (2 * (2 * i + 1)) (by omega) HP1.out.ok _ hr5).mono ?_
              rintro e w6 ⟨rfl, hb6⟩
              have HS6 : Hid (RlV w w.heap.size (keX b E B lg) w6) := HS5.out.on hb6
              have HL6 : Hid (LogO w6 w.heap.size (.slice la2 wn lc2) lg) := HL5.out.on hb6
              rw [keX_last HP1.out.bl, HLN.out]
              clear hr5 hv5 hb6 HS5 HL5 HB5 g50 g52 HP
              obtain ⟨e31, he31⟩ : ∃ e31 : Nat, ((i : Int) % 32).toNat = e31 := ⟨_, rfl⟩
              have hs31 : bits .and .i64 (i : Int) 31 = (e31 : Int) := by rw [i64_mask (i : Int) 5 (by decide) 31 (by decide)]; omega
              obtain ⟨q1, hA1, hq1l⟩ : ∃ q1 : Nat, bits .and .i64 (kept / 2 ^ min e31 64) 1 = (q1 : Int) ∧ q1 < 2 := ⟨((kept / 2 ^ min e31 64) % 2).toNat, by rw [i64_mask (kept / 2 ^ min e31 64) 1 (by decide) 1 (by decide)]; omega, by omega⟩
              obtain ⟨e7, he7⟩ : ∃ e7 : Nat, ((i : Int) % 8).toNat = e7 := ⟨_, rfl⟩
              have hs7e : bits .and .i64 (i : Int) 7 = (e7 : Int) := by rw [i64_mask (i : Int) 3 (by decide) 7 (by decide)]; omega
              obtain ⟨q7, hA7, hq7l⟩ : ∃ q7 : Nat, bits .and .i64 (upto / 2 ^ min e7 64) 7 = (q7 : Int) ∧ q7 < 8 := ⟨((upto / 2 ^ min e7 64) % 8).toNat, by rw [i64_mask (upto / 2 ^ min e7 64) 3 (by decide) 7 (by decide)]; omega, by omega⟩
              have hlnb : wn ≤ 90 := by have h1 := HP1.out.n; rw [HLN.out] at h1; omega
              have hbbn : b ≤ wn := by have h1 := HP1.out.bl; rw [HLN.out] at h1; exact h1
              clear he31 he7
              rcases (show q1 = 0 ∨ q1 = 1 by omega) with hq0 | hq0
              · subst hq0
                have hA0 : bits .and .i64 (kept / 2 ^ min e31 64) 1 = 0 := hA1
                have HPX : Hid (KeP (2 * (i + 1)) b E B lg) := by show KeP _ _ _ _ _; rw [show 2 * (i + 1) = 2 * i + 1 + 1 by omega]; exact HP1.out.same
                clear hA1
                go_wp2_with fail
                obtain ⟨v9, hr9, hv9⟩ := HS6.out.rel
                have hXl : (keX b E B lg).2.2.2.length = wn - b := by show (keI b (lg.drop b)).length = _; rw [keI_len, List.length_drop, HLN.out]
                have hbn : b ≤ wn := by have := HPX.out.bl; rw [HLN.out] at this; exact this
                refine (ritems_any w.heap.size v9 (keX b E B lg) (by rw [hXl]; omega) _ hr9).mono ?_
                rintro e w10 ⟨v10, rfl, ho10, hb10⟩
                have HS10 : Hid (RlV w w.heap.size (keX b E B lg) w10) := HS6.out.on hb10
                have HL10 : Hid (LogO w10 w.heap.size (.slice la2 wn lc2) lg) := HL6.out.on hb10
                obtain ⟨a10, c10, rfl, hc10, _, hi10⟩ := ho10.rows
                have HI10 : Hid (ItsAt w10 a10 (wn - b) (keX b E B lg).2.2.2) := by show ItsAt _ _ _ _; rw [← hXl]; exact hi10
                rw [hXl]
                obtain ⟨C, hC⟩ : ∃ C, wn - b = C := ⟨_, rfl⟩
                have hwC : IntKind.i64.wrap ((wn : Int) - (b : Int)) = (C : Int) := by rw [IntKind.wrap_i64]; omega
                rw [hC] at HI10 ⊢
                clear hr9 hv9 hb10 hi10 ho10 HS6 HL6 hXl hc10
                go_wp2_with fail
                obtain ⟨v11, hr11, hv11⟩ := HS10.out.rel
                refine (rbase_any w.heap.size v11 (keX b E B lg) w10 hr11).mono ?_
                rintro e w11 ⟨rfl, hb11⟩
                have HS11 : Hid (RlV w w.heap.size (keX b E B lg) w11) := HS10.out.on hb11
                have HL11 : Hid (LogO w11 w.heap.size (.slice la2 wn lc2) lg) := HL10.out.on hb11
                have HI11 : Hid (ItsAt w11 a10 C (keX b E B lg).2.2.2) := HI10.out.below hb11
                rw [show (keX b E B lg).2.2.1.1 = (b : Int) from rfl]
                clear hr11 hv11 hb11 HS10 HL10 HI10
                go_wp2_with fail
                go_loopw [21] (fun v wx => ∃ kk : Nat, kk ≤ C ∧ v = .int .i64 kk ∧ Hid (Below w11.heap.size w11 wx)) (fun v _ => C - (intOf v).toNat)
                case atStart => exact ⟨0, Nat.zero_le _, rfl, Below.refl _ _⟩
                case round =>
                  rename World => wz
                  obtain ⟨kk, hkk, rfl, HBz⟩ := hrel
                  by_cases hlt9 : kk < C
                  · have b9 : (kk : Int) < (C : Int) := by omega
                    obtain ⟨lb9, off9, rfl, hcl9⟩ := (HI11.out.below HBz.out).2.resolve_left (by omega)
                    obtain ⟨x0, x1, x2⟩ := hcl9 kk hlt9
                    have hlgl := HLN.out
                    have hat : itL (keX b E B lg).2.2.2 kk = (((b + kk : Nat) : Int) + 1, 2, txE lg (b + kk)) := by
                      show itL (keI b (lg.drop b)) kk = _
                      rw [keI_at _ b kk (by rw [List.length_drop]; omega), txE_drop]
                    rw [hat] at x0 x1 x2
                    obtain ⟨la9, lc9, hv9, _, _, hcells9⟩ := LogO.rows (log := lg) (by show LogO wz w.heap.size (.slice la2 wn lc2) lg; exact HL11.out.on HBz.out)
                    injection hv9 with e1 e2 e3
                    subst e1
                    obtain ⟨lg9, hlg9, cm9⟩ := hcells9 (b + kk) (by omega)
                    subst hlg9
                    obtain ⟨T9, hT9⟩ : ∃ T9, txE lg (b + kk) = T9 := ⟨_, rfl⟩
                    rw [hT9] at x2 cm9
                    obtain ⟨p9, hp9⟩ : ∃ p9, b + kk = p9 := ⟨_, rfl⟩
                    simp only [hp9] at x0 cm9
                    have hwp : IntKind.i64.wrap ((b : Int) + (kk : Int)) = (p9 : Int) := by rw [IntKind.wrap_i64]; omega
                    have hwp1 : IntKind.i64.wrap ((p9 : Int) + 1) = (p9 : Int) + 1 := by rw [IntKind.wrap_i64]; omega
                    have hpl : (p9 : Int) < (wn : Int) := by omega
                    have hp0 : (0 : Int) ≤ (p9 : Int) := by omega
                    have heq9 := fun W => itemEq (((p9 : Int) + 1, 2, T9) : ItT) ((p9 : Int) + 1, 2, T9) W
                    simp only [itemA, decide_true] at heq9
                    have y0 : ∀ p : Beh wz, p.w'.cell? ⟨lb9, off9 + kk * 3, none⟩ = some (.int .i64 ((p9 : Int) + 1)) := fun p => p.cell x0
                    have y1 : ∀ p : Beh wz, p.w'.cell? ⟨lb9, off9 + kk * 3 + 1, none⟩ = some (.int .i64 2) := fun p => p.cell x1
                    have y2 : ∀ p : Beh wz, p.w'.cell? ⟨lb9, off9 + kk * 3 + 2, none⟩ = some (.string T9) := fun p => p.cell x2
                    have y3 : ∀ p : Beh wz, p.w'.cell? ⟨lg9, p9, none⟩ = some (.string T9) := fun p => p.cell cm9
                    clear hcl9 hcells9 hat hT9 hp9 e2 e3 hlgl x0 x1 x2 cm9
                    go_wp2_with fail
                    have hne_ : Nonempty (Beh wz) := ⟨⟨_, Below.refl _ _⟩⟩
                    refine wp_region_quiet_beh (by kernel_rfl) (by kernel_rfl) ?_
                    repeat (quiet_step (fail))
                    refine wpQuiet_nil ?_
                    intro wq hw_
                    obtain ⟨⟨wz_, hbq⟩, hw_⟩ := hw_
                    subst hw_
                    try dsimp only
                    clear hne_
                    have HBz2 : Hid (Below w11.heap.size w11 wq) := below_step HBz.out (Nat.le_refl _) hbq
                    clear y0 y1 y2 y3 hbq HBz
                    go_wp2_with fail
                    refine ⟨?_, ?_⟩
                    · first
                      | exact ⟨kk + 1, by omega, by go_num, HBz2⟩
                      | ((repeat apply Exists.intro); refine ⟨?_, rfl⟩; exact ⟨kk + 1, by omega, by go_num, HBz2⟩)
                    · simp [intOf] <;> omega
                  · obtain rfl : kk = C := by omega
                    have b9 : ¬ ((kk : Int) < (kk : Int)) := by omega
                    have HSz : Hid (RlV w w.heap.size (keX b E B lg) wz) := HS11.out.on HBz.out
                    have HLz : Hid (LogO wz w.heap.size (.slice la2 wn lc2) lg) := HL11.out.on HBz.out
                    clear HS11 HL11 HI11 HBz hC
                    go_wp2_with fail
                    refine ⟨?_, ?_⟩
                    · first
                      | exact ⟨i + 1, b, E, B, lg, by omega, by omega, rfl, by go_num, HPX, HLz, HSz⟩
                      | ((repeat apply Exists.intro); refine ⟨?_, rfl⟩; exact ⟨i + 1, b, E, B, lg, by omega, by omega, rfl, by go_num, HPX, HLz, HSz⟩)
                    · simp [intOf] <;> omega
              · subst hq0
                have hA0 : bits .and .i64 (kept / 2 ^ min e31 64) 1 = 1 := hA1
                obtain ⟨n, hn⟩ : ∃ n, b + q7 = n := ⟨_, rfl⟩
                have hwn7 : IntKind.i64.wrap ((b : Int) + (q7 : Int)) = (n : Int) := by rw [IntKind.wrap_i64]; omega
                clear hA1
                go_wp2_with fail
                by_cases hk1 : b < n
                · have t1 : (b : Int) < (n : Int) := by omega
                  by_cases hk2 : n ≤ wn
                  · have t2 : (n : Int) ≤ (wn : Int) := by omega
                    obtain ⟨hkd, hko, hke⟩ := ke_kepY HP1.out (by omega) n hk1 (by rw [HLN.out]; exact hk2)
                    have HPX : Hid (KeP (2 * (i + 1)) n 2 ⟨#[115, 110, 97, 112]⟩ lg) := by show KeP _ _ _ _ _; rw [show 2 * (i + 1) = 2 * i + 1 + 1 by omega]; exact HP1.out.kept hk1 (by rw [HLN.out]; exact hk2) hko hke
                    have CA' := ask_gen w w.heap.size (keX b E B lg) (2 * (2 * i + 1)) HP1.out.ok HP1.out.ep (by omega) _ (kepF_fit (g := 7) (s := (n : Int)) (E := 2) (b := ⟨#[115, 110, 97, 112]⟩) ⟨by decide, by decide⟩ ⟨by omega, by omega⟩ ⟨by decide, by decide⟩ (by decide)) rfl (keX n 2 ⟨#[115, 110, 97, 112]⟩ lg) (kptF (n : Int)) hkd _ HS6.out
                    simp only [frmA, kepF, kptF, errF, withG, List.length_nil, show (keX b E B lg).1 = 7 from rfl] at CA'
                    have CA : Hid (Calls _ _ _ _ _) := CA'
                    clear CA'
                    refine CA.out.mono ?_
                    rintro e w7 ⟨a7, c7, rfl, _, _, hs7, ho7⟩
                    have hb7 : Below w7.heap.size w7 (w7.alloc (.cells #[.int .i64 6, .int .i64 7, .int .i64 (n : Int), .int .i64 0, .int .i64 0, .string ⟨#[]⟩, .slice a7 0 c7, .int .i64 0] 39)) := below_new _ _
                    have HS7 : Hid (RlV w w.heap.size (keX n 2 ⟨#[115, 110, 97, 112]⟩ lg) (w7.alloc (.cells #[.int .i64 6, .int .i64 7, .int .i64 (n : Int), .int .i64 0, .int .i64 0, .string ⟨#[]⟩, .slice a7 0 c7, .int .i64 0] 39))) := hs7.on hb7
                    have HL7 : Hid (LogO (w7.alloc (.cells #[.int .i64 6, .int .i64 7, .int .i64 (n : Int), .int .i64 0, .int .i64 0, .string ⟨#[]⟩, .slice a7 0 c7, .int .i64 0] 39)) w.heap.size (.slice la2 wn lc2) lg) := (HL6.out.ot ho7).on hb7
                    have HB7 : Hid (Blk (w7.alloc (.cells #[.int .i64 6, .int .i64 7, .int .i64 (n : Int), .int .i64 0, .int .i64 0, .string ⟨#[]⟩, .slice a7 0 c7, .int .i64 0] 39)) 39 w7.heap.size #[.int .i64 6, .int .i64 7, .int .i64 (n : Int), .int .i64 0, .int .i64 0, .string ⟨#[]⟩, .slice a7 0 c7, .int .i64 0]) := Blk.new _ _ _
                    have g70 : (w7.alloc (.cells #[.int .i64 6, .int .i64 7, .int .i64 (n : Int), .int .i64 0, .int .i64 0, .string ⟨#[]⟩, .slice a7 0 c7, .int .i64 0] 39)).cell? ⟨w7.heap.size, 0, none⟩ = some (.int .i64 6) := HB7.out.cell 0
                    clear CA hs7 ho7 hb7 HS6 HL6
                    go_wp2_with fail
                    clear HB7 g70
                    obtain ⟨v9, hr9, hv9⟩ := HS7.out.rel
                    have hXl : (keX n 2 ⟨#[115, 110, 97, 112]⟩ lg).2.2.2.length = wn - n := by show (keI n (lg.drop n)).length = _; rw [keI_len, List.length_drop, HLN.out]
                    have hbn : n ≤ wn := by have := HPX.out.bl; rw [HLN.out] at this; exact this
                    refine (ritems_any w.heap.size v9 (keX n 2 ⟨#[115, 110, 97, 112]⟩ lg) (by rw [hXl]; omega) _ hr9).mono ?_
                    rintro e w10 ⟨v10, rfl, ho10, hb10⟩
                    have HS10 : Hid (RlV w w.heap.size (keX n 2 ⟨#[115, 110, 97, 112]⟩ lg) w10) := HS7.out.on hb10
                    have HL10 : Hid (LogO w10 w.heap.size (.slice la2 wn lc2) lg) := HL7.out.on hb10
                    obtain ⟨a10, c10, rfl, hc10, _, hi10⟩ := ho10.rows
                    have HI10 : Hid (ItsAt w10 a10 (wn - n) (keX n 2 ⟨#[115, 110, 97, 112]⟩ lg).2.2.2) := by show ItsAt _ _ _ _; rw [← hXl]; exact hi10
                    rw [hXl]
                    obtain ⟨C, hC⟩ : ∃ C, wn - n = C := ⟨_, rfl⟩
                    have hwC : IntKind.i64.wrap ((wn : Int) - (n : Int)) = (C : Int) := by rw [IntKind.wrap_i64]; omega
                    rw [hC] at HI10 ⊢
                    clear hr9 hv9 hb10 hi10 ho10 HS7 HL7 hXl hc10
                    go_wp2_with fail
                    obtain ⟨v11, hr11, hv11⟩ := HS10.out.rel
                    refine (rbase_any w.heap.size v11 (keX n 2 ⟨#[115, 110, 97, 112]⟩ lg) w10 hr11).mono ?_
                    rintro e w11 ⟨rfl, hb11⟩
                    have HS11 : Hid (RlV w w.heap.size (keX n 2 ⟨#[115, 110, 97, 112]⟩ lg) w11) := HS10.out.on hb11
                    have HL11 : Hid (LogO w11 w.heap.size (.slice la2 wn lc2) lg) := HL10.out.on hb11
                    have HI11 : Hid (ItsAt w11 a10 C (keX n 2 ⟨#[115, 110, 97, 112]⟩ lg).2.2.2) := HI10.out.below hb11
                    rw [show (keX n 2 ⟨#[115, 110, 97, 112]⟩ lg).2.2.1.1 = (n : Int) from rfl]
                    clear hr11 hv11 hb11 HS10 HL10 HI10
                    go_wp2_with fail
                    go_loopw [21] (fun v wx => ∃ kk : Nat, kk ≤ C ∧ v = .int .i64 kk ∧ Hid (Below w11.heap.size w11 wx)) (fun v _ => C - (intOf v).toNat)
                    case atStart => exact ⟨0, Nat.zero_le _, rfl, Below.refl _ _⟩
                    case round =>
                      rename World => wz
                      obtain ⟨kk, hkk, rfl, HBz⟩ := hrel
                      by_cases hlt9 : kk < C
                      · have b9 : (kk : Int) < (C : Int) := by omega
                        obtain ⟨lb9, off9, rfl, hcl9⟩ := (HI11.out.below HBz.out).2.resolve_left (by omega)
                        obtain ⟨x0, x1, x2⟩ := hcl9 kk hlt9
                        have hlgl := HLN.out
                        have hat : itL (keX n 2 ⟨#[115, 110, 97, 112]⟩ lg).2.2.2 kk = (((n + kk : Nat) : Int) + 1, 2, txE lg (n + kk)) := by
                          show itL (keI n (lg.drop n)) kk = _
                          rw [keI_at _ n kk (by rw [List.length_drop]; omega), txE_drop]
                        rw [hat] at x0 x1 x2
                        obtain ⟨la9, lc9, hv9, _, _, hcells9⟩ := LogO.rows (log := lg) (by show LogO wz w.heap.size (.slice la2 wn lc2) lg; exact HL11.out.on HBz.out)
                        injection hv9 with e1 e2 e3
                        subst e1
                        obtain ⟨lg9, hlg9, cm9⟩ := hcells9 (n + kk) (by omega)
                        subst hlg9
                        obtain ⟨T9, hT9⟩ : ∃ T9, txE lg (n + kk) = T9 := ⟨_, rfl⟩
                        rw [hT9] at x2 cm9
                        obtain ⟨p9, hp9⟩ : ∃ p9, n + kk = p9 := ⟨_, rfl⟩
                        simp only [hp9] at x0 cm9
                        have hwp : IntKind.i64.wrap ((n : Int) + (kk : Int)) = (p9 : Int) := by rw [IntKind.wrap_i64]; omega
                        have hwp1 : IntKind.i64.wrap ((p9 : Int) + 1) = (p9 : Int) + 1 := by rw [IntKind.wrap_i64]; omega
                        have hpl : (p9 : Int) < (wn : Int) := by omega
                        have hp0 : (0 : Int) ≤ (p9 : Int) := by omega
                        have heq9 := fun W => itemEq (((p9 : Int) + 1, 2, T9) : ItT) ((p9 : Int) + 1, 2, T9) W
                        simp only [itemA, decide_true] at heq9
                        have y0 : ∀ p : Beh wz, p.w'.cell? ⟨lb9, off9 + kk * 3, none⟩ = some (.int .i64 ((p9 : Int) + 1)) := fun p => p.cell x0
                        have y1 : ∀ p : Beh wz, p.w'.cell? ⟨lb9, off9 + kk * 3 + 1, none⟩ = some (.int .i64 2) := fun p => p.cell x1
                        have y2 : ∀ p : Beh wz, p.w'.cell? ⟨lb9, off9 + kk * 3 + 2, none⟩ = some (.string T9) := fun p => p.cell x2
                        have y3 : ∀ p : Beh wz, p.w'.cell? ⟨lg9, p9, none⟩ = some (.string T9) := fun p => p.cell cm9
                        clear hcl9 hcells9 hat hT9 hp9 e2 e3 hlgl x0 x1 x2 cm9
                        go_wp2_with fail
                        have hne_ : Nonempty (Beh wz) := ⟨⟨_, Below.refl _ _⟩⟩
                        refine wp_region_quiet_beh (by kernel_rfl) (by kernel_rfl) ?_
                        repeat (quiet_step (fail))
                        refine wpQuiet_nil ?_
                        intro wq hw_
                        obtain ⟨⟨wz_, hbq⟩, hw_⟩ := hw_
                        subst hw_
                        try dsimp only
                        clear hne_
                        have HBz2 : Hid (Below w11.heap.size w11 wq) := below_step HBz.out (Nat.le_refl _) hbq
                        clear y0 y1 y2 y3 hbq HBz
                        go_wp2_with fail
                        refine ⟨?_, ?_⟩
                        · first
                          | exact ⟨kk + 1, by omega, by go_num, HBz2⟩
                          | ((repeat apply Exists.intro); refine ⟨?_, rfl⟩; exact ⟨kk + 1, by omega, by go_num, HBz2⟩)
                        · simp [intOf] <;> omega
                      · obtain rfl : kk = C := by omega
                        have b9 : ¬ ((kk : Int) < (kk : Int)) := by omega
                        have HSz : Hid (RlV w w.heap.size (keX n 2 ⟨#[115, 110, 97, 112]⟩ lg) wz) := HS11.out.on HBz.out
                        have HLz : Hid (LogO wz w.heap.size (.slice la2 wn lc2) lg) := HL11.out.on HBz.out
                        clear HS11 HL11 HI11 HBz hC
                        go_wp2_with fail
                        refine ⟨?_, ?_⟩
                        · first
                          | exact ⟨i + 1, n, 2, ⟨#[115, 110, 97, 112]⟩, lg, by omega, by omega, rfl, by go_num, HPX, HLz, HSz⟩
                          | ((repeat apply Exists.intro); refine ⟨?_, rfl⟩; exact ⟨i + 1, n, 2, ⟨#[115, 110, 97, 112]⟩, lg, by omega, by omega, rfl, by go_num, HPX, HLz, HSz⟩)
                        · simp [intOf] <;> omega
                  · have t2 : ¬ ((n : Int) ≤ (wn : Int)) := by omega
                    have HPX : Hid (KeP (2 * (i + 1)) b E B lg) := by show KeP _ _ _ _ _; rw [show 2 * (i + 1) = 2 * i + 1 + 1 by omega]; exact HP1.out.same
                    have CA' := ask_gen w w.heap.size (keX b E B lg) (2 * (2 * i + 1)) HP1.out.ok HP1.out.ep (by omega) _ (kepF_fit (g := 7) (s := (n : Int)) (E := 2) (b := ⟨#[115, 110, 97, 112]⟩) ⟨by decide, by decide⟩ ⟨by omega, by omega⟩ ⟨by decide, by decide⟩ (by decide)) rfl (keX b E B lg) (errF 1) (ke_kepN HP1.out n (by rw [HLN.out]; omega)) _ HS6.out
                    simp only [frmA, kepF, kptF, errF, withG, List.length_nil, show (keX b E B lg).1 = 7 from rfl] at CA'
                    have CA : Hid (Calls _ _ _ _ _) := CA'
                    clear CA'
                    refine CA.out.mono ?_
                    rintro e w7 ⟨a7, c7, rfl, _, _, hs7, ho7⟩
                    have hb7 : Below w7.heap.size w7 (w7.alloc (.cells #[.int .i64 9, .int .i64 7, .int .i64 0, .int .i64 0, .int .i64 0, .string ⟨#[]⟩, .slice a7 0 c7, .int .i64 1] 39)) := below_new _ _
                    have HS7 : Hid (RlV w w.heap.size (keX b E B lg) (w7.alloc (.cells #[.int .i64 9, .int .i64 7, .int .i64 0, .int .i64 0, .int .i64 0, .string ⟨#[]⟩, .slice a7 0 c7, .int .i64 1] 39))) := hs7.on hb7
                    have HL7 : Hid (LogO (w7.alloc (.cells #[.int .i64 9, .int .i64 7, .int .i64 0, .int .i64 0, .int .i64 0, .string ⟨#[]⟩, .slice a7 0 c7, .int .i64 1] 39)) w.heap.size (.slice la2 wn lc2) lg) := (HL6.out.ot ho7).on hb7
                    have HB7 : Hid (Blk (w7.alloc (.cells #[.int .i64 9, .int .i64 7, .int .i64 0, .int .i64 0, .int .i64 0, .string ⟨#[]⟩, .slice a7 0 c7, .int .i64 1] 39)) 39 w7.heap.size #[.int .i64 9, .int .i64 7, .int .i64 0, .int .i64 0, .int .i64 0, .string ⟨#[]⟩, .slice a7 0 c7, .int .i64 1]) := Blk.new _ _ _
                    have g70 : (w7.alloc (.cells #[.int .i64 9, .int .i64 7, .int .i64 0, .int .i64 0, .int .i64 0, .string ⟨#[]⟩, .slice a7 0 c7, .int .i64 1] 39)).cell? ⟨w7.heap.size, 0, none⟩ = some (.int .i64 9) := HB7.out.cell 0
                    clear CA hs7 ho7 hb7 HS6 HL6
                    go_wp2_with fail
                    clear HB7 g70
                    obtain ⟨v9, hr9, hv9⟩ := HS7.out.rel
                    have hXl : (keX b E B lg).2.2.2.length = wn - b := by show (keI b (lg.drop b)).length = _; rw [keI_len, List.length_drop, HLN.out]
                    have hbn : b ≤ wn := by have := HPX.out.bl; rw [HLN.out] at this; exact this
                    refine (ritems_any w.heap.size v9 (keX b E B lg) (by rw [hXl]; omega) _ hr9).mono ?_
                    rintro e w10 ⟨v10, rfl, ho10, hb10⟩
                    have HS10 : Hid (RlV w w.heap.size (keX b E B lg) w10) := HS7.out.on hb10
                    have HL10 : Hid (LogO w10 w.heap.size (.slice la2 wn lc2) lg) := HL7.out.on hb10
                    obtain ⟨a10, c10, rfl, hc10, _, hi10⟩ := ho10.rows
                    have HI10 : Hid (ItsAt w10 a10 (wn - b) (keX b E B lg).2.2.2) := by show ItsAt _ _ _ _; rw [← hXl]; exact hi10
                    rw [hXl]
                    obtain ⟨C, hC⟩ : ∃ C, wn - b = C := ⟨_, rfl⟩
                    have hwC : IntKind.i64.wrap ((wn : Int) - (b : Int)) = (C : Int) := by rw [IntKind.wrap_i64]; omega
                    rw [hC] at HI10 ⊢
                    clear hr9 hv9 hb10 hi10 ho10 HS7 HL7 hXl hc10
                    go_wp2_with fail
                    obtain ⟨v11, hr11, hv11⟩ := HS10.out.rel
                    refine (rbase_any w.heap.size v11 (keX b E B lg) w10 hr11).mono ?_
                    rintro e w11 ⟨rfl, hb11⟩
                    have HS11 : Hid (RlV w w.heap.size (keX b E B lg) w11) := HS10.out.on hb11
                    have HL11 : Hid (LogO w11 w.heap.size (.slice la2 wn lc2) lg) := HL10.out.on hb11
                    have HI11 : Hid (ItsAt w11 a10 C (keX b E B lg).2.2.2) := HI10.out.below hb11
                    rw [show (keX b E B lg).2.2.1.1 = (b : Int) from rfl]
                    clear hr11 hv11 hb11 HS10 HL10 HI10
                    go_wp2_with fail
                    go_loopw [21] (fun v wx => ∃ kk : Nat, kk ≤ C ∧ v = .int .i64 kk ∧ Hid (Below w11.heap.size w11 wx)) (fun v _ => C - (intOf v).toNat)
                    case atStart => exact ⟨0, Nat.zero_le _, rfl, Below.refl _ _⟩
                    case round =>
                      rename World => wz
                      obtain ⟨kk, hkk, rfl, HBz⟩ := hrel
                      by_cases hlt9 : kk < C
                      · have b9 : (kk : Int) < (C : Int) := by omega
                        obtain ⟨lb9, off9, rfl, hcl9⟩ := (HI11.out.below HBz.out).2.resolve_left (by omega)
                        obtain ⟨x0, x1, x2⟩ := hcl9 kk hlt9
                        have hlgl := HLN.out
                        have hat : itL (keX b E B lg).2.2.2 kk = (((b + kk : Nat) : Int) + 1, 2, txE lg (b + kk)) := by
                          show itL (keI b (lg.drop b)) kk = _
                          rw [keI_at _ b kk (by rw [List.length_drop]; omega), txE_drop]
                        rw [hat] at x0 x1 x2
                        obtain ⟨la9, lc9, hv9, _, _, hcells9⟩ := LogO.rows (log := lg) (by show LogO wz w.heap.size (.slice la2 wn lc2) lg; exact HL11.out.on HBz.out)
                        injection hv9 with e1 e2 e3
                        subst e1
                        obtain ⟨lg9, hlg9, cm9⟩ := hcells9 (b + kk) (by omega)
                        subst hlg9
                        obtain ⟨T9, hT9⟩ : ∃ T9, txE lg (b + kk) = T9 := ⟨_, rfl⟩
                        rw [hT9] at x2 cm9
                        obtain ⟨p9, hp9⟩ : ∃ p9, b + kk = p9 := ⟨_, rfl⟩
                        simp only [hp9] at x0 cm9
                        have hwp : IntKind.i64.wrap ((b : Int) + (kk : Int)) = (p9 : Int) := by rw [IntKind.wrap_i64]; omega
                        have hwp1 : IntKind.i64.wrap ((p9 : Int) + 1) = (p9 : Int) + 1 := by rw [IntKind.wrap_i64]; omega
                        have hpl : (p9 : Int) < (wn : Int) := by omega
                        have hp0 : (0 : Int) ≤ (p9 : Int) := by omega
                        have heq9 := fun W => itemEq (((p9 : Int) + 1, 2, T9) : ItT) ((p9 : Int) + 1, 2, T9) W
                        simp only [itemA, decide_true] at heq9
                        have y0 : ∀ p : Beh wz, p.w'.cell? ⟨lb9, off9 + kk * 3, none⟩ = some (.int .i64 ((p9 : Int) + 1)) := fun p => p.cell x0
                        have y1 : ∀ p : Beh wz, p.w'.cell? ⟨lb9, off9 + kk * 3 + 1, none⟩ = some (.int .i64 2) := fun p => p.cell x1
                        have y2 : ∀ p : Beh wz, p.w'.cell? ⟨lb9, off9 + kk * 3 + 2, none⟩ = some (.string T9) := fun p => p.cell x2
                        have y3 : ∀ p : Beh wz, p.w'.cell? ⟨lg9, p9, none⟩ = some (.string T9) := fun p => p.cell cm9
                        clear hcl9 hcells9 hat hT9 hp9 e2 e3 hlgl x0 x1 x2 cm9
                        go_wp2_with fail
                        have hne_ : Nonempty (Beh wz) := ⟨⟨_, Below.refl _ _⟩⟩
                        refine wp_region_quiet_beh (by kernel_rfl) (by kernel_rfl) ?_
                        repeat (quiet_step (fail))
                        refine wpQuiet_nil ?_
                        intro wq hw_
                        obtain ⟨⟨wz_, hbq⟩, hw_⟩ := hw_
                        subst hw_
                        try dsimp only
                        clear hne_
                        have HBz2 : Hid (Below w11.heap.size w11 wq) := below_step HBz.out (Nat.le_refl _) hbq
                        clear y0 y1 y2 y3 hbq HBz
                        go_wp2_with fail
                        refine ⟨?_, ?_⟩
                        · first
                          | exact ⟨kk + 1, by omega, by go_num, HBz2⟩
                          | ((repeat apply Exists.intro); refine ⟨?_, rfl⟩; exact ⟨kk + 1, by omega, by go_num, HBz2⟩)
                        · simp [intOf] <;> omega
                      · obtain rfl : kk = C := by omega
                        have b9 : ¬ ((kk : Int) < (kk : Int)) := by omega
                        have HSz : Hid (RlV w w.heap.size (keX b E B lg) wz) := HS11.out.on HBz.out
                        have HLz : Hid (LogO wz w.heap.size (.slice la2 wn lc2) lg) := HL11.out.on HBz.out
                        clear HS11 HL11 HI11 HBz hC
                        go_wp2_with fail
                        refine ⟨?_, ?_⟩
                        · first
                          | exact ⟨i + 1, b, E, B, lg, by omega, by omega, rfl, by go_num, HPX, HLz, HSz⟩
                          | ((repeat apply Exists.intro); refine ⟨?_, rfl⟩; exact ⟨i + 1, b, E, B, lg, by omega, by omega, rfl, by go_num, HPX, HLz, HSz⟩)
                        · simp [intOf] <;> omega
                · have t1 : ¬ ((b : Int) < (n : Int)) := by omega
                  have HPX : Hid (KeP (2 * (i + 1)) b E B lg) := by show KeP _ _ _ _ _; rw [show 2 * (i + 1) = 2 * i + 1 + 1 by omega]; exact HP1.out.same
                  have CA' := ask_gen w w.heap.size (keX b E B lg) (2 * (2 * i + 1)) HP1.out.ok HP1.out.ep (by omega) _ (kepF_fit (g := 7) (s := (n : Int)) (E := 2) (b := ⟨#[115, 110, 97, 112]⟩) ⟨by decide, by decide⟩ ⟨by omega, by omega⟩ ⟨by decide, by decide⟩ (by decide)) rfl (keX b E B lg) (errF 1) (ke_kepN HP1.out n (by omega)) _ HS6.out
                  simp only [frmA, kepF, kptF, errF, withG, List.length_nil, show (keX b E B lg).1 = 7 from rfl] at CA'
                  have CA : Hid (Calls _ _ _ _ _) := CA'
                  clear CA'
                  refine CA.out.mono ?_
                  rintro e w7 ⟨a7, c7, rfl, _, _, hs7, ho7⟩
                  have hb7 : Below w7.heap.size w7 (w7.alloc (.cells #[.int .i64 9, .int .i64 7, .int .i64 0, .int .i64 0, .int .i64 0, .string ⟨#[]⟩, .slice a7 0 c7, .int .i64 1] 39)) := below_new _ _
                  have HS7 : Hid (RlV w w.heap.size (keX b E B lg) (w7.alloc (.cells #[.int .i64 9, .int .i64 7, .int .i64 0, .int .i64 0, .int .i64 0, .string ⟨#[]⟩, .slice a7 0 c7, .int .i64 1] 39))) := hs7.on hb7
                  have HL7 : Hid (LogO (w7.alloc (.cells #[.int .i64 9, .int .i64 7, .int .i64 0, .int .i64 0, .int .i64 0, .string ⟨#[]⟩, .slice a7 0 c7, .int .i64 1] 39)) w.heap.size (.slice la2 wn lc2) lg) := (HL6.out.ot ho7).on hb7
                  have HB7 : Hid (Blk (w7.alloc (.cells #[.int .i64 9, .int .i64 7, .int .i64 0, .int .i64 0, .int .i64 0, .string ⟨#[]⟩, .slice a7 0 c7, .int .i64 1] 39)) 39 w7.heap.size #[.int .i64 9, .int .i64 7, .int .i64 0, .int .i64 0, .int .i64 0, .string ⟨#[]⟩, .slice a7 0 c7, .int .i64 1]) := Blk.new _ _ _
                  have g70 : (w7.alloc (.cells #[.int .i64 9, .int .i64 7, .int .i64 0, .int .i64 0, .int .i64 0, .string ⟨#[]⟩, .slice a7 0 c7, .int .i64 1] 39)).cell? ⟨w7.heap.size, 0, none⟩ = some (.int .i64 9) := HB7.out.cell 0
                  clear CA hs7 ho7 hb7 HS6 HL6
                  go_wp2_with fail
                  clear HB7 g70
                  obtain ⟨v9, hr9, hv9⟩ := HS7.out.rel
                  have hXl : (keX b E B lg).2.2.2.length = wn - b := by show (keI b (lg.drop b)).length = _; rw [keI_len, List.length_drop, HLN.out]
                  have hbn : b ≤ wn := by have := HPX.out.bl; rw [HLN.out] at this; exact this
                  refine (ritems_any w.heap.size v9 (keX b E B lg) (by rw [hXl]; omega) _ hr9).mono ?_
                  rintro e w10 ⟨v10, rfl, ho10, hb10⟩
                  have HS10 : Hid (RlV w w.heap.size (keX b E B lg) w10) := HS7.out.on hb10
                  have HL10 : Hid (LogO w10 w.heap.size (.slice la2 wn lc2) lg) := HL7.out.on hb10
                  obtain ⟨a10, c10, rfl, hc10, _, hi10⟩ := ho10.rows
                  have HI10 : Hid (ItsAt w10 a10 (wn - b) (keX b E B lg).2.2.2) := by show ItsAt _ _ _ _; rw [← hXl]; exact hi10
                  rw [hXl]
                  obtain ⟨C, hC⟩ : ∃ C, wn - b = C := ⟨_, rfl⟩
                  have hwC : IntKind.i64.wrap ((wn : Int) - (b : Int)) = (C : Int) := by rw [IntKind.wrap_i64]; omega
                  rw [hC] at HI10 ⊢
                  clear hr9 hv9 hb10 hi10 ho10 HS7 HL7 hXl hc10
                  go_wp2_with fail
                  obtain ⟨v11, hr11, hv11⟩ := HS10.out.rel
                  refine (rbase_any w.heap.size v11 (keX b E B lg) w10 hr11).mono ?_
                  rintro e w11 ⟨rfl, hb11⟩
                  have HS11 : Hid (RlV w w.heap.size (keX b E B lg) w11) := HS10.out.on hb11
                  have HL11 : Hid (LogO w11 w.heap.size (.slice la2 wn lc2) lg) := HL10.out.on hb11
                  have HI11 : Hid (ItsAt w11 a10 C (keX b E B lg).2.2.2) := HI10.out.below hb11
                  rw [show (keX b E B lg).2.2.1.1 = (b : Int) from rfl]
                  clear hr11 hv11 hb11 HS10 HL10 HI10
                  go_wp2_with fail
                  go_loopw [21] (fun v wx => ∃ kk : Nat, kk ≤ C ∧ v = .int .i64 kk ∧ Hid (Below w11.heap.size w11 wx)) (fun v _ => C - (intOf v).toNat)
                  case atStart => exact ⟨0, Nat.zero_le _, rfl, Below.refl _ _⟩
                  case round =>
                    rename World => wz
                    obtain ⟨kk, hkk, rfl, HBz⟩ := hrel
                    by_cases hlt9 : kk < C
                    · have b9 : (kk : Int) < (C : Int) := by omega
                      obtain ⟨lb9, off9, rfl, hcl9⟩ := (HI11.out.below HBz.out).2.resolve_left (by omega)
                      obtain ⟨x0, x1, x2⟩ := hcl9 kk hlt9
                      have hlgl := HLN.out
                      have hat : itL (keX b E B lg).2.2.2 kk = (((b + kk : Nat) : Int) + 1, 2, txE lg (b + kk)) := by
                        show itL (keI b (lg.drop b)) kk = _
                        rw [keI_at _ b kk (by rw [List.length_drop]; omega), txE_drop]
                      rw [hat] at x0 x1 x2
                      obtain ⟨la9, lc9, hv9, _, _, hcells9⟩ := LogO.rows (log := lg) (by show LogO wz w.heap.size (.slice la2 wn lc2) lg; exact HL11.out.on HBz.out)
                      injection hv9 with e1 e2 e3
                      subst e1
                      obtain ⟨lg9, hlg9, cm9⟩ := hcells9 (b + kk) (by omega)
                      subst hlg9
                      obtain ⟨T9, hT9⟩ : ∃ T9, txE lg (b + kk) = T9 := ⟨_, rfl⟩
                      rw [hT9] at x2 cm9
                      obtain ⟨p9, hp9⟩ : ∃ p9, b + kk = p9 := ⟨_, rfl⟩
                      simp only [hp9] at x0 cm9
                      have hwp : IntKind.i64.wrap ((b : Int) + (kk : Int)) = (p9 : Int) := by rw [IntKind.wrap_i64]; omega
                      have hwp1 : IntKind.i64.wrap ((p9 : Int) + 1) = (p9 : Int) + 1 := by rw [IntKind.wrap_i64]; omega
                      have hpl : (p9 : Int) < (wn : Int) := by omega
                      have hp0 : (0 : Int) ≤ (p9 : Int) := by omega
                      have heq9 := fun W => itemEq (((p9 : Int) + 1, 2, T9) : ItT) ((p9 : Int) + 1, 2, T9) W
                      simp only [itemA, decide_true] at heq9
                      have y0 : ∀ p : Beh wz, p.w'.cell? ⟨lb9, off9 + kk * 3, none⟩ = some (.int .i64 ((p9 : Int) + 1)) := fun p => p.cell x0
                      have y1 : ∀ p : Beh wz, p.w'.cell? ⟨lb9, off9 + kk * 3 + 1, none⟩ = some (.int .i64 2) := fun p => p.cell x1
                      have y2 : ∀ p : Beh wz, p.w'.cell? ⟨lb9, off9 + kk * 3 + 2, none⟩ = some (.string T9) := fun p => p.cell x2
                      have y3 : ∀ p : Beh wz, p.w'.cell? ⟨lg9, p9, none⟩ = some (.string T9) := fun p => p.cell cm9
                      clear hcl9 hcells9 hat hT9 hp9 e2 e3 hlgl x0 x1 x2 cm9
                      go_wp2_with fail
                      have hne_ : Nonempty (Beh wz) := ⟨⟨_, Below.refl _ _⟩⟩
                      refine wp_region_quiet_beh (by kernel_rfl) (by kernel_rfl) ?_
                      repeat (quiet_step (fail))
                      refine wpQuiet_nil ?_
                      intro wq hw_
                      obtain ⟨⟨wz_, hbq⟩, hw_⟩ := hw_
                      subst hw_
                      try dsimp only
                      clear hne_
                      have HBz2 : Hid (Below w11.heap.size w11 wq) := below_step HBz.out (Nat.le_refl _) hbq
                      clear y0 y1 y2 y3 hbq HBz
                      go_wp2_with fail
                      refine ⟨?_, ?_⟩
                      · first
                        | exact ⟨kk + 1, by omega, by go_num, HBz2⟩
                        | ((repeat apply Exists.intro); refine ⟨?_, rfl⟩; exact ⟨kk + 1, by omega, by go_num, HBz2⟩)
                      · simp [intOf] <;> omega
                    · obtain rfl : kk = C := by omega
                      have b9 : ¬ ((kk : Int) < (kk : Int)) := by omega
                      have HSz : Hid (RlV w w.heap.size (keX b E B lg) wz) := HS11.out.on HBz.out
                      have HLz : Hid (LogO wz w.heap.size (.slice la2 wn lc2) lg) := HL11.out.on HBz.out
                      clear HS11 HL11 HI11 HBz hC
                      go_wp2_with fail
                      refine ⟨?_, ?_⟩
                      · first
                        | exact ⟨i + 1, b, E, B, lg, by omega, by omega, rfl, by go_num, HPX, HLz, HSz⟩
                        | ((repeat apply Exists.intro); refine ⟨?_, rfl⟩; exact ⟨i + 1, b, E, B, lg, by omega, by omega, rfl, by go_num, HPX, HLz, HSz⟩)
                      · simp [intOf] <;> omega
            · obtain ⟨wn', hwn⟩ : ∃ wn', j + 1 = wn' := ⟨_, rfl⟩
              rw [hwn] at hj4
              subst hj4
              have hwz : ¬ (wn = 0) := by omega
              have hwz2 : ((wn : Int) == 0) = false := by rw [beq_eq_false_iff_ne]; omega
              have hdo := ke_old HP.out x j hj1 (by have := HLL.out; omega) hj3
              rw [show (j : Int) + 1 = (wn : Int) by omega] at hdo
              obtain ⟨lg, hlg⟩ : ∃ lg, log = lg := ⟨_, rfl⟩
              have HD : Hid (doR (keX b E B log) (appF 7 2 x) = (keX b E B lg, takF ((wn : Int)))) := by show _ = _; rw [← hlg]; exact hdo
              have HP1 : Hid (KeP (2 * i + 1) b E B lg) := by show KeP _ _ _ _ _; rw [← hlg]; exact HP.out.same
              have HL : Hid (LogO wx w.heap.size (.slice la m lc) lg) := by show LogO _ _ _ _; rw [← hlg]; exact HLx.out
              have HR4 : Hid (RlV w w.heap.size (keX b E B log) wx) := HSx.out
              have HLN : Hid (lg.length = m) := by show _ = _; rw [← hlg]; exact HLL.out
              clear hdo hlg HSx HLx HW hj3 hwn
              go_wp2_with fail
              have CA' := ask_gen w w.heap.size (keX b E B log) (2 * (2 * i)) HP.out.ok HP.out.ep (by omega) _ (appF_fit (g := 7) (E := 2) (b := x) ⟨by decide, by decide⟩ ⟨by decide, by decide⟩ (by have := HXS.out; omega)) rfl (keX b E B lg) (takF ((wn : Int))) HD.out _ HR4.out
              simp only [frmA, appF, takF, withG, List.length_nil, show (keX b E B log).1 = 7 from rfl] at CA'
              have CA : Hid (Calls _ _ _ _ _) := CA'
              clear CA'
              refine CA.out.mono ?_
              rintro e w5 ⟨a5, c5, rfl, _, _, hs5, ho5⟩
              have hb5 : Below w5.heap.size w5 (w5.alloc (.cells #[.int .i64 2, .int .i64 7, .int .i64 (wn : Int), .int .i64 0, .int .i64 0, .string ⟨#[]⟩, .slice a5 0 c5, .int .i64 0] 39)) := below_new _ _
              have HS5 : Hid (RlV w w.heap.size (keX b E B lg) (w5.alloc (.cells #[.int .i64 2, .int .i64 7, .int .i64 (wn : Int), .int .i64 0, .int .i64 0, .string ⟨#[]⟩, .slice a5 0 c5, .int .i64 0] 39))) := hs5.on hb5
              have HL5 : Hid (LogO (w5.alloc (.cells #[.int .i64 2, .int .i64 7, .int .i64 (wn : Int), .int .i64 0, .int .i64 0, .string ⟨#[]⟩, .slice a5 0 c5, .int .i64 0] 39)) w.heap.size (.slice la m lc) lg) := (HL.out.ot ho5).on hb5
              have HB5 : Hid (Blk (w5.alloc (.cells #[.int .i64 2, .int .i64 7, .int .i64 (wn : Int), .int .i64 0, .int .i64 0, .string ⟨#[]⟩, .slice a5 0 c5, .int .i64 0] 39)) 39 w5.heap.size #[.int .i64 2, .int .i64 7, .int .i64 (wn : Int), .int .i64 0, .int .i64 0, .string ⟨#[]⟩, .slice a5 0 c5, .int .i64 0]) := Blk.new _ _ _
              have g50 : (w5.alloc (.cells #[.int .i64 2, .int .i64 7, .int .i64 (wn : Int), .int .i64 0, .int .i64 0, .string ⟨#[]⟩, .slice a5 0 c5, .int .i64 0] 39)).cell? ⟨w5.heap.size, 0, none⟩ = some (.int .i64 2) := HB5.out.cell 0
              have g52 : (w5.alloc (.cells #[.int .i64 2, .int .i64 7, .int .i64 (wn : Int), .int .i64 0, .int .i64 0, .string ⟨#[]⟩, .slice a5 0 c5, .int .i64 0] 39)).cell? ⟨w5.heap.size, 2, none⟩ = some (.int .i64 (wn : Int)) := HB5.out.cell 2
              clear CA hs5 ho5 hb5 HR4 HL HD
              go_wp2_with fail
              obtain ⟨v5, hr5, hv5⟩ := HS5.out.rel
              refine (rlast_any w.heap.size v5 (keX b E B lg) (2 * (2 * i + 1)) (by omega) HP1.out.ok _ hr5).mono ?_
              rintro e w6 ⟨rfl, hb6⟩
              have HS6 : Hid (RlV w w.heap.size (keX b E B lg) w6) := HS5.out.on hb6
              have HL6 : Hid (LogO w6 w.heap.size (.slice la m lc) lg) := HL5.out.on hb6
              rw [keX_last HP1.out.bl, HLN.out]
              clear hr5 hv5 hb6 HS5 HL5 HB5 g50 g52 HP
              obtain ⟨e31, he31⟩ : ∃ e31 : Nat, ((i : Int) % 32).toNat = e31 := ⟨_, rfl⟩
              have hs31 : bits .and .i64 (i : Int) 31 = (e31 : Int) := by rw [i64_mask (i : Int) 5 (by decide) 31 (by decide)]; omega
              obtain ⟨q1, hA1, hq1l⟩ : ∃ q1 : Nat, bits .and .i64 (kept / 2 ^ min e31 64) 1 = (q1 : Int) ∧ q1 < 2 := ⟨((kept / 2 ^ min e31 64) % 2).toNat, by rw [i64_mask (kept / 2 ^ min e31 64) 1 (by decide) 1 (by decide)]; omega, by omega⟩
              obtain ⟨e7, he7⟩ : ∃ e7 : Nat, ((i : Int) % 8).toNat = e7 := ⟨_, rfl⟩
              have hs7e : bits .and .i64 (i : Int) 7 = (e7 : Int) := by rw [i64_mask (i : Int) 3 (by decide) 7 (by decide)]; omega
              obtain ⟨q7, hA7, hq7l⟩ : ∃ q7 : Nat, bits .and .i64 (upto / 2 ^ min e7 64) 7 = (q7 : Int) ∧ q7 < 8 := ⟨((upto / 2 ^ min e7 64) % 8).toNat, by rw [i64_mask (upto / 2 ^ min e7 64) 3 (by decide) 7 (by decide)]; omega, by omega⟩
              have hlnb : m ≤ 90 := by have h1 := HP1.out.n; rw [HLN.out] at h1; omega
              have hbbn : b ≤ m := by have h1 := HP1.out.bl; rw [HLN.out] at h1; exact h1
              clear he31 he7
              rcases (show q1 = 0 ∨ q1 = 1 by omega) with hq0 | hq0
              · subst hq0
                have hA0 : bits .and .i64 (kept / 2 ^ min e31 64) 1 = 0 := hA1
                have HPX : Hid (KeP (2 * (i + 1)) b E B lg) := by show KeP _ _ _ _ _; rw [show 2 * (i + 1) = 2 * i + 1 + 1 by omega]; exact HP1.out.same
                clear hA1
                go_wp2_with fail
                obtain ⟨v9, hr9, hv9⟩ := HS6.out.rel
                have hXl : (keX b E B lg).2.2.2.length = m - b := by show (keI b (lg.drop b)).length = _; rw [keI_len, List.length_drop, HLN.out]
                have hbn : b ≤ m := by have := HPX.out.bl; rw [HLN.out] at this; exact this
                refine (ritems_any w.heap.size v9 (keX b E B lg) (by rw [hXl]; omega) _ hr9).mono ?_
                rintro e w10 ⟨v10, rfl, ho10, hb10⟩
                have HS10 : Hid (RlV w w.heap.size (keX b E B lg) w10) := HS6.out.on hb10
                have HL10 : Hid (LogO w10 w.heap.size (.slice la m lc) lg) := HL6.out.on hb10
                obtain ⟨a10, c10, rfl, hc10, _, hi10⟩ := ho10.rows
                have HI10 : Hid (ItsAt w10 a10 (m - b) (keX b E B lg).2.2.2) := by show ItsAt _ _ _ _; rw [← hXl]; exact hi10
                rw [hXl]
                obtain ⟨C, hC⟩ : ∃ C, m - b = C := ⟨_, rfl⟩
                have hwC : IntKind.i64.wrap ((m : Int) - (b : Int)) = (C : Int) := by rw [IntKind.wrap_i64]; omega
                rw [hC] at HI10 ⊢
                clear hr9 hv9 hb10 hi10 ho10 HS6 HL6 hXl hc10
                go_wp2_with fail
                obtain ⟨v11, hr11, hv11⟩ := HS10.out.rel
                refine (rbase_any w.heap.size v11 (keX b E B lg) w10 hr11).mono ?_
                rintro e w11 ⟨rfl, hb11⟩
                have HS11 : Hid (RlV w w.heap.size (keX b E B lg) w11) := HS10.out.on hb11
                have HL11 : Hid (LogO w11 w.heap.size (.slice la m lc) lg) := HL10.out.on hb11
                have HI11 : Hid (ItsAt w11 a10 C (keX b E B lg).2.2.2) := HI10.out.below hb11
                rw [show (keX b E B lg).2.2.1.1 = (b : Int) from rfl]
                clear hr11 hv11 hb11 HS10 HL10 HI10
                go_wp2_with fail
                go_loopw [21] (fun v wx => ∃ kk : Nat, kk ≤ C ∧ v = .int .i64 kk ∧ Hid (Below w11.heap.size w11 wx)) (fun v _ => C - (intOf v).toNat)
                case atStart => exact ⟨0, Nat.zero_le _, rfl, Below.refl _ _⟩
                case round =>
                  rename World => wz
                  obtain ⟨kk, hkk, rfl, HBz⟩ := hrel
                  by_cases hlt9 : kk < C
                  · have b9 : (kk : Int) < (C : Int) := by omega
                    obtain ⟨lb9, off9, rfl, hcl9⟩ := (HI11.out.below HBz.out).2.resolve_left (by omega)
                    obtain ⟨x0, x1, x2⟩ := hcl9 kk hlt9
                    have hlgl := HLN.out
                    have hat : itL (keX b E B lg).2.2.2 kk = (((b + kk : Nat) : Int) + 1, 2, txE lg (b + kk)) := by
                      show itL (keI b (lg.drop b)) kk = _
                      rw [keI_at _ b kk (by rw [List.length_drop]; omega), txE_drop]
                    rw [hat] at x0 x1 x2
                    obtain ⟨la9, lc9, hv9, _, _, hcells9⟩ := LogO.rows (log := lg) (by show LogO wz w.heap.size (.slice la m lc) lg; exact HL11.out.on HBz.out)
                    injection hv9 with e1 e2 e3
                    subst e1
                    obtain ⟨lg9, hlg9, cm9⟩ := hcells9 (b + kk) (by omega)
                    subst hlg9
                    obtain ⟨T9, hT9⟩ : ∃ T9, txE lg (b + kk) = T9 := ⟨_, rfl⟩
                    rw [hT9] at x2 cm9
                    obtain ⟨p9, hp9⟩ : ∃ p9, b + kk = p9 := ⟨_, rfl⟩
                    simp only [hp9] at x0 cm9
                    have hwp : IntKind.i64.wrap ((b : Int) + (kk : Int)) = (p9 : Int) := by rw [IntKind.wrap_i64]; omega
                    have hwp1 : IntKind.i64.wrap ((p9 : Int) + 1) = (p9 : Int) + 1 := by rw [IntKind.wrap_i64]; omega
                    have hpl : (p9 : Int) < (m : Int) := by omega
                    have hp0 : (0 : Int) ≤ (p9 : Int) := by omega
                    have heq9 := fun W => itemEq (((p9 : Int) + 1, 2, T9) : ItT) ((p9 : Int) + 1, 2, T9) W
                    simp only [itemA, decide_true] at heq9
                    have y0 : ∀ p : Beh wz, p.w'.cell? ⟨lb9, off9 + kk * 3, none⟩ = some (.int .i64 ((p9 : Int) + 1)) := fun p => p.cell x0
                    have y1 : ∀ p : Beh wz, p.w'.cell? ⟨lb9, off9 + kk * 3 + 1, none⟩ = some (.int .i64 2) := fun p => p.cell x1
                    have y2 : ∀ p : Beh wz, p.w'.cell? ⟨lb9, off9 + kk * 3 + 2, none⟩ = some (.string T9) := fun p => p.cell x2
                    have y3 : ∀ p : Beh wz, p.w'.cell? ⟨lg9, p9, none⟩ = some (.string T9) := fun p => p.cell cm9
                    clear hcl9 hcells9 hat hT9 hp9 e2 e3 hlgl x0 x1 x2 cm9
                    go_wp2_with fail
                    have hne_ : Nonempty (Beh wz) := ⟨⟨_, Below.refl _ _⟩⟩
                    refine wp_region_quiet_beh (by kernel_rfl) (by kernel_rfl) ?_
                    repeat (quiet_step (fail))
                    refine wpQuiet_nil ?_
                    intro wq hw_
                    obtain ⟨⟨wz_, hbq⟩, hw_⟩ := hw_
                    subst hw_
                    try dsimp only
                    clear hne_
                    have HBz2 : Hid (Below w11.heap.size w11 wq) := below_step HBz.out (Nat.le_refl _) hbq
                    clear y0 y1 y2 y3 hbq HBz
                    go_wp2_with fail
                    refine ⟨?_, ?_⟩
                    · first
                      | exact ⟨kk + 1, by omega, by go_num, HBz2⟩
                      | ((repeat apply Exists.intro); refine ⟨?_, rfl⟩; exact ⟨kk + 1, by omega, by go_num, HBz2⟩)
                    · simp [intOf] <;> omega
                  · obtain rfl : kk = C := by omega
                    have b9 : ¬ ((kk : Int) < (kk : Int)) := by omega
                    have HSz : Hid (RlV w w.heap.size (keX b E B lg) wz) := HS11.out.on HBz.out
                    have HLz : Hid (LogO wz w.heap.size (.slice la m lc) lg) := HL11.out.on HBz.out
                    clear HS11 HL11 HI11 HBz hC
                    go_wp2_with fail
                    refine ⟨?_, ?_⟩
                    · first
                      | exact ⟨i + 1, b, E, B, lg, by omega, by omega, rfl, by go_num, HPX, HLz, HSz⟩
                      | ((repeat apply Exists.intro); refine ⟨?_, rfl⟩; exact ⟨i + 1, b, E, B, lg, by omega, by omega, rfl, by go_num, HPX, HLz, HSz⟩)
                    · simp [intOf] <;> omega
              · subst hq0
                have hA0 : bits .and .i64 (kept / 2 ^ min e31 64) 1 = 1 := hA1
                obtain ⟨n, hn⟩ : ∃ n, b + q7 = n := ⟨_, rfl⟩
                have hwn7 : IntKind.i64.wrap ((b : Int) + (q7 : Int)) = (n : Int) := by rw [IntKind.wrap_i64]; omega
                clear hA1
                go_wp2_with fail
                by_cases hk1 : b < n
                · have t1 : (b : Int) < (n : Int) := by omega
                  by_cases hk2 : n ≤ m
                  · have t2 : (n : Int) ≤ (m : Int) := by omega
                    obtain ⟨hkd, hko, hke⟩ := ke_kepY HP1.out (by omega) n hk1 (by rw [HLN.out]; exact hk2)
                    have HPX : Hid (KeP (2 * (i + 1)) n 2 ⟨#[115, 110, 97, 112]⟩ lg) := by show KeP _ _ _ _ _; rw [show 2 * (i + 1) = 2 * i + 1 + 1 by omega]; exact HP1.out.kept hk1 (by rw [HLN.out]; exact hk2) hko hke
                    have CA' := ask_gen w w.heap.size (keX b E B lg) (2 * (2 * i + 1)) HP1.out.ok HP1.out.ep (by omega) _ (kepF_fit (g := 7) (s := (n : Int)) (E := 2) (b := ⟨#[115, 110, 97, 112]⟩) ⟨by decide, by decide⟩ ⟨by omega, by omega⟩ ⟨by decide, by decide⟩ (by decide)) rfl (keX n 2 ⟨#[115, 110, 97, 112]⟩ lg) (kptF (n : Int)) hkd _ HS6.out
                    simp only [frmA, kepF, kptF, errF, withG, List.length_nil, show (keX b E B lg).1 = 7 from rfl] at CA'
                    have CA : Hid (Calls _ _ _ _ _) := CA'
                    clear CA'
                    refine CA.out.mono ?_
                    rintro e w7 ⟨a7, c7, rfl, _, _, hs7, ho7⟩
                    have hb7 : Below w7.heap.size w7 (w7.alloc (.cells #[.int .i64 6, .int .i64 7, .int .i64 (n : Int), .int .i64 0, .int .i64 0, .string ⟨#[]⟩, .slice a7 0 c7, .int .i64 0] 39)) := below_new _ _
                    have HS7 : Hid (RlV w w.heap.size (keX n 2 ⟨#[115, 110, 97, 112]⟩ lg) (w7.alloc (.cells #[.int .i64 6, .int .i64 7, .int .i64 (n : Int), .int .i64 0, .int .i64 0, .string ⟨#[]⟩, .slice a7 0 c7, .int .i64 0] 39))) := hs7.on hb7
                    have HL7 : Hid (LogO (w7.alloc (.cells #[.int .i64 6, .int .i64 7, .int .i64 (n : Int), .int .i64 0, .int .i64 0, .string ⟨#[]⟩, .slice a7 0 c7, .int .i64 0] 39)) w.heap.size (.slice la m lc) lg) := (HL6.out.ot ho7).on hb7
                    have HB7 : Hid (Blk (w7.alloc (.cells #[.int .i64 6, .int .i64 7, .int .i64 (n : Int), .int .i64 0, .int .i64 0, .string ⟨#[]⟩, .slice a7 0 c7, .int .i64 0] 39)) 39 w7.heap.size #[.int .i64 6, .int .i64 7, .int .i64 (n : Int), .int .i64 0, .int .i64 0, .string ⟨#[]⟩, .slice a7 0 c7, .int .i64 0]) := Blk.new _ _ _
                    have g70 : (w7.alloc (.cells #[.int .i64 6, .int .i64 7, .int .i64 (n : Int), .int .i64 0, .int .i64 0, .string ⟨#[]⟩, .slice a7 0 c7, .int .i64 0] 39)).cell? ⟨w7.heap.size, 0, none⟩ = some (.int .i64 6) := HB7.out.cell 0
                    clear CA hs7 ho7 hb7 HS6 HL6
                    go_wp2_with fail
                    clear HB7 g70
                    obtain ⟨v9, hr9, hv9⟩ := HS7.out.rel
                    have hXl : (keX n 2 ⟨#[115, 110, 97, 112]⟩ lg).2.2.2.length = m - n := by show (keI n (lg.drop n)).length = _; rw [keI_len, List.length_drop, HLN.out]
                    have hbn : n ≤ m := by have := HPX.out.bl; rw [HLN.out] at this; exact this
                    refine (ritems_any w.heap.size v9 (keX n 2 ⟨#[115, 110, 97, 112]⟩ lg) (by rw [hXl]; omega) _ hr9).mono ?_
                    rintro e w10 ⟨v10, rfl, ho10, hb10⟩
                    have HS10 : Hid (RlV w w.heap.size (keX n 2 ⟨#[115, 110, 97, 112]⟩ lg) w10) := HS7.out.on hb10
                    have HL10 : Hid (LogO w10 w.heap.size (.slice la m lc) lg) := HL7.out.on hb10
                    obtain ⟨a10, c10, rfl, hc10, _, hi10⟩ := ho10.rows
                    have HI10 : Hid (ItsAt w10 a10 (m - n) (keX n 2 ⟨#[115, 110, 97, 112]⟩ lg).2.2.2) := by show ItsAt _ _ _ _; rw [← hXl]; exact hi10
                    rw [hXl]
                    obtain ⟨C, hC⟩ : ∃ C, m - n = C := ⟨_, rfl⟩
                    have hwC : IntKind.i64.wrap ((m : Int) - (n : Int)) = (C : Int) := by rw [IntKind.wrap_i64]; omega
                    rw [hC] at HI10 ⊢
                    clear hr9 hv9 hb10 hi10 ho10 HS7 HL7 hXl hc10
                    go_wp2_with fail
                    obtain ⟨v11, hr11, hv11⟩ := HS10.out.rel
                    refine (rbase_any w.heap.size v11 (keX n 2 ⟨#[115, 110, 97, 112]⟩ lg) w10 hr11).mono ?_
                    rintro e w11 ⟨rfl, hb11⟩
                    have HS11 : Hid (RlV w w.heap.size (keX n 2 ⟨#[115, 110, 97, 112]⟩ lg) w11) := HS10.out.on hb11
                    have HL11 : Hid (LogO w11 w.heap.size (.slice la m lc) lg) := HL10.out.on hb11
                    have HI11 : Hid (ItsAt w11 a10 C (keX n 2 ⟨#[115, 110, 97, 112]⟩ lg).2.2.2) := HI10.out.below hb11
                    rw [show (keX n 2 ⟨#[115, 110, 97, 112]⟩ lg).2.2.1.1 = (n : Int) from rfl]
                    clear hr11 hv11 hb11 HS10 HL10 HI10
                    go_wp2_with fail
                    go_loopw [21] (fun v wx => ∃ kk : Nat, kk ≤ C ∧ v = .int .i64 kk ∧ Hid (Below w11.heap.size w11 wx)) (fun v _ => C - (intOf v).toNat)
                    case atStart => exact ⟨0, Nat.zero_le _, rfl, Below.refl _ _⟩
                    case round =>
                      rename World => wz
                      obtain ⟨kk, hkk, rfl, HBz⟩ := hrel
                      by_cases hlt9 : kk < C
                      · have b9 : (kk : Int) < (C : Int) := by omega
                        obtain ⟨lb9, off9, rfl, hcl9⟩ := (HI11.out.below HBz.out).2.resolve_left (by omega)
                        obtain ⟨x0, x1, x2⟩ := hcl9 kk hlt9
                        have hlgl := HLN.out
                        have hat : itL (keX n 2 ⟨#[115, 110, 97, 112]⟩ lg).2.2.2 kk = (((n + kk : Nat) : Int) + 1, 2, txE lg (n + kk)) := by
                          show itL (keI n (lg.drop n)) kk = _
                          rw [keI_at _ n kk (by rw [List.length_drop]; omega), txE_drop]
                        rw [hat] at x0 x1 x2
                        obtain ⟨la9, lc9, hv9, _, _, hcells9⟩ := LogO.rows (log := lg) (by show LogO wz w.heap.size (.slice la m lc) lg; exact HL11.out.on HBz.out)
                        injection hv9 with e1 e2 e3
                        subst e1
                        obtain ⟨lg9, hlg9, cm9⟩ := hcells9 (n + kk) (by omega)
                        subst hlg9
                        obtain ⟨T9, hT9⟩ : ∃ T9, txE lg (n + kk) = T9 := ⟨_, rfl⟩
                        rw [hT9] at x2 cm9
                        obtain ⟨p9, hp9⟩ : ∃ p9, n + kk = p9 := ⟨_, rfl⟩
                        simp only [hp9] at x0 cm9
                        have hwp : IntKind.i64.wrap ((n : Int) + (kk : Int)) = (p9 : Int) := by rw [IntKind.wrap_i64]; omega
                        have hwp1 : IntKind.i64.wrap ((p9 : Int) + 1) = (p9 : Int) + 1 := by rw [IntKind.wrap_i64]; omega
                        have hpl : (p9 : Int) < (m : Int) := by omega
                        have hp0 : (0 : Int) ≤ (p9 : Int) := by omega
                        have heq9 := fun W => itemEq (((p9 : Int) + 1, 2, T9) : ItT) ((p9 : Int) + 1, 2, T9) W
                        simp only [itemA, decide_true] at heq9
                        have y0 : ∀ p : Beh wz, p.w'.cell? ⟨lb9, off9 + kk * 3, none⟩ = some (.int .i64 ((p9 : Int) + 1)) := fun p => p.cell x0
                        have y1 : ∀ p : Beh wz, p.w'.cell? ⟨lb9, off9 + kk * 3 + 1, none⟩ = some (.int .i64 2) := fun p => p.cell x1
                        have y2 : ∀ p : Beh wz, p.w'.cell? ⟨lb9, off9 + kk * 3 + 2, none⟩ = some (.string T9) := fun p => p.cell x2
                        have y3 : ∀ p : Beh wz, p.w'.cell? ⟨lg9, p9, none⟩ = some (.string T9) := fun p => p.cell cm9
                        clear hcl9 hcells9 hat hT9 hp9 e2 e3 hlgl x0 x1 x2 cm9
                        go_wp2_with fail
                        have hne_ : Nonempty (Beh wz) := ⟨⟨_, Below.refl _ _⟩⟩
                        refine wp_region_quiet_beh (by kernel_rfl) (by kernel_rfl) ?_
                        repeat (quiet_step (fail))
                        refine wpQuiet_nil ?_
                        intro wq hw_
                        obtain ⟨⟨wz_, hbq⟩, hw_⟩ := hw_
                        subst hw_
                        try dsimp only
                        clear hne_
                        have HBz2 : Hid (Below w11.heap.size w11 wq) := below_step HBz.out (Nat.le_refl _) hbq
                        clear y0 y1 y2 y3 hbq HBz
                        go_wp2_with fail
                        refine ⟨?_, ?_⟩
                        · first
                          | exact ⟨kk + 1, by omega, by go_num, HBz2⟩
                          | ((repeat apply Exists.intro); refine ⟨?_, rfl⟩; exact ⟨kk + 1, by omega, by go_num, HBz2⟩)
                        · simp [intOf] <;> omega
                      · obtain rfl : kk = C := by omega
                        have b9 : ¬ ((kk : Int) < (kk : Int)) := by omega
                        have HSz : Hid (RlV w w.heap.size (keX n 2 ⟨#[115, 110, 97, 112]⟩ lg) wz) := HS11.out.on HBz.out
                        have HLz : Hid (LogO wz w.heap.size (.slice la m lc) lg) := HL11.out.on HBz.out
                        clear HS11 HL11 HI11 HBz hC
                        go_wp2_with fail
                        refine ⟨?_, ?_⟩
                        · first
                          | exact ⟨i + 1, n, 2, ⟨#[115, 110, 97, 112]⟩, lg, by omega, by omega, rfl, by go_num, HPX, HLz, HSz⟩
                          | ((repeat apply Exists.intro); refine ⟨?_, rfl⟩; exact ⟨i + 1, n, 2, ⟨#[115, 110, 97, 112]⟩, lg, by omega, by omega, rfl, by go_num, HPX, HLz, HSz⟩)
                        · simp [intOf] <;> omega
                  · have t2 : ¬ ((n : Int) ≤ (m : Int)) := by omega
                    have HPX : Hid (KeP (2 * (i + 1)) b E B lg) := by show KeP _ _ _ _ _; rw [show 2 * (i + 1) = 2 * i + 1 + 1 by omega]; exact HP1.out.same
                    have CA' := ask_gen w w.heap.size (keX b E B lg) (2 * (2 * i + 1)) HP1.out.ok HP1.out.ep (by omega) _ (kepF_fit (g := 7) (s := (n : Int)) (E := 2) (b := ⟨#[115, 110, 97, 112]⟩) ⟨by decide, by decide⟩ ⟨by omega, by omega⟩ ⟨by decide, by decide⟩ (by decide)) rfl (keX b E B lg) (errF 1) (ke_kepN HP1.out n (by rw [HLN.out]; omega)) _ HS6.out
                    simp only [frmA, kepF, kptF, errF, withG, List.length_nil, show (keX b E B lg).1 = 7 from rfl] at CA'
                    have CA : Hid (Calls _ _ _ _ _) := CA'
                    clear CA'
                    refine CA.out.mono ?_
                    rintro e w7 ⟨a7, c7, rfl, _, _, hs7, ho7⟩
                    have hb7 : Below w7.heap.size w7 (w7.alloc (.cells #[.int .i64 9, .int .i64 7, .int .i64 0, .int .i64 0, .int .i64 0, .string ⟨#[]⟩, .slice a7 0 c7, .int .i64 1] 39)) := below_new _ _
                    have HS7 : Hid (RlV w w.heap.size (keX b E B lg) (w7.alloc (.cells #[.int .i64 9, .int .i64 7, .int .i64 0, .int .i64 0, .int .i64 0, .string ⟨#[]⟩, .slice a7 0 c7, .int .i64 1] 39))) := hs7.on hb7
                    have HL7 : Hid (LogO (w7.alloc (.cells #[.int .i64 9, .int .i64 7, .int .i64 0, .int .i64 0, .int .i64 0, .string ⟨#[]⟩, .slice a7 0 c7, .int .i64 1] 39)) w.heap.size (.slice la m lc) lg) := (HL6.out.ot ho7).on hb7
                    have HB7 : Hid (Blk (w7.alloc (.cells #[.int .i64 9, .int .i64 7, .int .i64 0, .int .i64 0, .int .i64 0, .string ⟨#[]⟩, .slice a7 0 c7, .int .i64 1] 39)) 39 w7.heap.size #[.int .i64 9, .int .i64 7, .int .i64 0, .int .i64 0, .int .i64 0, .string ⟨#[]⟩, .slice a7 0 c7, .int .i64 1]) := Blk.new _ _ _
                    have g70 : (w7.alloc (.cells #[.int .i64 9, .int .i64 7, .int .i64 0, .int .i64 0, .int .i64 0, .string ⟨#[]⟩, .slice a7 0 c7, .int .i64 1] 39)).cell? ⟨w7.heap.size, 0, none⟩ = some (.int .i64 9) := HB7.out.cell 0
                    clear CA hs7 ho7 hb7 HS6 HL6
                    go_wp2_with fail
                    clear HB7 g70
                    obtain ⟨v9, hr9, hv9⟩ := HS7.out.rel
                    have hXl : (keX b E B lg).2.2.2.length = m - b := by show (keI b (lg.drop b)).length = _; rw [keI_len, List.length_drop, HLN.out]
                    have hbn : b ≤ m := by have := HPX.out.bl; rw [HLN.out] at this; exact this
                    refine (ritems_any w.heap.size v9 (keX b E B lg) (by rw [hXl]; omega) _ hr9).mono ?_
                    rintro e w10 ⟨v10, rfl, ho10, hb10⟩
                    have HS10 : Hid (RlV w w.heap.size (keX b E B lg) w10) := HS7.out.on hb10
                    have HL10 : Hid (LogO w10 w.heap.size (.slice la m lc) lg) := HL7.out.on hb10
                    obtain ⟨a10, c10, rfl, hc10, _, hi10⟩ := ho10.rows
                    have HI10 : Hid (ItsAt w10 a10 (m - b) (keX b E B lg).2.2.2) := by show ItsAt _ _ _ _; rw [← hXl]; exact hi10
                    rw [hXl]
                    obtain ⟨C, hC⟩ : ∃ C, m - b = C := ⟨_, rfl⟩
                    have hwC : IntKind.i64.wrap ((m : Int) - (b : Int)) = (C : Int) := by rw [IntKind.wrap_i64]; omega
                    rw [hC] at HI10 ⊢
                    clear hr9 hv9 hb10 hi10 ho10 HS7 HL7 hXl hc10
                    go_wp2_with fail
                    obtain ⟨v11, hr11, hv11⟩ := HS10.out.rel
                    refine (rbase_any w.heap.size v11 (keX b E B lg) w10 hr11).mono ?_
                    rintro e w11 ⟨rfl, hb11⟩
                    have HS11 : Hid (RlV w w.heap.size (keX b E B lg) w11) := HS10.out.on hb11
                    have HL11 : Hid (LogO w11 w.heap.size (.slice la m lc) lg) := HL10.out.on hb11
                    have HI11 : Hid (ItsAt w11 a10 C (keX b E B lg).2.2.2) := HI10.out.below hb11
                    rw [show (keX b E B lg).2.2.1.1 = (b : Int) from rfl]
                    clear hr11 hv11 hb11 HS10 HL10 HI10
                    go_wp2_with fail
                    go_loopw [21] (fun v wx => ∃ kk : Nat, kk ≤ C ∧ v = .int .i64 kk ∧ Hid (Below w11.heap.size w11 wx)) (fun v _ => C - (intOf v).toNat)
                    case atStart => exact ⟨0, Nat.zero_le _, rfl, Below.refl _ _⟩
                    case round =>
                      rename World => wz
                      obtain ⟨kk, hkk, rfl, HBz⟩ := hrel
                      by_cases hlt9 : kk < C
                      · have b9 : (kk : Int) < (C : Int) := by omega
                        obtain ⟨lb9, off9, rfl, hcl9⟩ := (HI11.out.below HBz.out).2.resolve_left (by omega)
                        obtain ⟨x0, x1, x2⟩ := hcl9 kk hlt9
                        have hlgl := HLN.out
                        have hat : itL (keX b E B lg).2.2.2 kk = (((b + kk : Nat) : Int) + 1, 2, txE lg (b + kk)) := by
                          show itL (keI b (lg.drop b)) kk = _
                          rw [keI_at _ b kk (by rw [List.length_drop]; omega), txE_drop]
                        rw [hat] at x0 x1 x2
                        obtain ⟨la9, lc9, hv9, _, _, hcells9⟩ := LogO.rows (log := lg) (by show LogO wz w.heap.size (.slice la m lc) lg; exact HL11.out.on HBz.out)
                        injection hv9 with e1 e2 e3
                        subst e1
                        obtain ⟨lg9, hlg9, cm9⟩ := hcells9 (b + kk) (by omega)
                        subst hlg9
                        obtain ⟨T9, hT9⟩ : ∃ T9, txE lg (b + kk) = T9 := ⟨_, rfl⟩
                        rw [hT9] at x2 cm9
                        obtain ⟨p9, hp9⟩ : ∃ p9, b + kk = p9 := ⟨_, rfl⟩
                        simp only [hp9] at x0 cm9
                        have hwp : IntKind.i64.wrap ((b : Int) + (kk : Int)) = (p9 : Int) := by rw [IntKind.wrap_i64]; omega
                        have hwp1 : IntKind.i64.wrap ((p9 : Int) + 1) = (p9 : Int) + 1 := by rw [IntKind.wrap_i64]; omega
                        have hpl : (p9 : Int) < (m : Int) := by omega
                        have hp0 : (0 : Int) ≤ (p9 : Int) := by omega
                        have heq9 := fun W => itemEq (((p9 : Int) + 1, 2, T9) : ItT) ((p9 : Int) + 1, 2, T9) W
                        simp only [itemA, decide_true] at heq9
                        have y0 : ∀ p : Beh wz, p.w'.cell? ⟨lb9, off9 + kk * 3, none⟩ = some (.int .i64 ((p9 : Int) + 1)) := fun p => p.cell x0
                        have y1 : ∀ p : Beh wz, p.w'.cell? ⟨lb9, off9 + kk * 3 + 1, none⟩ = some (.int .i64 2) := fun p => p.cell x1
                        have y2 : ∀ p : Beh wz, p.w'.cell? ⟨lb9, off9 + kk * 3 + 2, none⟩ = some (.string T9) := fun p => p.cell x2
                        have y3 : ∀ p : Beh wz, p.w'.cell? ⟨lg9, p9, none⟩ = some (.string T9) := fun p => p.cell cm9
                        clear hcl9 hcells9 hat hT9 hp9 e2 e3 hlgl x0 x1 x2 cm9
                        go_wp2_with fail
                        have hne_ : Nonempty (Beh wz) := ⟨⟨_, Below.refl _ _⟩⟩
                        refine wp_region_quiet_beh (by kernel_rfl) (by kernel_rfl) ?_
                        repeat (quiet_step (fail))
                        refine wpQuiet_nil ?_
                        intro wq hw_
                        obtain ⟨⟨wz_, hbq⟩, hw_⟩ := hw_
                        subst hw_
                        try dsimp only
                        clear hne_
                        have HBz2 : Hid (Below w11.heap.size w11 wq) := below_step HBz.out (Nat.le_refl _) hbq
                        clear y0 y1 y2 y3 hbq HBz
                        go_wp2_with fail
                        refine ⟨?_, ?_⟩
                        · first
                          | exact ⟨kk + 1, by omega, by go_num, HBz2⟩
                          | ((repeat apply Exists.intro); refine ⟨?_, rfl⟩; exact ⟨kk + 1, by omega, by go_num, HBz2⟩)
                        · simp [intOf] <;> omega
                      · obtain rfl : kk = C := by omega
                        have b9 : ¬ ((kk : Int) < (kk : Int)) := by omega
                        have HSz : Hid (RlV w w.heap.size (keX b E B lg) wz) := HS11.out.on HBz.out
                        have HLz : Hid (LogO wz w.heap.size (.slice la m lc) lg) := HL11.out.on HBz.out
                        clear HS11 HL11 HI11 HBz hC
                        go_wp2_with fail
                        refine ⟨?_, ?_⟩
                        · first
                          | exact ⟨i + 1, b, E, B, lg, by omega, by omega, rfl, by go_num, HPX, HLz, HSz⟩
                          | ((repeat apply Exists.intro); refine ⟨?_, rfl⟩; exact ⟨i + 1, b, E, B, lg, by omega, by omega, rfl, by go_num, HPX, HLz, HSz⟩)
                        · simp [intOf] <;> omega
                · have t1 : ¬ ((b : Int) < (n : Int)) := by omega
                  have HPX : Hid (KeP (2 * (i + 1)) b E B lg) := by show KeP _ _ _ _ _; rw [show 2 * (i + 1) = 2 * i + 1 + 1 by omega]; exact HP1.out.same
                  have CA' := ask_gen w w.heap.size (keX b E B lg) (2 * (2 * i + 1)) HP1.out.ok HP1.out.ep (by omega) _ (kepF_fit (g := 7) (s := (n : Int)) (E := 2) (b := ⟨#[115, 110, 97, 112]⟩) ⟨by decide, by decide⟩ ⟨by omega, by omega⟩ ⟨by decide, by decide⟩ (by decide)) rfl (keX b E B lg) (errF 1) (ke_kepN HP1.out n (by omega)) _ HS6.out
                  simp only [frmA, kepF, kptF, errF, withG, List.length_nil, show (keX b E B lg).1 = 7 from rfl] at CA'
                  have CA : Hid (Calls _ _ _ _ _) := CA'
                  clear CA'
                  refine CA.out.mono ?_
                  rintro e w7 ⟨a7, c7, rfl, _, _, hs7, ho7⟩
                  have hb7 : Below w7.heap.size w7 (w7.alloc (.cells #[.int .i64 9, .int .i64 7, .int .i64 0, .int .i64 0, .int .i64 0, .string ⟨#[]⟩, .slice a7 0 c7, .int .i64 1] 39)) := below_new _ _
                  have HS7 : Hid (RlV w w.heap.size (keX b E B lg) (w7.alloc (.cells #[.int .i64 9, .int .i64 7, .int .i64 0, .int .i64 0, .int .i64 0, .string ⟨#[]⟩, .slice a7 0 c7, .int .i64 1] 39))) := hs7.on hb7
                  have HL7 : Hid (LogO (w7.alloc (.cells #[.int .i64 9, .int .i64 7, .int .i64 0, .int .i64 0, .int .i64 0, .string ⟨#[]⟩, .slice a7 0 c7, .int .i64 1] 39)) w.heap.size (.slice la m lc) lg) := (HL6.out.ot ho7).on hb7
                  have HB7 : Hid (Blk (w7.alloc (.cells #[.int .i64 9, .int .i64 7, .int .i64 0, .int .i64 0, .int .i64 0, .string ⟨#[]⟩, .slice a7 0 c7, .int .i64 1] 39)) 39 w7.heap.size #[.int .i64 9, .int .i64 7, .int .i64 0, .int .i64 0, .int .i64 0, .string ⟨#[]⟩, .slice a7 0 c7, .int .i64 1]) := Blk.new _ _ _
                  have g70 : (w7.alloc (.cells #[.int .i64 9, .int .i64 7, .int .i64 0, .int .i64 0, .int .i64 0, .string ⟨#[]⟩, .slice a7 0 c7, .int .i64 1] 39)).cell? ⟨w7.heap.size, 0, none⟩ = some (.int .i64 9) := HB7.out.cell 0
                  clear CA hs7 ho7 hb7 HS6 HL6
                  go_wp2_with fail
                  clear HB7 g70
                  obtain ⟨v9, hr9, hv9⟩ := HS7.out.rel
                  have hXl : (keX b E B lg).2.2.2.length = m - b := by show (keI b (lg.drop b)).length = _; rw [keI_len, List.length_drop, HLN.out]
                  have hbn : b ≤ m := by have := HPX.out.bl; rw [HLN.out] at this; exact this
                  refine (ritems_any w.heap.size v9 (keX b E B lg) (by rw [hXl]; omega) _ hr9).mono ?_
                  rintro e w10 ⟨v10, rfl, ho10, hb10⟩
                  have HS10 : Hid (RlV w w.heap.size (keX b E B lg) w10) := HS7.out.on hb10
                  have HL10 : Hid (LogO w10 w.heap.size (.slice la m lc) lg) := HL7.out.on hb10
                  obtain ⟨a10, c10, rfl, hc10, _, hi10⟩ := ho10.rows
                  have HI10 : Hid (ItsAt w10 a10 (m - b) (keX b E B lg).2.2.2) := by show ItsAt _ _ _ _; rw [← hXl]; exact hi10
                  rw [hXl]
                  obtain ⟨C, hC⟩ : ∃ C, m - b = C := ⟨_, rfl⟩
                  have hwC : IntKind.i64.wrap ((m : Int) - (b : Int)) = (C : Int) := by rw [IntKind.wrap_i64]; omega
                  rw [hC] at HI10 ⊢
                  clear hr9 hv9 hb10 hi10 ho10 HS7 HL7 hXl hc10
                  go_wp2_with fail
                  obtain ⟨v11, hr11, hv11⟩ := HS10.out.rel
                  refine (rbase_any w.heap.size v11 (keX b E B lg) w10 hr11).mono ?_
                  rintro e w11 ⟨rfl, hb11⟩
                  have HS11 : Hid (RlV w w.heap.size (keX b E B lg) w11) := HS10.out.on hb11
                  have HL11 : Hid (LogO w11 w.heap.size (.slice la m lc) lg) := HL10.out.on hb11
                  have HI11 : Hid (ItsAt w11 a10 C (keX b E B lg).2.2.2) := HI10.out.below hb11
                  rw [show (keX b E B lg).2.2.1.1 = (b : Int) from rfl]
                  clear hr11 hv11 hb11 HS10 HL10 HI10
                  go_wp2_with fail
                  go_loopw [21] (fun v wx => ∃ kk : Nat, kk ≤ C ∧ v = .int .i64 kk ∧ Hid (Below w11.heap.size w11 wx)) (fun v _ => C - (intOf v).toNat)
                  case atStart => exact ⟨0, Nat.zero_le _, rfl, Below.refl _ _⟩
                  case round =>
                    rename World => wz
                    obtain ⟨kk, hkk, rfl, HBz⟩ := hrel
                    by_cases hlt9 : kk < C
                    · have b9 : (kk : Int) < (C : Int) := by omega
                      obtain ⟨lb9, off9, rfl, hcl9⟩ := (HI11.out.below HBz.out).2.resolve_left (by omega)
                      obtain ⟨x0, x1, x2⟩ := hcl9 kk hlt9
                      have hlgl := HLN.out
                      have hat : itL (keX b E B lg).2.2.2 kk = (((b + kk : Nat) : Int) + 1, 2, txE lg (b + kk)) := by
                        show itL (keI b (lg.drop b)) kk = _
                        rw [keI_at _ b kk (by rw [List.length_drop]; omega), txE_drop]
                      rw [hat] at x0 x1 x2
                      obtain ⟨la9, lc9, hv9, _, _, hcells9⟩ := LogO.rows (log := lg) (by show LogO wz w.heap.size (.slice la m lc) lg; exact HL11.out.on HBz.out)
                      injection hv9 with e1 e2 e3
                      subst e1
                      obtain ⟨lg9, hlg9, cm9⟩ := hcells9 (b + kk) (by omega)
                      subst hlg9
                      obtain ⟨T9, hT9⟩ : ∃ T9, txE lg (b + kk) = T9 := ⟨_, rfl⟩
                      rw [hT9] at x2 cm9
                      obtain ⟨p9, hp9⟩ : ∃ p9, b + kk = p9 := ⟨_, rfl⟩
                      simp only [hp9] at x0 cm9
                      have hwp : IntKind.i64.wrap ((b : Int) + (kk : Int)) = (p9 : Int) := by rw [IntKind.wrap_i64]; omega
                      have hwp1 : IntKind.i64.wrap ((p9 : Int) + 1) = (p9 : Int) + 1 := by rw [IntKind.wrap_i64]; omega
                      have hpl : (p9 : Int) < (m : Int) := by omega
                      have hp0 : (0 : Int) ≤ (p9 : Int) := by omega
                      have heq9 := fun W => itemEq (((p9 : Int) + 1, 2, T9) : ItT) ((p9 : Int) + 1, 2, T9) W
                      simp only [itemA, decide_true] at heq9
                      have y0 : ∀ p : Beh wz, p.w'.cell? ⟨lb9, off9 + kk * 3, none⟩ = some (.int .i64 ((p9 : Int) + 1)) := fun p => p.cell x0
                      have y1 : ∀ p : Beh wz, p.w'.cell? ⟨lb9, off9 + kk * 3 + 1, none⟩ = some (.int .i64 2) := fun p => p.cell x1
                      have y2 : ∀ p : Beh wz, p.w'.cell? ⟨lb9, off9 + kk * 3 + 2, none⟩ = some (.string T9) := fun p => p.cell x2
                      have y3 : ∀ p : Beh wz, p.w'.cell? ⟨lg9, p9, none⟩ = some (.string T9) := fun p => p.cell cm9
                      clear hcl9 hcells9 hat hT9 hp9 e2 e3 hlgl x0 x1 x2 cm9
                      go_wp2_with fail
                      have hne_ : Nonempty (Beh wz) := ⟨⟨_, Below.refl _ _⟩⟩
                      refine wp_region_quiet_beh (by kernel_rfl) (by kernel_rfl) ?_
                      repeat (quiet_step (fail))
                      refine wpQuiet_nil ?_
                      intro wq hw_
                      obtain ⟨⟨wz_, hbq⟩, hw_⟩ := hw_
                      subst hw_
                      try dsimp only
                      clear hne_
                      have HBz2 : Hid (Below w11.heap.size w11 wq) := below_step HBz.out (Nat.le_refl _) hbq
                      clear y0 y1 y2 y3 hbq HBz
                      go_wp2_with fail
                      refine ⟨?_, ?_⟩
                      · first
                        | exact ⟨kk + 1, by omega, by go_num, HBz2⟩
                        | ((repeat apply Exists.intro); refine ⟨?_, rfl⟩; exact ⟨kk + 1, by omega, by go_num, HBz2⟩)
                      · simp [intOf] <;> omega
                    · obtain rfl : kk = C := by omega
                      have b9 : ¬ ((kk : Int) < (kk : Int)) := by omega
                      have HSz : Hid (RlV w w.heap.size (keX b E B lg) wz) := HS11.out.on HBz.out
                      have HLz : Hid (LogO wz w.heap.size (.slice la m lc) lg) := HL11.out.on HBz.out
                      clear HS11 HL11 HI11 HBz hC
                      go_wp2_with fail
                      refine ⟨?_, ?_⟩
                      · first
                        | exact ⟨i + 1, b, E, B, lg, by omega, by omega, rfl, by go_num, HPX, HLz, HSz⟩
                        | ((repeat apply Exists.intro); refine ⟨?_, rfl⟩; exact ⟨i + 1, b, E, B, lg, by omega, by omega, rfl, by go_num, HPX, HLz, HSz⟩)
                      · simp [intOf] <;> omega
      · have b1 : ¬ ((i : Int) < 40) := by omega
        have b0 : (i : Int) < (len : Int) := by omega
        clear hlt hlt2
        go_wp2_with fail
        refine (awake21_any wr).mono ?_
        rintro e w2 ⟨rfl, hb2⟩
        have HF : Hid (Below w.heap.size w w2) := below_step HS.out.bel (Nat.le_refl _) hb2
        clear hb2
        go_wp2_with fail
        go_ret
        exact ⟨rfl, HF.out⟩
    · have b0 : ¬ ((i : Int) < (len : Int)) := by omega
      clear hlt
      go_wp2_with fail
      refine (awake21_any wr).mono ?_
      rintro e w2 ⟨rfl, hb2⟩
      have HF : Hid (Below w.heap.size w w2) := below_step HS.out.bel (Nat.le_refl _) hb2
      clear hb2
      go_wp2_with fail
      go_ret
      exact ⟨rfl, HF.out⟩
end Go.Proofs.Ytmlpbbancoedgaa
