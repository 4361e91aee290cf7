/- The walk of TreeCompacts (layer 11). -/
import Derived.Test.YtmfckdhincffkaaDoorTmFw
import Derived.Test.YtmfckdhincffkaaDoorP11
namespace Go.Proofs.YtmfckdhincffkaaDoor
open Go.RowKit
set_option linter.unusedSimpArgs false





set_option maxRecDepth 100000 in
set_option maxHeartbeats 8000000 in
theorem treeCompacts_walk (a a' : Option Addr) (l l' : List OpT) (n c n' c' : Nat) (upto : Int) (w : World) (hm : n ≤ maxLen) (hm' : n' ≤ maxLen) (hI : OpsAt w a n l) (hI' : OpsAt w a' n' l') (hz : ∀ q ∈ l, OpOk q) (hz' : ∀ q ∈ l', OpOk q) (hG : Glob8 w) :
    Calls Tryd.prog 5 #[.slice a n c, .slice a' n' c', .int .i64 upto] w fun e w' => e = .returned (.bool true) ∧ Below w.heap.size w w' := by
  obtain ⟨M, hM⟩ := mayM_ex
  have HM : Hid (∀ o, M o = true ↔ MayO o) := hM
  have HG : Hid (Glob8 w) := hG
  have HI : Hid (OpsAt w a n l) := hI
  have HN : Hid (l.length = n) := hI.1
  have HJ : Hid (OpsAt w a' n' l') := hI'
  have HN' : Hid (l'.length = n') := hI'.1
  have hmn : n ≤ 9223372036854775807 := hm
  have hmn' : n' ≤ 9223372036854775807 := hm'
  have CN : Hid (∀ W, Below w.heap.size w W → _) := fun W hW => new_tr w W hW
  have CAt : Hid (∀ t u W, _) := at_any
  have CW : Hid (∀ W, Below w.heap.size w W → Calls Tryd.prog 9 #[] W fun e w' => e = .returned (.bool true) ∧ Below W.heap.size W w') := fun W hW => awake11 W (HG.out.below hW)
  have CF1 : Hid (FewO l 30 → ∀ W, Below w.heap.size w W → Calls Tryd.prog 8 #[.slice a n c, .int .i64 30] W fun e w' => e = .returned (.bool true) ∧ Below W.heap.size W w') := fun hF W hW => few_yes l a n c 30 W hm (by decide) (hI.below hW) hz hF
  have CF0 : Hid (¬ FewO l 30 → ∀ W, Below w.heap.size w W → Calls Tryd.prog 8 #[.slice a n c, .int .i64 30] W fun e w' => e = .returned (.bool false) ∧ Below W.heap.size W w') := fun hF W hW => few_no l a n c 30 W hm (by decide) (hI.below hW) hz hF
  have CF1' : Hid (FewO l' 30 → ∀ W, Below w.heap.size w W → Calls Tryd.prog 8 #[.slice a' n' c', .int .i64 30] W fun e w' => e = .returned (.bool true) ∧ Below W.heap.size W w') := fun hF W hW => few_yes l' a' n' c' 30 W hm' (by decide) (hI'.below hW) hz' hF
  have CF0' : Hid (¬ FewO l' 30 → ∀ W, Below w.heap.size w W → Calls Tryd.prog 8 #[.slice a' n' c', .int .i64 30] W fun e w' => e = .returned (.bool false) ∧ Below W.heap.size W w') := fun hF W hW => few_no l' a' n' c' 30 W hm' (by decide) (hI'.below hW) hz' hF
  obtain ⟨v, hv, hbits⟩ : ∃ v : Nat, v ≤ 65535 ∧ bits .and .i64 upto 65535 = (v : Int) := by
    have h1 := i64_mask upto 16 (by decide) 65535 (by decide)
    refine ⟨(upto % 65536).toNat, by omega, ?_⟩
    rw [h1]
    show upto % 65536 = _
    omega
  obtain ⟨u', hu', hrem⟩ : ∃ u' : Nat, u' ≤ 999 ∧ Int.tmod (v : Int) 1000 = (u' : Int) := ⟨v % 1000, by omega, by rw [Int.tmod_eq_emod_of_nonneg (by omega)]; omega⟩
  clear hM hG hI hz hm hI' hz' hm'
  go_enter Tryd.func5, Tryd.ntmps5
  go_wp2_with fail
  refine (CN.out w (Below.refl _ _)).mono ?_
  rintro e w1 ⟨g1, f1, m1, rfl, hT1, _, _⟩
  have HX1 : Hid (Tr w w1 g1 f1 m1 none T0) := hT1
  clear hT1
  go_wp2_with fail
  refine (CN.out w1 HX1.out.bel).mono ?_
  rintro e w2 ⟨g2, f2, m2, rfl, hT2, hn2, hb2⟩
  have HT0 : Hid (Duo w w2 (g1, f1, m1, none, T0) (g2, f2, m2, none, T0)) := ⟨HX1.out.on hb2, hT2, Apart.symm (apart_new HX1.out hn2)⟩
  clear hT2 hn2 hb2 HX1 CN
  by_cases hF : FewO l 30
  · have HF : Hid (FewO l 30) := hF
    have CF : Hid (Calls _ _ _ _ _) := CF1.out hF w2 HT0.out.a.bel
    have hn : n ≤ 30 := by rw [← HN.out]; exact hF.1
    clear CF1 CF0 hF
    go_wp2_with fail
    refine CF.out.mono ?_
    rintro e w3 ⟨rfl, hb3⟩
    have HT3 : Hid (Duo w w3 (g1, f1, m1, none, T0) (g2, f2, m2, none, T0)) := HT0.out.on hb3
    clear CF hb3 HT0
    by_cases hF' : FewO l' 30
    · have HF' : Hid (FewO l' 30) := hF'
      have CF : Hid (Calls _ _ _ _ _) := CF1'.out hF' w3 HT3.out.a.bel
      have hn' : n' ≤ 30 := by rw [← HN'.out]; exact hF'.1
      clear CF1' CF0' hF'
      go_wp2_with fail
      refine CF.out.mono ?_
      rintro e w4 ⟨rfl, hb4⟩
      have HT4 : Hid (Duo w w4 (g1, f1, m1, none, playP M T0 []) (g2, f2, m2, none, playP M T0 [])) := HT3.out.on hb4
      clear CF hb4 HT3
      go_wp2_with fail
      go_loopw [9] (fun i wr => ∃ (k : Nat) (r1 r2 : Option Nat) (L : List OpT), k ≤ n ∧ i = .int .i64 k ∧ Hid (L.length ≤ k) ∧ Hid (Duo w wr (g1, f1, m1, r1, playP M T0 L) (g2, f2, m2, r2, playP M T0 L))) (fun i _ => n - (intOf i).toNat)
      case atStart => exact ⟨0, none, none, [], by omega, rfl, Nat.le_refl _, HT4⟩
      case round =>
        clear HT4
        obtain ⟨k, r1, r2, L, hk, rfl, HLl, HT⟩ := hrel
        by_cases hlt : k < n
        · have b0 : (k : Int) < (n : Int) := by omega
          obtain ⟨b, off, rfl, _⟩ := HI.out.2.some (by omega)
          obtain ⟨x0, x1, x2, x3, x4, x5, x6, x7, x8⟩ := (HI.out.below HT.out.a.bel).cells k hlt
          have hil : k < l.length := by rw [HN.out]; exact hlt
          obtain ⟨z7, z8⟩ := light_few l 30 HF.out k hil
          obtain ⟨⟨k0, ⟨k1, k2⟩, ⟨k3, k4⟩, ⟨k5, k6⟩, s7, s8⟩, hkk⟩ : ∃ s, s = oL l k := ⟨_, rfl⟩
          rw [← hkk] at x0 x1 x2 x3 x4 x5 x6 x7 x8 z7 z8
          simp only at z7 z8
          clear hkk hil
          by_cases h1 : k1 ≤ 1000
          · have d1 : decide (k1 ≤ 1000) = true := decide_eq_true h1
            by_cases h3 : k3 ≤ 1000
            · have d3 : decide (k3 ≤ 1000) = true := decide_eq_true h3
              by_cases h5 : k5 ≤ 1000
              · have d5 : decide (k5 ≤ 1000) = true := decide_eq_true h5
                have hLl := HLl.out
                have CA1 : Hid (Calls _ _ _ _ _) := apply_tr M HM.out g1 f1 m1 r1 (playP M T0 L) (k0, (k1, k2), (k3, k4), (k5, k6), s7, s8) w _ HT.out.a HG.out (by have := play_len M L (by omega); omega) z7 z8
                have HSn : Hid (playP M T0 (L ++ [(k0, (k1, k2), (k3, k4), (k5, k6), s7, s8)]) = (applyP M (playP M T0 L) (k0, (k1, k2), (k3, k4), (k5, k6), s7, s8)).1) := playP_snoc M T0 L _
                have HL' : Hid ((L ++ [((k0, (k1, k2), (k3, k4), (k5, k6), s7, s8) : OpT)]).length ≤ k + 1) := by show _ ≤ _; rw [List.length_append]; show L.length + 1 ≤ k + 1; omega
                have CB : Hid (∀ W, TrA w W (g2, f2, m2, r2, playP M T0 L) → Calls _ _ _ _ _) := fun W hW => apply_tr M HM.out g2 f2 m2 r2 (playP M T0 L) (k0, (k1, k2), (k3, k4), (k5, k6), s7, s8) w W hW HG.out (by have := play_len M L (by omega); omega) z7 z8
                simp only [opA] at CA1 CB
                obtain ⟨L', hL'⟩ : ∃ L', L ++ [((k0, (k1, k2), (k3, k4), (k5, k6), s7, s8) : OpT)] = L' := ⟨_, rfl⟩
                rw [hL'] at HSn HL'
                obtain ⟨AT, hAT⟩ : ∃ AT, applyP M (playP M T0 L) (k0, (k1, k2), (k3, k4), (k5, k6), s7, s8) = AT := ⟨_, rfl⟩
                rw [hAT] at CA1 CB HSn
                clear hAT hL' hLl HLl z7 z8
                go_wp2_with fail
                refine CA1.out.mono ?_
                rintro e w3 ⟨rfl, r1', hT3, hK3, hN3⟩
                have HT3 : Hid (Duo w w3 (g2, f2, m2, r2, playP M T0 L) (g1, f1, m1, r1', playP M T0 L')) := by
                  have h := HT.out.next hT3 hK3 hN3
                  rw [← HSn.out] at h
                  exact h.turn
                obtain ⟨y0, y1, y2, y3, y4, y5, y6, y7, y8⟩ : w3.cell? ⟨b, off + k * 9, none⟩ = some (.int .i64 k0) ∧ w3.cell? ⟨b, off + k * 9 + 1, none⟩ = some (.int .i64 k1) ∧ w3.cell? ⟨b, off + k * 9 + 2, none⟩ = some (.int .i64 k2) ∧ w3.cell? ⟨b, off + k * 9 + 3, none⟩ = some (.int .i64 k3) ∧ w3.cell? ⟨b, off + k * 9 + 4, none⟩ = some (.int .i64 k4) ∧ w3.cell? ⟨b, off + k * 9 + 5, none⟩ = some (.int .i64 k5) ∧ w3.cell? ⟨b, off + k * 9 + 6, none⟩ = some (.int .i64 k6) ∧ w3.cell? ⟨b, off + k * 9 + 7, none⟩ = some (.string s7) ∧ w3.cell? ⟨b, off + k * 9 + 8, none⟩ = some (.string s8) := by
                  have h := (HI.out.below HT3.out.a.bel).cells k hlt
                  have h' := (HI.out.below HT.out.a.bel).cells k hlt
                  rw [x0, x1, x2, x3, x4, x5, x6, x7, x8] at h'
                  obtain ⟨e0, e1, e2, e3, e4, e5, e6, e7, e8⟩ := h'
                  rw [← e0, ← e1, ← e2, ← e3, ← e4, ← e5, ← e6, ← e7, ← e8] at h
                  exact h
                have CB1 : Hid (Calls _ _ _ _ _) := CB.out w3 HT3.out.a
                clear CA1 CB hT3 hK3 hN3 HT x0 x1 x2 x3 x4 x5 x6 x7 x8
                go_wp2_with fail
                refine CB1.out.mono ?_
                rintro e w4 ⟨rfl, r2', hT4, hK4, hN4⟩
                have HT4 : Hid (Duo w w4 (g1, f1, m1, r1', playP M T0 L') (g2, f2, m2, r2', playP M T0 L')) := by
                  have h := HT3.out.next hT4 hK4 hN4
                  rw [← HSn.out] at h
                  exact h.turn
                clear CB1 hT4 hK4 hN4 HT3 HSn y0 y1 y2 y3 y4 y5 y6 y7 y8
                go_wp2_with fail
                refine ⟨?_, ?_⟩
                · first
                  | exact ⟨k + 1, r1', r2', L', by omega, by go_num, HL', HT4⟩
                  | ((repeat apply Exists.intro); refine ⟨?_, rfl⟩; exact ⟨k + 1, r1', r2', L', by omega, by go_num, HL', HT4⟩)
                · simp [intOf]; omega
              · have d5 : decide (k5 ≤ 1000) = false := decide_eq_false h5
                go_wp2_with fail
                have HL' : Hid (L.length ≤ k + 1) := by have := HLl.out; show _ ≤ _; omega
                refine ⟨?_, ?_⟩
                · first
                  | exact ⟨k + 1, r1, r2, L, by omega, by go_num, HL', HT⟩
                  | ((repeat apply Exists.intro); refine ⟨?_, rfl⟩; exact ⟨k + 1, r1, r2, L, by omega, by go_num, HL', HT⟩)
                · simp [intOf]; omega
            · have d3 : decide (k3 ≤ 1000) = false := decide_eq_false h3
              go_wp2_with fail
              have HL' : Hid (L.length ≤ k + 1) := by have := HLl.out; show _ ≤ _; omega
              refine ⟨?_, ?_⟩
              · first
                | exact ⟨k + 1, r1, r2, L, by omega, by go_num, HL', HT⟩
                | ((repeat apply Exists.intro); refine ⟨?_, rfl⟩; exact ⟨k + 1, r1, r2, L, by omega, by go_num, HL', HT⟩)
              · simp [intOf]; omega
          · have d1 : decide (k1 ≤ 1000) = false := decide_eq_false h1
            go_wp2_with fail
            have HL' : Hid (L.length ≤ k + 1) := by have := HLl.out; show _ ≤ _; omega
            refine ⟨?_, ?_⟩
            · first
              | exact ⟨k + 1, r1, r2, L, by omega, by go_num, HL', HT⟩
              | ((repeat apply Exists.intro); refine ⟨?_, rfl⟩; exact ⟨k + 1, r1, r2, L, by omega, by go_num, HL', HT⟩)
            · simp [intOf]; omega
        · obtain rfl : k = n := by omega
          have b0 : ¬ ((k : Int) < (k : Int)) := by omega
          have hL := HLl.out
          obtain ⟨u, hu⟩ : ∃ u : Int, 1 + (u' : Int) = u := ⟨_, rfl⟩
          have hmay : MayS (u, 6) := ⟨by show 1 ≤ u; omega, by show u ≤ _; omega, (by decide : (1 : Int) ≤ 6), (by decide : (6 : Int) ≤ 6)⟩
          have hcomp := comp_of M L (by omega) (u, 6) hmay
          have HC : Hid (Comp (u, 6) (30 + 0) (playP M T0 L) (compactP (playP M T0 L) (u, 6)).1) := ⟨hcomp.cut, hcomp.fx, hcomp.base, by have := hcomp.len; omega⟩
          have CC : Hid (∀ W, TrA w W (g2, f2, m2, r2, playP M T0 L) → Calls _ _ _ _ _) := fun W hW => compact_any g2 f2 m2 r2 (playP M T0 L) (u, 6) W hW.tree (by have := play_len M L (by omega); omega)
          obtain ⟨⟨B0, z0⟩, hB0⟩ : ∃ B0, compactP (playP M T0 L) (u, 6) = B0 := ⟨_, rfl⟩
          rw [hB0] at HC CC
          obtain ⟨A0, hA0⟩ : ∃ A0, playP M T0 L = A0 := ⟨_, rfl⟩
          rw [hA0] at HC CC HT
          simp only [stampV] at CC HC
          have hu0 : u ≤ 1000 := by omega
          clear hB0 hA0 hcomp hmay hL HLl hlt hk b0 HI HN HF
          go_wp2_with fail
          refine (CAt.out _ _ _).mono ?_
          rintro e w5 ⟨rfl, hb5⟩
          have HT5 : Hid (Duo w w5 (g2, f2, m2, r2, A0) (g1, f1, m1, r1, A0)) := (HT.out.on hb5).turn
          have CC1 : Hid (Calls _ _ _ _ _) := CC.out w5 HT5.out.a
          clear CC hb5 HT CAt
          go_wp2_with fail
          refine CC1.out.mono ?_
          rintro e w6 ⟨rfl, r2', hT6, hK6, hN6⟩
          have HT6 : Hid (Duo w w6 (g1, f1, m1, r1, A0) (g2, f2, m2, r2', B0)) := (HT5.out.next hT6 hK6 hN6).turn
          clear CC1 hT6 hK6 hN6 HT5
          go_wp2_with fail
          go_loopw [10] (fun i wr => ∃ (k : Nat) (r1 r2 : Option Nat) (A B : TreeT), k ≤ n' ∧ i = .int .i64 k ∧ Hid (Comp (u, 6) (30 + k) A B) ∧ Hid (Duo w wr (g1, f1, m1, r1, A) (g2, f2, m2, r2, B))) (fun i _ => n' - (intOf i).toNat)
          case atStart => exact ⟨0, r1, r2', A0, B0, by omega, rfl, HC, HT6⟩
          case round =>
            clear HC HT6
            obtain ⟨k, r1, r2, A, B, hk, rfl, HC, HT⟩ := hrel
            by_cases hlt : k < n'
            · have b0 : (k : Int) < (n' : Int) := by omega
              obtain ⟨b, off, rfl, _⟩ := HJ.out.2.some (by omega)
              obtain ⟨x0, x1, x2, x3, x4, x5, x6, x7, x8⟩ := (HJ.out.below HT.out.a.bel).cells k hlt
              have hil : k < l'.length := by rw [HN'.out]; exact hlt
              obtain ⟨z7, z8⟩ := light_few l' 30 HF'.out k hil
              obtain ⟨⟨k0, ⟨k1, k2⟩, ⟨k3, k4⟩, ⟨k5, k6⟩, s7, s8⟩, hkk⟩ : ∃ s, s = oL l' k := ⟨_, rfl⟩
              rw [← hkk] at x0 x1 x2 x3 x4 x5 x6 x7 x8 z7 z8
              simp only at z7 z8
              clear hkk hil
              by_cases h1 : k1 > 1048576
              · have d1 : decide (k1 > 1048576) = true := decide_eq_true h1
                go_wp2_with fail
                have HC' : Hid (Comp (u, 6) (30 + (k + 1)) A B) := ⟨HC.out.cut, HC.out.fx, HC.out.base, by have := HC.out.len; omega⟩
                refine ⟨?_, ?_⟩
                · first
                  | exact ⟨k + 1, r1, r2, A, B, by omega, by go_num, HC', HT.out.on (below_new _ _)⟩
                  | ((repeat apply Exists.intro); refine ⟨?_, rfl⟩; exact ⟨k + 1, r1, r2, A, B, by omega, by go_num, HC', HT.out.on (below_new _ _)⟩)
                · simp [intOf]; omega
              · have d1 : decide (k1 > 1048576) = false := decide_eq_false h1
                by_cases h2 : k1 < 1
                · have d2 : decide (k1 < 1) = true := decide_eq_true h2
                  go_wp2_with fail
                  have HC' : Hid (Comp (u, 6) (30 + (k + 1)) A B) := ⟨HC.out.cut, HC.out.fx, HC.out.base, by have := HC.out.len; omega⟩
                  refine ⟨?_, ?_⟩
                  · first
                    | exact ⟨k + 1, r1, r2, A, B, by omega, by go_num, HC', HT.out.on (below_new _ _)⟩
                    | ((repeat apply Exists.intro); refine ⟨?_, rfl⟩; exact ⟨k + 1, r1, r2, A, B, by omega, by go_num, HC', HT.out.on (below_new _ _)⟩)
                  · simp [intOf]; omega
                · have d2 : decide (k1 < 1) = false := decide_eq_false h2
                  by_cases hk0 : k0 = 1
                  · subst hk0
                    go_wp2_with fail
                    obtain ⟨W1, hW1⟩ : ∃ W1, wr.alloc (.cells #[.int .i64 1, .int .i64 (k1 + 1000), .int .i64 k2, .int .i64 (k1 + 1000), .int .i64 k2, .int .i64 k5, .int .i64 k6, .string s7, .string s8] 30) = W1 := ⟨_, rfl⟩
                    obtain ⟨hp, hhp⟩ : ∃ hp, wr.heap.size = hp := ⟨_, rfl⟩
                    have HT1 : Hid (Duo w W1 (g1, f1, m1, r1, A) (g2, f2, m2, r2, B)) := by show Duo _ _ _ _; rw [← hW1]; exact HT.out.on (below_new _ _)
                    have HK1 : Hid (Blk W1 30 hp #[.int .i64 1, .int .i64 (k1 + 1000), .int .i64 k2, .int .i64 (k1 + 1000), .int .i64 k2, .int .i64 k5, .int .i64 k6, .string s7, .string s8]) := by show Blk _ _ _ _; rw [← hW1, ← hhp]; exact Blk.new _ _ _
                    have HP : Hid ((∀ j, tfoot g1 f1 m1 r1 j → j < hp) ∧ (∀ j, tfoot g2 f2 m2 r2 j → j < hp)) := by
                      show _ ∧ _
                      rw [← hhp]
                      exact ⟨fun j hj => HT.out.a.tree.lt hj, fun j hj => HT.out.b.tree.lt hj⟩
                    rw [hW1, hhp]
                    obtain ⟨hsame, hnext⟩ := HC.out.next (M := M) (by omega) (1, (k1 + 1000, k2), (k1 + 1000, k2), (k5, k6), s7, s8) (.inl (by show (0 : Int) < k1 + 1000; omega)) (.inl (by show u < k1 + 1000; omega))
                    have hfew := HC.out.few
                    have CA1 : Hid (Calls _ _ _ _ _) := apply_tr M HM.out g1 f1 m1 r1 A (1, (k1 + 1000, k2), (k1 + 1000, k2), (k5, k6), s7, s8) w W1.drew (Duo.on HT1.out (Below.refl _ _).drew).a HG.out (by omega) z7 z8
                    have CB : Hid (∀ W, TrA w W (g2, f2, m2, r2, B) → Calls _ _ _ _ _) := fun W hW => apply_tr M HM.out g2 f2 m2 r2 B (1, (k1 + 1000, k2), (k1 + 1000, k2), (k5, k6), s7, s8) w W hW HG.out (by omega) z7 z8
                    simp only [opA] at CA1 CB
                    obtain ⟨⟨AT, ea⟩, hAT⟩ : ∃ AT, applyP M A (1, (k1 + 1000, k2), (k1 + 1000, k2), (k5, k6), s7, s8) = AT := ⟨_, rfl⟩
                    obtain ⟨⟨BT, eb⟩, hBT⟩ : ∃ BT, applyP M B (1, (k1 + 1000, k2), (k1 + 1000, k2), (k5, k6), s7, s8) = BT := ⟨_, rfl⟩
                    rw [hAT] at CA1 hsame hnext
                    rw [hBT] at CB hsame hnext
                    simp only at CA1 CB hsame hnext
                    subst hsame
                    have HC' : Hid (Comp (u, 6) (30 + (k + 1)) AT BT) := hnext
                    have hS0 : W1.cell? ⟨hp, 0, none⟩ = some (.int .i64 1) ∧ W1.cell? ⟨hp, 1, none⟩ = some (.int .i64 (k1 + 1000)) ∧ W1.cell? ⟨hp, 2, none⟩ = some (.int .i64 k2) ∧ W1.cell? ⟨hp, 3, none⟩ = some (.int .i64 (k1 + 1000)) ∧ W1.cell? ⟨hp, 4, none⟩ = some (.int .i64 k2) ∧ W1.cell? ⟨hp, 5, none⟩ = some (.int .i64 k5) ∧ W1.cell? ⟨hp, 6, none⟩ = some (.int .i64 k6) ∧ W1.cell? ⟨hp, 7, none⟩ = some (.string s7) ∧ W1.cell? ⟨hp, 8, none⟩ = some (.string s8) := ⟨HK1.out.cell 0, HK1.out.cell 1, HK1.out.cell 2, HK1.out.cell 3, HK1.out.cell 4, HK1.out.cell 5, HK1.out.cell 6, HK1.out.cell 7, HK1.out.cell 8⟩
                    clear hW1 hhp hAT hBT hnext hfew HC HT z7 z8 x0 x1 x2 x3 x4 x5 x6 x7 x8
                    refine wp_region_noPanic ?_
                    refine wp_region_held_drew (S := fun W => W.cell? ⟨hp, 0, none⟩ = some (.int .i64 1) ∧ W.cell? ⟨hp, 1, none⟩ = some (.int .i64 (k1 + 1000)) ∧ W.cell? ⟨hp, 2, none⟩ = some (.int .i64 k2) ∧ W.cell? ⟨hp, 3, none⟩ = some (.int .i64 (k1 + 1000)) ∧ W.cell? ⟨hp, 4, none⟩ = some (.int .i64 k2) ∧ W.cell? ⟨hp, 5, none⟩ = some (.int .i64 k5) ∧ W.cell? ⟨hp, 6, none⟩ = some (.int .i64 k6) ∧ W.cell? ⟨hp, 7, none⟩ = some (.string s7) ∧ W.cell? ⟨hp, 8, none⟩ = some (.string s8)) (by kernel_rfl) (by first | exact trivial | assumption | exact ⟨by assumption, by assumption⟩) (fun hHeld => ?_)
                    refine take_at (i := 0) (v := ?_) rfl rfl (by kernel_rfl) (by kernel_rfl) (by kernel_rfl) (fun _ _ _ h => h) (Or.inl ⟨by rfl, ?_⟩) (by assumption) ?_
                    rotate_left
                    · intro w hSw; (try dsimp only at hSw); go_simp; try with_reducible rfl
                    try simp only [Act.put, List.setIfInBounds_toArray, List.set_cons_zero, List.set_cons_succ]
                    refine take_at (i := 1) (v := ?_) rfl rfl (by kernel_rfl) (by kernel_rfl) (by kernel_rfl) (fun _ _ _ h => h) (Or.inl ⟨by rfl, ?_⟩) (by assumption) ?_
                    rotate_left
                    · intro w hSw; (try dsimp only at hSw); go_simp; try with_reducible rfl
                    try simp only [Act.put, List.setIfInBounds_toArray, List.set_cons_zero, List.set_cons_succ]
                    refine take_at (i := 3) (v := ?_) rfl rfl (by kernel_rfl) (by kernel_rfl) (by kernel_rfl) (fun _ _ _ h => h) (Or.inl ⟨by rfl, ?_⟩) (by assumption) ?_
                    rotate_left
                    · intro w hSw; (try dsimp only at hSw); go_simp; try with_reducible rfl
                    try simp only [Act.put, List.setIfInBounds_toArray, List.set_cons_zero, List.set_cons_succ]
                    refine take_at (i := 4) (v := ?_) rfl rfl (by kernel_rfl) (by kernel_rfl) (by kernel_rfl) (fun _ _ _ h => h) (Or.inl ⟨by rfl, ?_⟩) (by assumption) ?_
                    rotate_left
                    · intro w hSw; (try dsimp only at hSw); go_simp; try with_reducible rfl
                    try simp only [Act.put, List.setIfInBounds_toArray, List.set_cons_zero, List.set_cons_succ]
                    refine wpAnyH_ready (rs := [2]) (by kernel_rfl) (by simp) ?_
                    refine AllReadyH.cons rfl (fun K hK => ?_) AllReadyH.nil
                    go_simp
                    refine CA1.out.mono ?_
                    rintro e w3 ⟨rfl, r1', hT3, hK3, hN3⟩
                    have HT3 : Hid (Duo w w3 (g2, f2, m2, r2, B) (g1, f1, m1, r1', AT)) := ((Duo.on HT1.out (Below.refl _ _).drew).next hT3 hK3 hN3).turn
                    have HK3 : Hid (Blk w3 30 hp #[.int .i64 1, .int .i64 (k1 + 1000), .int .i64 k2, .int .i64 (k1 + 1000), .int .i64 k2, .int .i64 k5, .int .i64 k6, .string s7, .string s8]) := by
                      show Blk _ _ _ _
                      unfold Blk
                      rw [hK3.block _ (HK1.out.on (Below.refl _ _).drew).lt (fun h => by have := HP.out.1 _ h; omega)]
                      exact HK1.out
                    have CB1 : Hid (Calls _ _ _ _ _) := CB.out w3 HT3.out.a
                    clear CA1 CB hT3 hK3 hN3 HT1 HK1
                    refine hK.out _ _ ⟨HK3.out.cell 0, HK3.out.cell 1, HK3.out.cell 2, HK3.out.cell 3, HK3.out.cell 4, HK3.out.cell 5, HK3.out.cell 6, HK3.out.cell 7, HK3.out.cell 8⟩ (fun hHeld => ?_)
                    clear hK K
                    refine wpAnyH_ready (rs := [5]) (by kernel_rfl) (by simp) ?_
                    refine AllReadyH.cons rfl (fun K hK => ?_) AllReadyH.nil
                    go_simp
                    refine CB1.out.mono ?_
                    rintro e w4 ⟨rfl, r2', hT4, hK4, hN4⟩
                    have HT4 : Hid (Duo w w4 (g1, f1, m1, r1', AT) (g2, f2, m2, r2', BT)) := (HT3.out.next hT4 hK4 hN4).turn
                    have HK4 : Hid (Blk w4 30 hp #[.int .i64 1, .int .i64 (k1 + 1000), .int .i64 k2, .int .i64 (k1 + 1000), .int .i64 k2, .int .i64 k5, .int .i64 k6, .string s7, .string s8]) := by
                      show Blk _ _ _ _
                      unfold Blk
                      rw [hK4.block _ HK3.out.lt (fun h => by have := HP.out.2 _ h; omega)]
                      exact HK3.out
                    clear CB1 hT4 hK4 hN4 HT3 HK3
                    refine hK.out _ _ ⟨HK4.out.cell 0, HK4.out.cell 1, HK4.out.cell 2, HK4.out.cell 3, HK4.out.cell 4, HK4.out.cell 5, HK4.out.cell 6, HK4.out.cell 7, HK4.out.cell 8⟩ (fun hHeld => ?_)
                    clear hK K
                    refine take_at (i := 6) (v := ?_) rfl rfl (by kernel_rfl) (by kernel_rfl) (by kernel_rfl) (fun _ _ _ h => h) (Or.inl ⟨by rfl, ?_⟩) (by assumption) ?_
                    rotate_left
                    · intro w hSw; (try dsimp only at hSw); go_simp; try with_reducible rfl
                    try simp only [Act.put, List.setIfInBounds_toArray, List.set_cons_zero, List.set_cons_succ]
                    refine wpAnyH_done (by kernel_rfl) (NoPanic.normal ?_) _
                    clear HK4 HP hS0
                    go_wp2_with fail
                    refine ⟨?_, ?_⟩
                    · first
                      | exact ⟨k + 1, r1', r2', AT, BT, by omega, by go_num, HC', HT4⟩
                      | ((repeat apply Exists.intro); refine ⟨?_, rfl⟩; exact ⟨k + 1, r1', r2', AT, BT, by omega, by go_num, HC', HT4⟩)
                    · simp [intOf]; omega
                  · have d0 : (k0 == 1) = false := by simp; omega
                    go_wp2_with fail
                    obtain ⟨W1, hW1⟩ : ∃ W1, wr.alloc (.cells #[.int .i64 k0, .int .i64 (k1 + 1000), .int .i64 k2, .int .i64 k3, .int .i64 k4, .int .i64 k5, .int .i64 k6, .string s7, .string s8] 30) = W1 := ⟨_, rfl⟩
                    obtain ⟨hp, hhp⟩ : ∃ hp, wr.heap.size = hp := ⟨_, rfl⟩
                    have HT1 : Hid (Duo w W1 (g1, f1, m1, r1, A) (g2, f2, m2, r2, B)) := by show Duo _ _ _ _; rw [← hW1]; exact HT.out.on (below_new _ _)
                    have HK1 : Hid (Blk W1 30 hp #[.int .i64 k0, .int .i64 (k1 + 1000), .int .i64 k2, .int .i64 k3, .int .i64 k4, .int .i64 k5, .int .i64 k6, .string s7, .string s8]) := by show Blk _ _ _ _; rw [← hW1, ← hhp]; exact Blk.new _ _ _
                    have HP : Hid ((∀ j, tfoot g1 f1 m1 r1 j → j < hp) ∧ (∀ j, tfoot g2 f2 m2 r2 j → j < hp)) := by
                      show _ ∧ _
                      rw [← hhp]
                      exact ⟨fun j hj => HT.out.a.tree.lt hj, fun j hj => HT.out.b.tree.lt hj⟩
                    rw [hW1, hhp]
                    obtain ⟨hsame, hnext⟩ := HC.out.next (M := M) (by omega) (k0, (k1 + 1000, k2), (k3, k4), (k5, k6), s7, s8) (.inl (by show (0 : Int) < k1 + 1000; omega)) (.inl (by show u < k1 + 1000; omega))
                    have hfew := HC.out.few
                    have CA1 : Hid (Calls _ _ _ _ _) := apply_tr M HM.out g1 f1 m1 r1 A (k0, (k1 + 1000, k2), (k3, k4), (k5, k6), s7, s8) w W1.drew (Duo.on HT1.out (Below.refl _ _).drew).a HG.out (by omega) z7 z8
                    have CB : Hid (∀ W, TrA w W (g2, f2, m2, r2, B) → Calls _ _ _ _ _) := fun W hW => apply_tr M HM.out g2 f2 m2 r2 B (k0, (k1 + 1000, k2), (k3, k4), (k5, k6), s7, s8) w W hW HG.out (by omega) z7 z8
                    simp only [opA] at CA1 CB
                    obtain ⟨⟨AT, ea⟩, hAT⟩ : ∃ AT, applyP M A (k0, (k1 + 1000, k2), (k3, k4), (k5, k6), s7, s8) = AT := ⟨_, rfl⟩
                    obtain ⟨⟨BT, eb⟩, hBT⟩ : ∃ BT, applyP M B (k0, (k1 + 1000, k2), (k3, k4), (k5, k6), s7, s8) = BT := ⟨_, rfl⟩
                    rw [hAT] at CA1 hsame hnext
                    rw [hBT] at CB hsame hnext
                    simp only at CA1 CB hsame hnext
                    subst hsame
                    have HC' : Hid (Comp (u, 6) (30 + (k + 1)) AT BT) := hnext
                    have hS0 : W1.cell? ⟨hp, 0, none⟩ = some (.int .i64 k0) ∧ W1.cell? ⟨hp, 1, none⟩ = some (.int .i64 (k1 + 1000)) ∧ W1.cell? ⟨hp, 2, none⟩ = some (.int .i64 k2) ∧ W1.cell? ⟨hp, 3, none⟩ = some (.int .i64 k3) ∧ W1.cell? ⟨hp, 4, none⟩ = some (.int .i64 k4) ∧ W1.cell? ⟨hp, 5, none⟩ = some (.int .i64 k5) ∧ W1.cell? ⟨hp, 6, none⟩ = some (.int .i64 k6) ∧ W1.cell? ⟨hp, 7, none⟩ = some (.string s7) ∧ W1.cell? ⟨hp, 8, none⟩ = some (.string s8) := ⟨HK1.out.cell 0, HK1.out.cell 1, HK1.out.cell 2, HK1.out.cell 3, HK1.out.cell 4, HK1.out.cell 5, HK1.out.cell 6, HK1.out.cell 7, HK1.out.cell 8⟩
                    clear hW1 hhp hAT hBT hnext hfew HC HT z7 z8 x0 x1 x2 x3 x4 x5 x6 x7 x8
                    refine wp_region_noPanic ?_
                    refine wp_region_held_drew (S := fun W => W.cell? ⟨hp, 0, none⟩ = some (.int .i64 k0) ∧ W.cell? ⟨hp, 1, none⟩ = some (.int .i64 (k1 + 1000)) ∧ W.cell? ⟨hp, 2, none⟩ = some (.int .i64 k2) ∧ W.cell? ⟨hp, 3, none⟩ = some (.int .i64 k3) ∧ W.cell? ⟨hp, 4, none⟩ = some (.int .i64 k4) ∧ W.cell? ⟨hp, 5, none⟩ = some (.int .i64 k5) ∧ W.cell? ⟨hp, 6, none⟩ = some (.int .i64 k6) ∧ W.cell? ⟨hp, 7, none⟩ = some (.string s7) ∧ W.cell? ⟨hp, 8, none⟩ = some (.string s8)) (by kernel_rfl) (by first | exact trivial | assumption | exact ⟨by assumption, by assumption⟩) (fun hHeld => ?_)
                    refine take_at (i := 0) (v := ?_) rfl rfl (by kernel_rfl) (by kernel_rfl) (by kernel_rfl) (fun _ _ _ h => h) (Or.inl ⟨by rfl, ?_⟩) (by assumption) ?_
                    rotate_left
                    · intro w hSw; (try dsimp only at hSw); go_simp; try with_reducible rfl
                    try simp only [Act.put, List.setIfInBounds_toArray, List.set_cons_zero, List.set_cons_succ]
                    refine take_at (i := 1) (v := ?_) rfl rfl (by kernel_rfl) (by kernel_rfl) (by kernel_rfl) (fun _ _ _ h => h) (Or.inl ⟨by rfl, ?_⟩) (by assumption) ?_
                    rotate_left
                    · intro w hSw; (try dsimp only at hSw); go_simp; try with_reducible rfl
                    try simp only [Act.put, List.setIfInBounds_toArray, List.set_cons_zero, List.set_cons_succ]
                    refine take_at (i := 3) (v := ?_) rfl rfl (by kernel_rfl) (by kernel_rfl) (by kernel_rfl) (fun _ _ _ h => h) (Or.inl ⟨by rfl, ?_⟩) (by assumption) ?_
                    rotate_left
                    · intro w hSw; (try dsimp only at hSw); go_simp; try with_reducible rfl
                    try simp only [Act.put, List.setIfInBounds_toArray, List.set_cons_zero, List.set_cons_succ]
                    refine take_at (i := 4) (v := ?_) rfl rfl (by kernel_rfl) (by kernel_rfl) (by kernel_rfl) (fun _ _ _ h => h) (Or.inl ⟨by rfl, ?_⟩) (by assumption) ?_
                    rotate_left
                    · intro w hSw; (try dsimp only at hSw); go_simp; try with_reducible rfl
                    try simp only [Act.put, List.setIfInBounds_toArray, List.set_cons_zero, List.set_cons_succ]
                    refine wpAnyH_ready (rs := [2]) (by kernel_rfl) (by simp) ?_
                    refine AllReadyH.cons rfl (fun K hK => ?_) AllReadyH.nil
                    go_simp
                    refine CA1.out.mono ?_
                    rintro e w3 ⟨rfl, r1', hT3, hK3, hN3⟩
                    have HT3 : Hid (Duo w w3 (g2, f2, m2, r2, B) (g1, f1, m1, r1', AT)) := ((Duo.on HT1.out (Below.refl _ _).drew).next hT3 hK3 hN3).turn
                    have HK3 : Hid (Blk w3 30 hp #[.int .i64 k0, .int .i64 (k1 + 1000), .int .i64 k2, .int .i64 k3, .int .i64 k4, .int .i64 k5, .int .i64 k6, .string s7, .string s8]) := by
                      show Blk _ _ _ _
                      unfold Blk
                      rw [hK3.block _ (HK1.out.on (Below.refl _ _).drew).lt (fun h => by have := HP.out.1 _ h; omega)]
                      exact HK1.out
                    have CB1 : Hid (Calls _ _ _ _ _) := CB.out w3 HT3.out.a
                    clear CA1 CB hT3 hK3 hN3 HT1 HK1
                    refine hK.out _ _ ⟨HK3.out.cell 0, HK3.out.cell 1, HK3.out.cell 2, HK3.out.cell 3, HK3.out.cell 4, HK3.out.cell 5, HK3.out.cell 6, HK3.out.cell 7, HK3.out.cell 8⟩ (fun hHeld => ?_)
                    clear hK K
                    refine wpAnyH_ready (rs := [5]) (by kernel_rfl) (by simp) ?_
                    refine AllReadyH.cons rfl (fun K hK => ?_) AllReadyH.nil
                    go_simp
                    refine CB1.out.mono ?_
                    rintro e w4 ⟨rfl, r2', hT4, hK4, hN4⟩
                    have HT4 : Hid (Duo w w4 (g1, f1, m1, r1', AT) (g2, f2, m2, r2', BT)) := (HT3.out.next hT4 hK4 hN4).turn
                    have HK4 : Hid (Blk w4 30 hp #[.int .i64 k0, .int .i64 (k1 + 1000), .int .i64 k2, .int .i64 k3, .int .i64 k4, .int .i64 k5, .int .i64 k6, .string s7, .string s8]) := by
                      show Blk _ _ _ _
                      unfold Blk
                      rw [hK4.block _ HK3.out.lt (fun h => by have := HP.out.2 _ h; omega)]
                      exact HK3.out
                    clear CB1 hT4 hK4 hN4 HT3 HK3
                    refine hK.out _ _ ⟨HK4.out.cell 0, HK4.out.cell 1, HK4.out.cell 2, HK4.out.cell 3, HK4.out.cell 4, HK4.out.cell 5, HK4.out.cell 6, HK4.out.cell 7, HK4.out.cell 8⟩ (fun hHeld => ?_)
                    clear hK K
                    refine take_at (i := 6) (v := ?_) rfl rfl (by kernel_rfl) (by kernel_rfl) (by kernel_rfl) (fun _ _ _ h => h) (Or.inl ⟨by rfl, ?_⟩) (by assumption) ?_
                    rotate_left
                    · intro w hSw; (try dsimp only at hSw); go_simp; try with_reducible rfl
                    try simp only [Act.put, List.setIfInBounds_toArray, List.set_cons_zero, List.set_cons_succ]
                    refine wpAnyH_done (by kernel_rfl) (NoPanic.normal ?_) _
                    clear HK4 HP hS0
                    go_wp2_with fail
                    refine ⟨?_, ?_⟩
                    · first
                      | exact ⟨k + 1, r1', r2', AT, BT, by omega, by go_num, HC', HT4⟩
                      | ((repeat apply Exists.intro); refine ⟨?_, rfl⟩; exact ⟨k + 1, r1', r2', AT, BT, by omega, by go_num, HC', HT4⟩)
                    · simp [intOf]; omega
            · obtain rfl : k = n' := by omega
              have b0 : ¬ ((k : Int) < (k : Int)) := by omega
              have hfew := HC.out.few
              have hcl := cut_len HC.out.cut
              have heq := HC.out.cut.nodes
              have hNL := nodesP_len A.1 A.2.1
              have CNa : Hid (∀ W, TrA w W (g1, f1, m1, r1, A) → Calls _ _ _ _ _) := fun W h => nodes_any g1 f1 m1 r1 A W h.tree (by omega)
              have CNb : Hid (∀ W, TrA w W (g2, f2, m2, r2, B) → Calls _ _ _ _ _) := fun W h => nodes_any g2 f2 m2 r2 B W h.tree (by omega)
              have COa : Hid (∀ W, TrA w W (g1, f1, m1, r1, A) → Calls _ _ _ _ _) := fun W h => ops_any g1 f1 m1 r1 A W h.tree (by omega)
              have COb : Hid (∀ W, TrA w W (g2, f2, m2, r2, B) → Calls _ _ _ _ _) := fun W h => ops_any g2 f2 m2 r2 B W h.tree (by omega)
              rw [heq] at CNb
              obtain ⟨N, hNN⟩ : ∃ N, nodesP A.1 A.2.1 = N := ⟨_, rfl⟩
              rw [hNN] at CNa CNb hNL
              have CSN : Hid (∀ (a1 a2 : Option Addr) (c1 c2 : Nat) (W : World), NodesAt W a1 N.length N → NodesAt W a2 N.length N → _) := fun a1 a2 c1 c2 W h1 h2 => rsameNodes_any N N true ⟨fun _ => rfl, fun _ => rfl⟩ a1 a2 _ _ c1 c2 W (by omega) (by omega) h1 h2
              obtain ⟨q, hq⟩ : ∃ q, N.length = q := ⟨_, rfl⟩
              rw [hq] at CSN
              have HQ : Hid (N.length = q) := hq
              obtain ⟨p1, hp1⟩ : ∃ p, A.2.1.length = p := ⟨_, rfl⟩
              obtain ⟨p2, hp2⟩ : ∃ p, B.2.1.length = p := ⟨_, rfl⟩
              have HP1 : Hid (A.2.1.length = p1) := hp1
              have HP2 : Hid (B.2.1.length = p2) := hp2
              have hpp : (p2 : Int) ≤ (p1 : Int) := by rw [hp1, hp2] at hcl; omega
              have hpd : decide ((p1 : Int) ≥ (p2 : Int)) = true := decide_eq_true hpp
              have hps : p1 ≤ 100 ∧ p2 ≤ 100 := by rw [hp1, hp2] at hfew; omega
              obtain ⟨hps1, hps2⟩ := hps
              clear hfew hcl heq hNL hNN hq hp1 hp2 HC hlt hk b0 HJ HN' HF'
              have C1 : Hid (Calls _ _ _ _ _) := CNa.out wr HT.out.a
              go_wp2_with fail
              refine C1.out.mono ?_
              rintro e x1 ⟨va, rfl, hT1, hO1, hK1⟩
              have HTx1 : Hid (Duo w x1 (g2, f2, m2, r2, B) (g1, f1, m1, r1, A)) := (HT.out.next hT1 hK1 (Nx.refl _ _)).turn
              have HO1 : Hid (OwnN x1 wr.heap.size va N) := hO1
              have HL1 : Hid (∀ j, tfoot g2 f2 m2 r2 j → j < wr.heap.size) := fun j hj => HT.out.b.tree.lt hj
              obtain ⟨aa, ca, rfl, _⟩ := OwnN.nodes hO1
              rw [HQ.out] at HO1 ⊢
              clear C1 hT1 hO1 hK1 HT
              have C2 : Hid (Calls _ _ _ _ _) := CNb.out x1 HTx1.out.a
              go_wp2_with fail
              refine C2.out.mono ?_
              rintro e x2 ⟨vb, rfl, hT2, hO2, hK2⟩
              have HTx2 : Hid (Duo w x2 (g1, f1, m1, r1, A) (g2, f2, m2, r2, B)) := (HTx1.out.next hT2 hK2 (Nx.refl _ _)).turn
              have hO12 := ownN_kept HO1.out hK2 HL1.out
              obtain ⟨ab, cb, rfl, hat⟩ := OwnN.nodes hO2
              obtain ⟨aa', ca', he, hau⟩ := OwnN.nodes hO12
              rw [HQ.out] at hat hau he ⊢
              cases he
              have CS1 : Hid (Calls _ _ _ _ _) := CSN.out aa ab ca cb x2 hau hat
              clear C2 hT2 hO2 hK2 hO12 hat hau HO1 HL1 HTx1 CNa CNb CSN
              go_wp2_with fail
              refine CS1.out.mono ?_
              rintro e x3 ⟨rfl, hb3⟩
              have HTx3 : Hid (Duo w x3 (g1, f1, m1, r1, A) (g2, f2, m2, r2, B)) := HTx2.out.on hb3
              clear CS1 hb3 HTx2
              have C3 : Hid (Calls _ _ _ _ _) := COa.out x3 HTx3.out.a
              go_wp2_with fail
              refine C3.out.mono ?_
              rintro e x4 ⟨v3, rfl, hO3, hb4⟩
              have HTx4 : Hid (Duo w x4 (g2, f2, m2, r2, B) (g1, f1, m1, r1, A)) := (HTx3.out.on hb4).turn
              obtain ⟨a3, c3, rfl, _, _⟩ := OwnO.ops hO3
              rw [HP1.out]
              clear C3 hO3 hb4 HTx3
              have C4 : Hid (Calls _ _ _ _ _) := COb.out x4 HTx4.out.a
              go_wp2_with fail
              refine C4.out.mono ?_
              rintro e x5 ⟨v4, rfl, hO4, hb5⟩
              have HB : Hid (Below w.heap.size w x5) := (HTx4.out.on hb5).a.bel
              obtain ⟨a4, c4, rfl, _, _⟩ := OwnO.ops hO4
              rw [HP2.out]
              have CWx : Hid (Calls _ _ _ _ _) := CW.out x5 HB.out
              clear C4 hO4 hb5 HTx4 CW COa COb
              go_wp2_with fail
              refine CWx.out.mono ?_
              rintro e w5 ⟨rfl, hb5⟩
              have hB5 := below_step HB.out (Nat.le_refl _) hb5
              clear CWx hb5 HB
              go_wp2_with fail
              go_ret
              exact ⟨rfl, hB5⟩
    · have CF : Hid (Calls _ _ _ _ _) := CF0'.out hF' w3 HT3.out.a.bel
      clear CF1' CF0' hF'
      go_wp2_with fail
      refine CF.out.mono ?_
      rintro e w4 ⟨rfl, hb4⟩
      have HB : Hid (Below w.heap.size w w4) := below_step HT3.out.a.bel (Nat.le_refl _) hb4
      have CWx : Hid (Calls _ _ _ _ _) := CW.out w4 HB.out
      clear CF hb4 CW HT3
      go_wp2_with fail
      refine CWx.out.mono ?_
      rintro e w5 ⟨rfl, hb5⟩
      have hB5 := below_step HB.out (Nat.le_refl _) hb5
      clear CWx hb5 HB
      go_wp2_with fail
      go_ret
      exact ⟨rfl, hB5⟩
  · have CF : Hid (Calls _ _ _ _ _) := CF0.out hF w2 HT0.out.a.bel
    clear CF1 CF0 hF
    go_wp2_with fail
    refine CF.out.mono ?_
    rintro e w4 ⟨rfl, hb4⟩
    have HB : Hid (Below w.heap.size w w4) := below_step HT0.out.a.bel (Nat.le_refl _) hb4
    have CWx : Hid (Calls _ _ _ _ _) := CW.out w4 HB.out
    clear CF hb4 CW HT0
    go_wp2_with fail
    refine CWx.out.mono ?_
    rintro e w5 ⟨rfl, hb5⟩
    have hB5 := below_step HB.out (Nat.le_refl _) hb5
    clear CWx hb5 HB
    go_wp2_with fail
    go_ret
    exact ⟨rfl, hB5⟩
end Go.Proofs.YtmfckdhincffkaaDoor
