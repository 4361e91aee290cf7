/- The walk of ViewLines. -/
import Derived.Test.YtebnmghjdoblaaaGreatDoorVG
import Derived.Test.YtebnmghjdoblaaaGreatDoorVI
namespace Go.Proofs.YtebnmghjdoblaaaGreatDoor
open Go.RowKit
set_option linter.unusedSimpArgs false

/-- Few nodes, of few bytes. -/
def LightV (l : List NodeT) (n : Nat) : Prop := n ≤ 30 ∧ ∀ k, k < n → (nL l k).2.2.1.size ≤ 200 ∧ (nL l k).2.2.2.size ≤ 200

set_option maxRecDepth 100000 in
set_option maxHeartbeats 4000000 in
theorem lightV_any (l : List NodeT) (a : Option Addr) (n c : Nat) (w : World) (hm : n ≤ maxLen) (hI : NodesAt w a n l) (hz : ∀ k, k < n → (nL l k).2.2.1.size ≤ maxLen ∧ (nL l k).2.2.2.size ≤ maxLen) (q : Bool) (hq : q = true ↔ LightV l n) :
    Calls Tryz.prog 10 #[.slice a n c] w fun e w' => e = .returned (.bool q) ∧ Below w.heap.size w w' := by
  have HI : Hid (NodesAt w a n l) := hI
  have HZ : Hid (∀ k, k < n → (nL l k).2.2.1.size ≤ maxLen ∧ (nL l k).2.2.2.size ≤ maxLen) := hz
  have hmn : n ≤ 9223372036854775807 := hm
  have HQ : Hid (q = true ↔ LightV l n) := hq
  clear hI hz hm hq
  go_enter Tryz.func10, Tryz.ntmps10
  go_wp2_with fail
  go_loopw [3] (fun i wr => ∃ k : Nat, k ≤ n ∧ k ≤ 30 ∧ i = .int .i64 k ∧ Hid (∀ j, j < k → (nL l j).2.2.1.size ≤ 200 ∧ (nL l j).2.2.2.size ≤ 200) ∧ Hid (Below w.heap.size w wr)) (fun i _ => n - (intOf i).toNat)
  case atStart => exact ⟨0, Nat.zero_le _, Nat.zero_le _, rfl, fun j hj => by omega, Below.refl _ _⟩
  case round =>
    obtain ⟨k, hk, hk30, rfl, HS, HB⟩ := hrel
    by_cases hlt : k < n
    · have b0 : (k : Int) < (n : Int) := by omega
      by_cases h30 : k < 30
      · have b3 : (k : Int) < 30 := by omega
        obtain ⟨b, off, rfl, _⟩ := HI.out.2.some (by omega)
        obtain ⟨x0, x1, x2, x3, x4, x5⟩ := (HI.out.below HB.out).cells k hlt
        obtain ⟨z3, z4⟩ := HZ.out k hlt
        have z3' : (nL l k).2.2.1.size ≤ 9223372036854775807 := z3
        have z4' : (nL l k).2.2.2.size ≤ 9223372036854775807 := z4
        have w9 : IntKind.i64.wrap ((k : Int) + 1) = ((k + 1 : Nat) : Int) := by rw [IntKind.wrap_i64]; omega
        obtain ⟨⟨⟨t1, t2⟩, ⟨t3, t4⟩, nm, vl⟩, hx⟩ : ∃ x, x = nL l k := ⟨_, rfl⟩
        have HX : Hid (((t1, t2), (t3, t4), nm, vl) = nL l k) := hx
        rw [← hx] at x0 x1 x2 x3 x4 x5 z3' z4'
        simp only at x0 x1 x2 x3 x4 x5 z3' z4'
        clear hx z3 z4
        by_cases h3 : nm.size ≤ 200
        · have g3 : decide ((200 : Int) < (nm.size : Int)) = false := by simp; omega
          by_cases h4 : vl.size ≤ 200
          · have g4 : decide ((200 : Int) < (vl.size : Int)) = false := by simp; omega
            have HS2 : Hid (∀ j, j < k + 1 → (nL l j).2.2.1.size ≤ 200 ∧ (nL l j).2.2.2.size ≤ 200) := fun j hj => by
              by_cases e : j = k
              · rw [e, ← HX.out]; exact ⟨h3, h4⟩
              · exact HS.out j (by omega)
            go_wp2_with fail
            refine ⟨?_, ?_⟩
            · first
              | exact ⟨k + 1, by omega, by omega, by go_num, HS2, HB⟩
              | ((repeat apply Exists.intro); refine ⟨?_, rfl⟩; exact ⟨k + 1, by omega, by omega, by go_num, HS2, HB⟩)
            · simp [intOf] <;> omega
          · have g4 : decide ((200 : Int) < (vl.size : Int)) = true := by simp; omega
            have hqf : q = false := by
              cases hq : q with
              | false => rfl
              | true => have := ((HQ.out.1 hq).2 k hlt).2; rw [← HX.out] at this; exact absurd this h4
            subst hqf
            go_wp2_with fail
            go_ret
            exact ⟨rfl, HB.out⟩
        · have g3 : decide ((200 : Int) < (nm.size : Int)) = true := by simp; omega
          have hqf : q = false := by
            cases hq : q with
            | false => rfl
            | true => have := ((HQ.out.1 hq).2 k hlt).1; rw [← HX.out] at this; exact absurd this h3
          subst hqf
          go_wp2_with fail
          go_ret
          exact ⟨rfl, HB.out⟩
      · have b3 : ¬ ((k : Int) < 30) := by omega
        have hqf : q = false := by
          cases hq : q with
          | false => rfl
          | true => have := (HQ.out.1 hq).1; omega
        subst hqf
        have g5 : decide ((n : Int) ≤ 30) = false := by simp; omega
        go_wp2_with fail
        go_ret
        exact ⟨rfl, HB.out⟩
    · obtain rfl : k = n := by omega
      have b0 : ¬ ((k : Int) < (k : Int)) := by omega
      have hqt : q = true := HQ.out.2 ⟨by omega, HS.out⟩
      subst hqt
      have g5 : decide ((k : Int) ≤ 30) = true := by simp; omega
      go_wp2_with fail
      go_ret
      exact ⟨rfl, HB.out⟩


set_option maxRecDepth 100000 in
set_option maxHeartbeats 8000000 in
theorem viewLines_walk (a : Option Addr) (l : List NodeT) (n c : Nat) (a2 : Option Addr) (l2 : List OpT) (n2 c2 : Nat) (w : World) (hm : n ≤ maxLen) (hI : NodesAt w a n l) (hz : ∀ q ∈ l, NodeOkT q) (hm2 : n2 ≤ maxLen) (hI2 : OpsAt w a2 n2 l2) (hz2 : ∀ q ∈ l2, OpOk q) (hG : Glob8 w) (hM : MaxL w) :
    Calls Tryz.prog 3 #[.slice a n c, .slice a2 n2 c2] w fun e w' => e = .returned (.bool true) ∧ Below w.heap.size w w' := by
  have CW : Hid (∀ W, Below w.heap.size w W → Calls Tryz.prog 11 #[] W fun e w' => e = .returned (.bool true) ∧ Below W.heap.size W w') := fun W hW => awake12_on w W hG hM hW
  have HI : Hid (NodesAt w a n l) := hI
  have HG : Hid (Glob8 w) := hG
  have hz' : ∀ k, k < n → (nL l k).2.2.1.size ≤ maxLen ∧ (nL l k).2.2.2.size ≤ maxLen := fun k hk => by
    have hk' : k < l.length := by rw [hI.1]; exact hk
    rw [nL_getE l k hk']; exact hz _ (List.getElem_mem hk')
  have HZ : Hid (∀ k, k < n → (nL l k).2.2.1.size ≤ maxLen ∧ (nL l k).2.2.2.size ≤ maxLen) := hz'
  have CM : Hid (Calls _ _ _ _ _) := made_any a2 l2 n2 c2 w hm2 hI2 hz2
  have HMx : Hid (n ≤ maxLen) := hm
  have hmn : n ≤ 9223372036854775807 := hm
  obtain ⟨q, hq⟩ : ∃ q : Bool, q = true ↔ LightV l n := ⟨@decide (LightV l n) (Classical.propDecidable _), by simp⟩
  obtain ⟨D, hD⟩ : ∃ D : Bool, D = true ↔ MayV l := ⟨@decide (MayV l) (Classical.propDecidable _), by simp⟩
  have CLi : Hid (∀ W, Below w.heap.size w W → _) := fun W hW => lightV_any l a n c W hm (hI.below hW) hz' q hq
  have HQ : Hid (q = true ↔ LightV l n) := hq
  have HD : Hid (D = true ↔ MayV l) := hD
  clear hG hM hI hz hz' hI2 hz2 hm2 hq hD hm
  go_enter Tryz.func3, Tryz.ntmps3
  go_wp2_with fail
  refine CM.out.mono ?_
  rintro e w1 ⟨hMO, hb1⟩
  have HB1 : Hid (Below w.heap.size w w1) := hb1
  clear hb1 CM
  rcases hMO with rfl | ⟨v, NN, rfl, hMay, hNl, hNd, hNV⟩
  · have HBz := HB1
    go_wp2_with fail
    refine (CW.out _ HBz.out).mono ?_
    rintro e w99 ⟨rfl, hb99⟩
    have hB99 := below_step HBz.out (Nat.le_refl _) hb99
    clear CW hb99
    go_wp2_with fail
    go_ret
    exact ⟨rfl, hB99⟩
  · obtain ⟨na, nc, rfl, hNN⟩ := hNV
    have HNN : Hid (NodesAt w1 na NN.length NN) := hNN
    have hzN : ∀ k, k < NN.length → (nL NN k).2.2.1.size ≤ 65536 ∧ (nL NN k).2.2.2.size ≤ maxLen := fun k hk => by
      rw [nL_getE NN k hk]
      obtain ⟨_, h2, h3⟩ := hNd _ (List.getElem_mem hk)
      exact ⟨by omega, Nat.le_trans h2 (by decide)⟩
    have HDN : Hid (true = true ↔ MayV NN) := ⟨fun _ => hMay, fun _ => rfl⟩
    have CN1 : Hid (∀ W, Below w1.heap.size w1 W → Calls Tryz.prog 12 #[.slice na NN.length nc] W fun e w' => ∃ v, e = .returned (.tuple #[v, .int .i64 0]) ∧ OwnL w' W.heap.size v (linesP NN) ∧ Below W.heap.size W w') := fun W hW => by
      have h := linesV_any NN na NN.length nc W (by omega) hzN (HNN.out.below hW) (HG.out.below (below_step HB1.out (Nat.le_refl _) hW)) true HDN.out
      rw [if_pos rfl, if_pos rfl] at h
      exact h
    have CN2 : Hid (∀ W, Below w1.heap.size w1 W → Calls Tryz.prog 13 #[.slice na NN.length nc] W fun e w' => ∃ v, e = .returned (.tuple #[v, .int .i64 0]) ∧ OwnL w' W.heap.size v (linesP NN) ∧ Below W.heap.size W w') := fun W hW => by
      have h := rlinesP_any NN na NN.length nc W true HDN.out (by omega) hzN (HNN.out.below hW)
      rw [if_pos rfl, if_pos rfl] at h
      exact h
    have hRN : (linesP NN).length ≤ 1048576 := Nat.le_trans (linesP_len hMay) (by omega)
    obtain ⟨RN, hRNe⟩ : ∃ RN, linesP NN = RN := ⟨_, rfl⟩
    simp only [hRNe] at CN1 CN2 hRN
    generalize NN.length = nl at *
    clear hMay hNl hNd hNN hzN HDN hRNe
    cases q with
    | false =>
      go_wp2_with fail
      refine (CLi.out w1 HB1.out).mono ?_
      rintro e w2 ⟨rfl, hb2⟩
      have HBz : Hid (Below w.heap.size w w2) := below_step HB1.out (Nat.le_refl _) hb2
      clear hb2 CLi
      go_wp2_with fail
      refine (CW.out _ HBz.out).mono ?_
      rintro e w99 ⟨rfl, hb99⟩
      have hB99 := below_step HBz.out (Nat.le_refl _) hb99
      clear CW hb99
      go_wp2_with fail
      go_ret
      exact ⟨rfl, hB99⟩
    | true =>
      obtain ⟨hn30, hsz⟩ := HQ.out.1 rfl
      have hz2 : ∀ k, k < n → (nL l k).2.2.1.size ≤ 65536 ∧ (nL l k).2.2.2.size ≤ maxLen := fun k hk => ⟨Nat.le_trans (hsz k hk).1 (by decide), (HZ.out k hk).2⟩
      obtain ⟨E, hE⟩ : ∃ E : Int, (if D = true then 0 else 1) = E := ⟨_, rfl⟩
      obtain ⟨RL, hRL⟩ : ∃ RL, (if D = true then linesP l else []) = RL := ⟨_, rfl⟩
      have hRLn : RL.length ≤ 1048576 := by
        rw [← hRL]
        cases hd : D with
        | false => simp
        | true => rw [if_pos rfl]; exact Nat.le_trans (linesP_len (HD.out.1 hd)) (by rw [HI.out.1]; omega)
      have CL1 : Hid (∀ W, Below w.heap.size w W → Calls Tryz.prog 12 #[.slice a n c] W fun e w' => ∃ v, e = .returned (.tuple #[v, .int .i64 E]) ∧ OwnL w' W.heap.size v RL ∧ Below W.heap.size W w') := fun W hW => by
        have h := linesV_any l a n c W (by omega) hz2 (HI.out.below hW) (HG.out.below hW) D HD.out
        rw [hE, hRL] at h
        exact h
      have CL2 : Hid (∀ W, Below w.heap.size w W → Calls Tryz.prog 13 #[.slice a n c] W fun e w' => ∃ v, e = .returned (.tuple #[v, .int .i64 E]) ∧ OwnL w' W.heap.size v RL ∧ Below W.heap.size W w') := fun W hW => by
        have h := rlinesP_any l a n c W D HD.out (by omega) hz2 (HI.out.below hW)
        rw [hE, hRL] at h
        exact h
      have CC1 : Hid (∀ W, Below w.heap.size w W → Calls Tryz.prog 15 #[.slice a n c] W fun e w' => e = .returned (.int .i64 E) ∧ Below W.heap.size W w') := fun W hW => by
        have h := checkC_any l a n c W (by omega) (fun k hk => ⟨Nat.le_trans (hz2 k hk).1 (by decide), (hz2 k hk).2⟩) (HI.out.below hW) (HG.out.below hW) D HD.out
        rw [hE] at h
        exact h
      have CC2 : Hid (∀ W, Below w.heap.size w W → Calls Tryz.prog 16 #[.slice a n c] W fun e w' => e = .returned (.int .i64 E) ∧ Below W.heap.size W w') := fun W hW => by
        have h := rcheckV_any l a n c W D HD.out (by omega) (fun k hk => ⟨Nat.le_trans (hz2 k hk).1 (by decide), (hz2 k hk).2⟩) (HI.out.below hW)
        rw [hE] at h
        exact h
      clear hz2 hsz hn30 hE hRL
      go_wp2_with fail
      refine (CLi.out w1 HB1.out).mono ?_
      rintro e w2 ⟨rfl, hb2⟩
      have HX2 : Hid (Below w1.heap.size w1 w2) := hb2
      have HB2 : Hid (Below w.heap.size w w2) := below_step HB1.out (Nat.le_refl _) hb2
      clear hb2 CLi
      go_wp2_with fail
      refine (CL1.out w2 HB2.out).mono ?_
      rintro e w3 ⟨v3, rfl, ho3, hb3⟩
      obtain ⟨a3, c3, rfl, r3, _⟩ := OwnL.lines2 ho3
      have HL3 : Hid (LinesAt w3 a3 RL.length RL) := r3
      have HX3 : Hid (Below w1.heap.size w1 w3) := below_step HX2.out (Nat.le_refl _) hb3
      have HB3 : Hid (Below w.heap.size w w3) := below_step HB2.out (Nat.le_refl _) hb3
      clear ho3 hb3 r3 HX2 HB2 CL1
      go_wp2_with fail
      refine (CL2.out w3 HB3.out).mono ?_
      rintro e w4 ⟨v4, rfl, ho4, hb4⟩
      obtain ⟨a4, c4, rfl, r4, _⟩ := OwnL.lines2 ho4
      have HL4 : Hid (LinesAt w4 a3 RL.length RL ∧ LinesAt w4 a4 RL.length RL) := ⟨HL3.out.below hb4, r4⟩
      have HX4 : Hid (Below w1.heap.size w1 w4) := below_step HX3.out (Nat.le_refl _) hb4
      have HB4 : Hid (Below w.heap.size w w4) := below_step HB3.out (Nat.le_refl _) hb4
      clear ho4 hb4 r4 HX3 HB3 CL2 HL3
      go_wp2_with fail
      refine (CN1.out w4 HX4.out).mono ?_
      rintro e w5 ⟨v5, rfl, ho5, hb5⟩
      obtain ⟨a5, c5, rfl, r5, _⟩ := OwnL.lines2 ho5
      have HL5 : Hid ((LinesAt w5 a3 RL.length RL ∧ LinesAt w5 a4 RL.length RL) ∧ LinesAt w5 a5 RN.length RN) := ⟨⟨HL4.out.1.below hb5, HL4.out.2.below hb5⟩, r5⟩
      have HX5 : Hid (Below w1.heap.size w1 w5) := below_step HX4.out (Nat.le_refl _) hb5
      have HB5 : Hid (Below w.heap.size w w5) := below_step HB4.out (Nat.le_refl _) hb5
      clear ho5 hb5 r5 HX4 HB4 CN1 HL4
      go_wp2_with fail
      refine (CN2.out w5 HX5.out).mono ?_
      rintro e w6 ⟨v6, rfl, ho6, hb6⟩
      obtain ⟨a6, c6, rfl, r6, _⟩ := OwnL.lines2 ho6
      have HL6 : Hid ((LinesAt w6 a3 RL.length RL ∧ LinesAt w6 a4 RL.length RL) ∧ LinesAt w6 a5 RN.length RN ∧ LinesAt w6 a6 RN.length RN) := ⟨⟨HL5.out.1.1.below hb6, HL5.out.1.2.below hb6⟩, HL5.out.2.below hb6, r6⟩
      have HB6 : Hid (Below w.heap.size w w6) := below_step HB5.out (Nat.le_refl _) hb6
      have CS1 : Hid (Calls _ _ _ _ _) := rsameLines_any RL RL true ⟨fun _ => rfl, fun _ => rfl⟩ a3 a4 RL.length RL.length c3 c4 w6 hRLn hRLn HL6.out.1.1 HL6.out.1.2
      have CS2 : Hid (∀ W, Below w6.heap.size w6 W → _) := fun W hW => rsameLines_any RN RN true ⟨fun _ => rfl, fun _ => rfl⟩ a5 a6 RN.length RN.length c5 c6 W hRN hRN (HL6.out.2.1.below hW) (HL6.out.2.2.below hW)
      generalize RL.length = rl at *
      generalize RN.length = rn at *
      clear ho6 hb6 r6 HX5 HB5 CN2 HL5 HL6
      go_wp2_with fail
      refine CS1.out.mono ?_
      rintro e w7 ⟨rfl, hb7⟩
      have HX7 : Hid (Below w6.heap.size w6 w7) := hb7
      have HB7 : Hid (Below w.heap.size w w7) := below_step HB6.out (Nat.le_refl _) hb7
      clear hb7 CS1
      go_wp2_with fail
      refine (CS2.out w7 HX7.out).mono ?_
      rintro e w8 ⟨rfl, hb8⟩
      have HB8 : Hid (Below w.heap.size w w8) := below_step HB7.out (Nat.le_refl _) hb8
      clear hb8 CS2 HX7 HB7
      go_wp2_with fail
      refine (CC1.out w8 HB8.out).mono ?_
      rintro e w9 ⟨rfl, hb9⟩
      have HB9 : Hid (Below w.heap.size w w9) := below_step HB8.out (Nat.le_refl _) hb9
      clear hb9 CC1 HB8
      go_wp2_with fail
      refine (CC2.out w9 HB9.out).mono ?_
      rintro e w10 ⟨rfl, hb10⟩
      have HBz : Hid (Below w.heap.size w w10) := below_step HB9.out (Nat.le_refl _) hb10
      clear hb10 CC2 HB9
      go_wp2_with fail
      refine (CW.out _ HBz.out).mono ?_
      rintro e w99 ⟨rfl, hb99⟩
      have hB99 := below_step HBz.out (Nat.le_refl _) hb99
      clear CW hb99
      go_wp2_with fail
      go_ret
      exact ⟨rfl, hB99⟩

theorem viewLines_law (a : Option Addr) (n c : Nat) (a2 : Option Addr) (n2 c2 : Nat) (w : World) (z : ∃ l, NodesAt w a n l ∧ n ≤ maxLen ∧ (∀ q ∈ l, NodeOkT q) ∧ SliceOk a n c) (z2 : ∃ l, OpsAt w a2 n2 l ∧ n2 ≤ maxLen ∧ (∀ q ∈ l, OpOk q) ∧ SliceOk a2 n2 c2) (hG : Glob8 w) (hM : MaxL w) :
    Calls Tryz.prog 3 #[.slice a n c, .slice a2 n2 c2] w fun e w' => e = .returned (.bool true) ∧ Below w.heap.size w w' := by
  obtain ⟨l, h1, h2, h3, _⟩ := z
  obtain ⟨l2, k1, k2, k3, _⟩ := z2
  exact viewLines_walk a l n c a2 l2 n2 c2 w h2 h1 h3 k2 k1 k3 hG hM
end Go.Proofs.YtebnmghjdoblaaaGreatDoor
