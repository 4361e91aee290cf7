/- The walk of ViewTexts. -/
import Derived.Test.YtebnmghjdoblaaaGreatDoorVG
namespace Go.Proofs.YtebnmghjdoblaaaGreatDoor
open Go.RowKit
set_option linter.unusedSimpArgs false

set_option maxRecDepth 100000 in
set_option maxHeartbeats 4000000 in
theorem viewTexts_walk (a : Option Addr) (l : List LineT) (n c : Nat) (w : World) (hm : n ≤ maxLen) (hI : LinesAt w a n l) (hz : ∀ k, k < n → (lL l k).2.2.1.size ≤ maxLen ∧ (lL l k).2.2.2.size ≤ maxLen) (hG : Glob8 w) (hM : MaxL w) :
    Calls Tryz.prog 7 #[.slice a n c] w fun e w' => e = .returned (.bool true) ∧ Below w.heap.size w w' := by
  have CW : Hid (∀ W, Below w.heap.size w W → Calls Tryz.prog 11 #[] W fun e w' => e = .returned (.bool true) ∧ Below W.heap.size W w') := fun W hW => awake12_on w W hG hM hW
  have HI : Hid (LinesAt w a n l) := hI
  have HZ : Hid (∀ k, k < n → (lL l k).2.2.1.size ≤ maxLen ∧ (lL l k).2.2.2.size ≤ maxLen) := hz
  have hmn : n ≤ 9223372036854775807 := hm
  clear hG hM hI hz hm
  by_cases hn : n ≤ 30
  · have g0 : decide ((30 : Int) < (n : Int)) = false := by simp; omega
    go_enter Tryz.func7, Tryz.ntmps7
    go_wp2_with fail
    go_loopw [3] (fun i wr => ∃ k : Nat, k ≤ n ∧ i = .int .i64 k ∧ Hid (∀ j, j < k → (lL l j).2.2.1.size ≤ 200 ∧ (lL l j).2.2.2.size ≤ 200) ∧ Hid (Below w.heap.size w wr)) (fun i _ => n - (intOf i).toNat)
    case atStart => exact ⟨0, Nat.zero_le _, rfl, fun j hj => by omega, Below.refl _ _⟩
    case round =>
      obtain ⟨k, hk, rfl, HS, HB⟩ := hrel
      by_cases hlt : k < n
      · have b0 : (k : Int) < (n : Int) := by omega
        obtain ⟨b, off, rfl, _⟩ := HI.out.2.some (by omega)
        obtain ⟨x0, x1, x2, x3, x4⟩ := (HI.out.below HB.out).cells k hlt
        obtain ⟨z3, z4⟩ := HZ.out k hlt
        have z3' : (lL l k).2.2.1.size ≤ 9223372036854775807 := z3
        have z4' : (lL l k).2.2.2.size ≤ 9223372036854775807 := z4
        have w9 : IntKind.i64.wrap ((k : Int) + 1) = ((k + 1 : Nat) : Int) := by rw [IntKind.wrap_i64]; omega
        obtain ⟨⟨d, ⟨t, u⟩, nm, vl⟩, hx⟩ : ∃ x, x = lL l k := ⟨_, rfl⟩
        have HX : Hid ((d, (t, u), nm, vl) = lL l k) := hx
        rw [← hx] at x0 x1 x2 x3 x4 z3' z4'
        simp only at x0 x1 x2 x3 x4 z3' z4'
        clear hx z3 z4
        by_cases h3 : nm.size ≤ 200
        · have g3 : decide ((200 : Int) < (nm.size : Int)) = false := by simp; omega
          by_cases h4 : vl.size ≤ 200
          · have g4 : decide ((200 : Int) < (vl.size : Int)) = false := by simp; omega
            have HS2 : Hid (∀ j, j < k + 1 → (lL l j).2.2.1.size ≤ 200 ∧ (lL l j).2.2.2.size ≤ 200) := fun j hj => by
              by_cases e : j = k
              · rw [e, ← HX.out]; exact ⟨h3, h4⟩
              · exact HS.out j (by omega)
            go_wp2_with fail
            refine ⟨?_, ?_⟩
            · first
              | exact ⟨k + 1, by omega, by go_num, HS2, HB⟩
              | ((repeat apply Exists.intro); refine ⟨?_, rfl⟩; exact ⟨k + 1, by omega, by go_num, HS2, HB⟩)
            · simp [intOf] <;> omega
          · have g4 : decide ((200 : Int) < (vl.size : Int)) = true := by simp; omega
            go_wp2_with fail
            refine (CW.out _ HB.out).mono ?_
            rintro e w9 ⟨rfl, hb9⟩
            go_wp2_with fail
            go_ret
            exact ⟨rfl, below_step HB.out (Nat.le_refl _) hb9⟩
        · have g3 : decide ((200 : Int) < (nm.size : Int)) = true := by simp; omega
          go_wp2_with fail
          refine (CW.out _ HB.out).mono ?_
          rintro e w9 ⟨rfl, hb9⟩
          go_wp2_with fail
          go_ret
          exact ⟨rfl, below_step HB.out (Nat.le_refl _) hb9⟩
      · obtain rfl : k = n := by omega
        have b0 : ¬ ((k : Int) < (k : Int)) := by omega
        have CT : Hid (Calls _ _ _ _ _) := textC_any l a k c wr (by omega) (fun j hj => ⟨Nat.le_trans (HS.out j hj).1 (by decide), Nat.le_trans (HS.out j hj).2 (by decide)⟩) (HI.out.below HB.out)
        have CR : Hid (∀ W, Below w.heap.size w W → _) := fun W hW => rtextV_any l a k c W (by omega) (fun j hj => ⟨Nat.le_trans (HS.out j hj).1 (by decide), Nat.le_trans (HS.out j hj).2 (by decide)⟩) (HI.out.below hW)
        obtain ⟨T, hT⟩ : ∃ T, textB l k = T := ⟨_, rfl⟩
        rw [hT] at CT
        simp only [hT] at CR
        clear hT
        go_wp2_with fail
        refine CT.out.mono ?_
        rintro e w1 ⟨rfl, hb0⟩
        have hb1 := below_step HB.out (Nat.le_refl _) hb0
        clear hb0
        go_wp2_with fail
        refine (CR.out w1 hb1).mono ?_
        rintro e w2 ⟨rfl, hb2⟩
        have hB2 := below_step hb1 (Nat.le_refl _) hb2
        clear hb1 hb2 CT CR
        go_wp2_with fail
        refine (CW.out _ hB2).mono ?_
        rintro e w9 ⟨rfl, hb9⟩
        have hB9 := below_step hB2 (Nat.le_refl _) hb9
        clear hB2 hb9 CW
        go_wp2_with fail
        go_ret
        exact ⟨rfl, hB9⟩
  · have g0 : decide ((30 : Int) < (n : Int)) = true := by simp; omega
    go_enter Tryz.func7, Tryz.ntmps7
    go_wp2_with fail
    refine (CW.out _ (Below.refl _ _)).mono ?_
    rintro e w9 ⟨rfl, hb9⟩
    go_wp2_with fail
    go_ret
    exact ⟨rfl, hb9⟩

theorem viewTexts_law (a : Option Addr) (n c : Nat) (w : World) (z : ∃ l, LinesAt w a n l ∧ n ≤ maxLen ∧ (∀ k, k < n → (lL l k).2.2.1.size ≤ maxLen ∧ (lL l k).2.2.2.size ≤ maxLen)) (hG : Glob8 w) (hM : MaxL w) :
    Calls Tryz.prog 7 #[.slice a n c] w fun e w' => e = .returned (.bool true) ∧ Below w.heap.size w w' := by
  obtain ⟨l, h1, h2, h3⟩ := z
  exact viewTexts_walk a l n c w h2 h1 h3 hG hM
end Go.Proofs.YtebnmghjdoblaaaGreatDoor
