import Derived.Test.YtnhdobgkfhgkbaaDoorHkLight
namespace Go.Proofs.YtnhdobgkfhgkbaaDoor
open Go.RowKit
set_option linter.unusedSimpArgs false

set_option maxRecDepth 100000 in
set_option maxHeartbeats 4000000 in
theorem hkdfExpands_walk (key p : ByteArray) (n : Int) (w : World) (hB : GlobB w) (hK : GlobK w) :
    Calls Tryd.prog 3 #[.string key, .string p, .int .i64 n] w fun e w' => e = .returned (.bool true) ∧ Below w.heap.size w w' := by
  have HB : Hid (GlobB w) := hB
  have HK : Hid (GlobK w) := hK
  clear hB hK
  by_cases h0 : key.size ≤ 512 ∧ p.size ≤ 512
  · have L : Hid (Calls _ _ _ _ _) := light2_yes key p 9 w h0.1 h0.2
    by_cases h1 : 200 < n ∧ n ≤ 8160
    · have g1 : decide ((200 : Int) < n) = true := by simp; omega
      have g2 : decide (n ≤ (8160 : Int)) = true := by simp; omega
      clear h0 h1
      go_enter Tryd.func3, Tryd.ntmps3
      go_wp2_with fail
      refine L.out.mono ?_
      rintro e w1 ⟨rfl, hb1⟩
      go_wp2_with fail
      refine (one_any _ (HB.out.below hb1) (HK.out.below hb1)).mono ?_
      rintro e w2 ⟨rfl, hb2⟩
      have hB2 := below_step hb1 (Nat.le_refl _) hb2
      go_wp2_with fail
      go_ret
      exact ⟨rfl, hB2⟩
    · by_cases h2 : n < 0 ∨ 8160 < n
      · have C1 : Hid (∀ w, GlobB w → GlobK w → _) := fun w _ _ => expand_not key p n w h2
        have C2 : Hid (∀ w, _) := fun w => rexpand_not key p n w h2
        by_cases h3 : 200 < n
        · have g1 : decide ((200 : Int) < n) = true := by simp; omega
          have g2 : decide (n ≤ (8160 : Int)) = false := by simp; omega
          clear h0 h1 h2 h3
          go_enter Tryd.func3, Tryd.ntmps3
          go_wp2_with fail
          refine L.out.mono ?_
          rintro e w1 ⟨rfl, hb1⟩
          go_wp2_with fail
          refine (C1.out _ (HB.out.below hb1) (HK.out.below hb1)).mono ?_
          rintro e w2 ⟨rfl, hb2⟩
          have hB2 := below_step hb1 (Nat.le_refl _) hb2
          go_wp2_with fail
          refine (C2.out _).mono ?_
          rintro e w3 ⟨rfl, hb3⟩
          have hB3 := below_step hB2 (Nat.le_refl _) hb3
          go_wp2_with fail
          refine (one_any _ (HB.out.below hB3) (HK.out.below hB3)).mono ?_
          rintro e w4 ⟨rfl, hb4⟩
          have hB4 := below_step hB3 (Nat.le_refl _) hb4
          go_wp2_with fail
          go_ret
          exact ⟨rfl, hB4⟩
        · have g1 : decide ((200 : Int) < n) = false := by simp; omega
          clear h0 h1 h2 h3
          go_enter Tryd.func3, Tryd.ntmps3
          go_wp2_with fail
          refine L.out.mono ?_
          rintro e w1 ⟨rfl, hb1⟩
          go_wp2_with fail
          refine (C1.out _ (HB.out.below hb1) (HK.out.below hb1)).mono ?_
          rintro e w2 ⟨rfl, hb2⟩
          have hB2 := below_step hb1 (Nat.le_refl _) hb2
          go_wp2_with fail
          refine (C2.out _).mono ?_
          rintro e w3 ⟨rfl, hb3⟩
          have hB3 := below_step hB2 (Nat.le_refl _) hb3
          go_wp2_with fail
          refine (one_any _ (HB.out.below hB3) (HK.out.below hB3)).mono ?_
          rintro e w4 ⟨rfl, hb4⟩
          have hB4 := below_step hB3 (Nat.le_refl _) hb4
          go_wp2_with fail
          go_ret
          exact ⟨rfl, hB4⟩
      · obtain ⟨m, rfl⟩ : ∃ m : Nat, n = (m : Int) := ⟨n.toNat, by omega⟩
        have C1 : Hid (∀ w, GlobB w → GlobK w → _) := fun w => expand_ok key p m w (by omega) (by omega) (by omega)
        have C2 : Hid (∀ w, _) := fun w => rexpand_ok key p m w (by omega) (by omega) (by omega)
        generalize expandB key p m = E at *
        have g1 : decide ((200 : Int) < (m : Int)) = false := by simp; omega
        clear h0 h1 h2
        go_enter Tryd.func3, Tryd.ntmps3
        go_wp2_with fail
        refine L.out.mono ?_
        rintro e w1 ⟨rfl, hb1⟩
        go_wp2_with fail
        refine (C1.out _ (HB.out.below hb1) (HK.out.below hb1)).mono ?_
        rintro e w2 ⟨rfl, hb2⟩
        have hB2 := below_step hb1 (Nat.le_refl _) hb2
        go_wp2_with fail
        refine (C2.out _).mono ?_
        rintro e w3 ⟨rfl, hb3⟩
        have hB3 := below_step hB2 (Nat.le_refl _) hb3
        go_wp2_with fail
        refine (one_any _ (HB.out.below hB3) (HK.out.below hB3)).mono ?_
        rintro e w4 ⟨rfl, hb4⟩
        have hB4 := below_step hB3 (Nat.le_refl _) hb4
        go_wp2_with fail
        go_ret
        exact ⟨rfl, hB4⟩
  · have L : Hid (Calls _ _ _ _ _) := light2_no key p 9 w (by omega)
    clear h0
    go_enter Tryd.func3, Tryd.ntmps3
    go_wp2_with fail
    refine L.out.mono ?_
    rintro e w1 ⟨rfl, hb1⟩
    go_wp2_with fail
    refine (one_any _ (HB.out.below hb1) (HK.out.below hb1)).mono ?_
    rintro e w2 ⟨rfl, hb2⟩
    have hB2 := below_step hb1 (Nat.le_refl _) hb2
    go_wp2_with fail
    go_ret
    exact ⟨rfl, hB2⟩
end Go.Proofs.YtnhdobgkfhgkbaaDoor
