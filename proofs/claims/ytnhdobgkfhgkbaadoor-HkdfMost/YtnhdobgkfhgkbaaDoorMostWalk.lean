import Derived.Test.YtnhdobgkfhgkbaaDoorHkLight
namespace Go.Proofs.YtnhdobgkfhgkbaaDoor
open Go.RowKit
set_option linter.unusedSimpArgs false

set_option maxRecDepth 100000 in
set_option maxHeartbeats 4000000 in
theorem hkdfMost_walk (key : ByteArray) (more : Int) (w : World) (hB : GlobB w) (hK : GlobK w) :
    Calls Tryd.prog 7 #[.string key, .int .i64 more] w fun e w' => e = .returned (.bool true) ∧ Below w.heap.size w w' := by
  have HB : Hid (GlobB w) := hB
  have HK : Hid (GlobK w) := hK
  clear hB hK
  by_cases h0 : key.size ≤ 512
  · have L : Hid (Calls _ _ _ _ _) := light1_yes key 9 w h0
    rcases (show more % 2 = 0 ∨ more % 2 = 1 by omega) with h | h
    · have e1 : bits .and .i64 more 1 = 0 := by rw [i64_mask more 1 (by decide) 1 (by decide)]; exact h
      have C1 : Hid (∀ w, GlobB w → GlobK w → _) := fun w => expand_ok key ⟨#[]⟩ 8160 w (by omega) (by decide) (by decide)
      have hs := expandB_size key ⟨#[]⟩ 8160
      generalize expandB key ⟨#[]⟩ 8160 = E at *
      clear h0 h
      go_enter Tryd.func7, Tryd.ntmps7
      go_wp2_with fail
      refine L.out.mono ?_
      rintro e w1 ⟨rfl, hb1⟩
      go_wp2_with fail
      refine (C1.out _ (HB.out.below hb1) (HK.out.below hb1)).mono ?_
      rintro e w2 ⟨rfl, hb2⟩
      have hB2 := below_step hb1 (Nat.le_refl _) hb2
      go_wp2_with fail
      refine (one_any _ (HB.out.below hB2) (HK.out.below hB2)).mono ?_
      rintro e w3 ⟨rfl, hb3⟩
      have hB3 := below_step hB2 (Nat.le_refl _) hb3
      go_wp2_with fail
      go_ret
      exact ⟨rfl, hB3⟩
    · have e1 : bits .and .i64 more 1 = 1 := by rw [i64_mask more 1 (by decide) 1 (by decide)]; exact h
      have C1 : Hid (∀ w, GlobB w → GlobK w → _) := fun w _ _ => expand_not key ⟨#[]⟩ 8161 w (by decide)
      clear h0 h
      go_enter Tryd.func7, Tryd.ntmps7
      go_wp2_with fail
      refine L.out.mono ?_
      rintro e w1 ⟨rfl, hb1⟩
      go_wp2_with fail
      refine (C1.out _ (HB.out.below hb1) (HK.out.below hb1)).mono ?_
      rintro e w2 ⟨rfl, hb2⟩
      have hB2 := below_step hb1 (Nat.le_refl _) hb2
      go_wp2_with fail
      refine (one_any _ (HB.out.below hB2) (HK.out.below hB2)).mono ?_
      rintro e w3 ⟨rfl, hb3⟩
      have hB3 := below_step hB2 (Nat.le_refl _) hb3
      go_wp2_with fail
      go_ret
      exact ⟨rfl, hB3⟩
  · have L : Hid (Calls _ _ _ _ _) := light1_no key 9 w (by omega)
    clear h0
    go_enter Tryd.func7, Tryd.ntmps7
    go_wp2_with fail
    refine L.out.mono ?_
    rintro e w1 ⟨rfl, hb1⟩
    go_wp2_with fail
    refine (one_any _ (HB.out.below hb1) (HK.out.below hb1)).mono ?_
    rintro e w2 ⟨rfl, hb2⟩
    have hB2 := below_step hb1 (Nat.le_refl _) hb2
    go_wp2_with fail
    go_ret
    exact ⟨rfl, hB2⟩
end Go.Proofs.YtnhdobgkfhgkbaaDoor
