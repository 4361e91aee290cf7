import Derived.Test.YtagmfgaojmholaaDoorRSum
namespace Go.Proofs.YtagmfgaojmholaaDoor
open Go.RowKit
set_option linter.unusedSimpArgs false

theorem abc_bytes : ofN (sumN ⟨#[97, 98, 99]⟩) = ⟨#[186, 120, 22, 191, 143, 1, 207, 234, 65, 65, 64, 222, 93, 174, 34, 35, 176, 3, 97, 163, 150, 23, 122, 156, 180, 16, 255, 97, 242, 0, 21, 173]⟩ := by
  rw [abc_sum]; decide +kernel

set_option maxHeartbeats 2000000 in
theorem abc_any (w : World) (hB : GlobB w) (hK : GlobK w) :
    Calls Tryd.prog 14 #[] w fun e w' => e = .returned (.bool true) ∧ Below w.heap.size w w' := by
  have C : Hid (Calls Tryd.prog 15 #[.string ⟨#[97, 98, 99]⟩] w _) := sum_any ⟨#[97, 98, 99]⟩ w (by decide) hB hK
  rw [abc_bytes] at C
  clear hB hK
  go_enter Tryd.func14, Tryd.ntmps14
  go_wp2_with fail
  refine C.out.mono ?_
  rintro e w1 ⟨rfl, hb1⟩
  go_wp2_with fail
  go_ret
  exact ⟨rfl, hb1⟩

set_option maxHeartbeats 2000000 in
theorem shaSums_walk (s : ByteArray) (w : World) (hB : GlobB w) (hK : GlobK w) :
    Calls Tryd.prog 5 #[.string s] w fun e w' => e = .returned (.bool true) ∧ Below w.heap.size w w' := by
  have HB : Hid (GlobB w) := hB
  have HK : Hid (GlobK w) := hK
  clear hB hK
  by_cases h : s.size ≤ 2048
  · have C1 : Hid (Calls _ _ _ _ _) := sum_any s w (by omega) HB.out HK.out
    have C2 : Hid (∀ w, _) := fun w => rsum_any s w (by omega)
    go_enter Tryd.func5, Tryd.ntmps5
    go_wp2_with fail
    refine C1.out.mono ?_
    rintro e w1 ⟨rfl, hb1⟩
    go_wp2_with fail
    refine (C2.out _).mono ?_
    rintro e w2 ⟨rfl, hb2⟩
    have hb12 := below_step hb1 (Nat.le_refl _) hb2
    go_wp2_with fail
    refine (abc_any _ (HB.out.below hb12) (HK.out.below hb12)).mono ?_
    rintro e w3 ⟨rfl, hb3⟩
    go_wp2_with fail
    go_ret
    exact ⟨rfl, below_step hb12 (Nat.le_refl _) hb3⟩
  · have g : (2048 : Int) < (s.size : Int) := by omega
    go_enter Tryd.func5, Tryd.ntmps5
    go_wp2_with fail
    refine (abc_any _ HB.out HK.out).mono ?_
    rintro e w3 ⟨rfl, hb3⟩
    go_wp2_with fail
    go_ret
    exact ⟨rfl, hb3⟩
end Go.Proofs.YtagmfgaojmholaaDoor
