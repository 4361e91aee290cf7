/- The walk of PolyClamps. -/
import Derived.Test.YtmegllddjlippaaDoorPyJ
namespace Go.Proofs.YtmegllddjlippaaDoor
open Go.RowKit
set_option linter.unusedSimpArgs false

theorem clamp_twice (s : ByteArray) : clampB (clampB s) = clampB s := by
  have e : clampB (clampB s) = ⟨(bytesOf 16 (clampF (bt (clampB s)))).toArray⟩ := rfl
  rw [e]
  have e2 : clampB s = ⟨(bytesOf 16 (clampF (bt s))).toArray⟩ := rfl
  rw [bytesOf_congr 16 (clampF (bt (clampB s))) (clampF (bt s)) (fun i hi => by
    have h1 := bt_clampB s i hi
    have h2 := congrFun (clampF_twice (bt s)) i
    rw [← h2]
    unfold clampF
    rw [h1]
    rfl)]
  exact e2.symm

set_option maxRecDepth 100000 in
set_option maxHeartbeats 4000000 in
theorem polyClamps_walk (s : ByteArray) (w : World) (hY : GlobY w) :
    Calls Tryd.prog 4 #[.string s] w fun e w' => e = .returned (.bool true) ∧ Below w.heap.size w w' := by
  have CA : Hid (∀ w', Below w.heap.size w w' → _) := fun w' hb => awake_on w w' hY hb
  by_cases h128 : s.size > 128
  · have g0 : decide ((128 : Int) < (s.size : Int)) = true := by simp; omega
    clear hY
    go_enter Tryd.func4, Tryd.ntmps4
    go_wp2_with fail
    refine (CA.out _ (Below.refl _ _)).mono ?_
    rintro e w1 ⟨rfl, hb1⟩
    go_wp2_with fail
    go_ret
    exact ⟨rfl, hb1⟩
  · have g0 : decide ((128 : Int) < (s.size : Int)) = false := by simp; omega
    by_cases h : s.size = 16
    · have C1' := fun w' hb => clamp_yes s w' h (hY.below hb)
      have C2' := fun w => rclamp_yes s w h
      have C3' := fun w' hb => clamp_yes (clampB s) w' (clampB_size s) (hY.below hb)
      rw [clamp_twice] at C3'
      have C1 : Hid (∀ w', Below w.heap.size w w' → _) := C1'
      have C2 : Hid (∀ w, _) := C2'
      have C3 : Hid (∀ w', Below w.heap.size w w' → _) := C3'
      generalize clampB s = B at *
      clear C1' C2' C3' hY h128 h
      go_enter Tryd.func4, Tryd.ntmps4
      go_wp2_with fail
      refine (C1.out _ (Below.refl _ _)).mono ?_
      rintro e w1 ⟨rfl, hb1⟩
      go_wp2_with fail
      refine (C2.out _).mono ?_
      rintro e w2 ⟨rfl, hb2⟩
      have hB2 := below_step hb1 (Nat.le_refl _) hb2
      clear hb1 hb2 C1 C2
      go_wp2_with fail
      refine (C3.out _ hB2).mono ?_
      rintro e w3 ⟨rfl, hb3⟩
      have hB3 := below_step hB2 (Nat.le_refl _) hb3
      clear hB2 hb3 C3
      go_wp2_with fail
      refine (CA.out _ hB3).mono ?_
      rintro e w4 ⟨rfl, hB4⟩
      clear hB3 CA
      go_wp2_with fail
      go_ret
      exact ⟨rfl, hB4⟩
    · have C1 : Hid (∀ w, _) := fun w => clamp_no s w h
      have C2 : Hid (∀ w, _) := fun w => rclamp_no s w h
      have C3 : Hid (∀ w, _) := fun w => clamp_no ⟨#[]⟩ w (by decide)
      clear hY h128
      go_enter Tryd.func4, Tryd.ntmps4
      go_wp2_with fail
      refine (C1.out _).mono ?_
      rintro e w1 ⟨rfl, hb1⟩
      go_wp2_with fail
      refine (C2.out _).mono ?_
      rintro e w2 ⟨rfl, hb2⟩
      have hB2 := below_step hb1 (Nat.le_refl _) hb2
      clear hb1 hb2 C1 C2
      go_wp2_with fail
      refine (C3.out _).mono ?_
      rintro e w3 ⟨rfl, hb3⟩
      have hB3 := below_step hB2 (Nat.le_refl _) hb3
      clear hB2 hb3 C3
      go_wp2_with fail
      refine (CA.out _ hB3).mono ?_
      rintro e w4 ⟨rfl, hB4⟩
      clear hB3 CA
      go_wp2_with fail
      go_ret
      exact ⟨rfl, hB4⟩
end Go.Proofs.YtmegllddjlippaaDoor
