/- The law PadTakes, walked. -/
import Derived.Test.YtjijkhahmgikoaaDoorPdE
namespace Go.Proofs.YtjijkhahmgikoaaDoor
open Go.RowKit
set_option linter.unusedSimpArgs false

theorem unpad_or (s : ByteArray) : (unpadP s).2 = 0 ∨ unpadP s = (⟨#[]⟩, 140) := by
  unfold unpadP
  split
  · exact .inr rfl
  · split
    · exact .inr rfl
    · exact .inl rfl

set_option maxRecDepth 100000 in
set_option maxHeartbeats 4000000 in
theorem padTakes_walk (s : ByteArray) (w : World) : Calls Tryd.prog 5 #[.string s] w fun e w' => e = .returned (.bool true) ∧ Below w.heap.size w w' := by
  have A : Hid (∀ W, _) := fun W => awake14 W
  by_cases hs : 4096 < s.size
  · have b0 : (4096 : Int) < (s.size : Int) := by omega
    go_enter Tryd.func5, Tryd.ntmps5
    go_wp2_with fail
    refine (A.out _).mono ?_
    rintro _ w6 ⟨rfl, b6⟩
    clear A
    go_wp2_with fail
    go_ret
    exact ⟨rfl, b6⟩
  · have b0 : ¬ ((4096 : Int) < (s.size : Int)) := by omega
    have C1' : ∀ W, _ := fun W => unpad_any s W (by omega)
    have C2' : ∀ W, _ := fun W => runpad_any s W (by omega)
    rcases unpad_or s with h | h
    · obtain ⟨X, hX⟩ : ∃ X, (unpadP s).1 = X := ⟨_, rfl⟩
      have hu : unpadP s = (X, 0) := Prod.ext hX h
      have hp := pad_unpad s X hu
      have C3' : ∀ W, _ := fun W => pad_any X W (by omega)
      rw [hp.1] at C3'
      rw [hu] at C1' C2'
      simp only at C1' C2' C3'
      have C1 : Hid (∀ W, _) := C1'
      have C2 : Hid (∀ W, _) := C2'
      have C3 : Hid (∀ W, _) := C3'
      clear C1' C2' C3' hp hu hX h
      go_enter Tryd.func5, Tryd.ntmps5
      go_wp2_with fail
      refine (C1.out _).mono ?_
      rintro _ w1 ⟨rfl, b1⟩
      clear C1
      go_wp2_with fail
      refine (C2.out _).mono ?_
      rintro _ w2 ⟨rfl, rfl⟩
      clear C2
      go_wp2_with fail
      refine (C3.out _).mono ?_
      rintro _ w3 ⟨rfl, b3⟩
      clear C3
      go_wp2_with fail
      refine (A.out _).mono ?_
      rintro _ w4 ⟨rfl, b4⟩
      clear A
      have B3 := b1.trans (b3.mono b1.size)
      have B4 := B3.trans (b4.mono B3.size)
      clear b1 b3 b4 B3
      go_wp2_with fail
      go_ret
      exact ⟨rfl, B4⟩
    · rw [h] at C1' C2'
      simp only at C1' C2'
      have C1 : Hid (∀ W, _) := C1'
      have C2 : Hid (∀ W, _) := C2'
      clear C1' C2' h
      go_enter Tryd.func5, Tryd.ntmps5
      go_wp2_with fail
      refine (C1.out _).mono ?_
      rintro _ w1 ⟨rfl, b1⟩
      clear C1
      go_wp2_with fail
      refine (C2.out _).mono ?_
      rintro _ w2 ⟨rfl, rfl⟩
      clear C2
      go_wp2_with fail
      refine (A.out _).mono ?_
      rintro _ w4 ⟨rfl, b4⟩
      clear A
      have B4 := b1.trans (b4.mono b1.size)
      clear b1 b4
      go_wp2_with fail
      go_ret
      exact ⟨rfl, B4⟩
end Go.Proofs.YtjijkhahmgikoaaDoor
