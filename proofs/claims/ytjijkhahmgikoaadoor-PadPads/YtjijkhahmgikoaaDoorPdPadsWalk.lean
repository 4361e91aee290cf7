/- The law PadPads, walked. -/
import Derived.Test.YtjijkhahmgikoaaDoorPdE
namespace Go.Proofs.YtjijkhahmgikoaaDoor
open Go.RowKit
set_option linter.unusedSimpArgs false

set_option maxRecDepth 100000 in
set_option maxHeartbeats 4000000 in
theorem padPads_walk (s : ByteArray) (w : World) : Calls Tryd.prog 4 #[.string s] w fun e w' => e = .returned (.bool true) ∧ Below w.heap.size w w' := by
  have A : Hid (∀ W, _) := fun W => awake14 W
  by_cases hs : 32768 < s.size
  · have b0 : (32768 : Int) < (s.size : Int) := by omega
    go_enter Tryd.func4, Tryd.ntmps4
    go_wp2_with fail
    refine (A.out _).mono ?_
    rintro _ w6 ⟨rfl, b6⟩
    clear A
    go_wp2_with fail
    go_ret
    exact ⟨rfl, b6⟩
  · have b0 : ¬ ((32768 : Int) < (s.size : Int)) := by omega
    have C1' : ∀ W, _ := fun W => pad_any s W (by omega)
    have C2' : ∀ W, _ := fun W => rpad_any s W (by omega)
    by_cases h : s.size < 16384
    · obtain ⟨hz, hP2, hp⟩ := pad_first s h
      have hn := sizeN_is s.size h
      obtain ⟨P, hP⟩ : ∃ P, (padP s).1 = P := ⟨_, rfl⟩
      rw [hP] at hp hz C1' C2'
      rw [hP2] at C1' C2'
      have C3' : ∀ W, _ := fun W => unpad_any P W (by omega)
      rw [hp] at C3'
      have C1 : Hid (∀ W, _) := C1'
      have C2 : Hid (∀ W, _) := C2'
      have C3 : Hid (∀ W, _) := C3'
      clear C1' C2' C3' hp hz hn hP hP2
      go_enter Tryd.func4, Tryd.ntmps4
      go_wp2_with fail
      refine (C1.out _).mono ?_
      rintro _ w1 ⟨rfl, b1⟩
      clear C1
      go_wp2_with fail
      refine (C2.out _).mono ?_
      rintro _ w2 ⟨rfl, b2⟩
      clear C2
      go_wp2_with fail
      refine (C3.out _).mono ?_
      rintro _ w3 ⟨rfl, b3⟩
      clear C3
      go_wp2_with fail
      refine (A.out _).mono ?_
      rintro _ w4 ⟨rfl, b4⟩
      clear A
      have B2 := b1.trans (b2.mono b1.size)
      have B3 := B2.trans (b3.mono B2.size)
      have B4 := B3.trans (b4.mono B3.size)
      clear b1 b2 b3 b4 B2 B3
      go_wp2_with fail
      go_ret
      exact ⟨rfl, B4⟩
    · rw [pad_full s h] at C1' C2'
      simp only at C1' C2'
      have b1 : (16384 : Int) ≤ (s.size : Int) := by omega
      have C1 : Hid (∀ W, _) := C1'
      have C2 : Hid (∀ W, _) := C2'
      clear C1' C2'
      go_enter Tryd.func4, Tryd.ntmps4
      go_wp2_with fail
      refine (C1.out _).mono ?_
      rintro _ w1 ⟨rfl, b1⟩
      clear C1
      go_wp2_with fail
      refine (C2.out _).mono ?_
      rintro _ w2 ⟨rfl, b2⟩
      clear C2
      go_wp2_with fail
      refine (A.out _).mono ?_
      rintro _ w4 ⟨rfl, b4⟩
      clear A
      have B2 := b1.trans (b2.mono b1.size)
      have B4 := B2.trans (b4.mono B2.size)
      clear b1 b2 b4 B2
      go_wp2_with fail
      go_ret
      exact ⟨rfl, B4⟩
end Go.Proofs.YtjijkhahmgikoaaDoor
