/- The law PadAlike, walked. -/
import Derived.Test.YtjijkhahmgikoaaDoorPdE
namespace Go.Proofs.YtjijkhahmgikoaaDoor
open Go.RowKit
set_option linter.unusedSimpArgs false

theorem pad_beq (a b : ByteArray) (ha : a.size < 16384) (hb : b.size < 16384) : ((padP a).1.toList == (padP b).1.toList) = (a.toList == b.toList) := by
  rw [beq_bytes, beq_bytes]
  apply decide_eq_decide.2
  exact ⟨pad_inj a b ha hb, fun e => by rw [e]⟩

set_option maxRecDepth 100000 in
set_option maxHeartbeats 4000000 in
theorem padAlike_walk (a b : ByteArray) (w : World) : Calls Tryd.prog 6 #[.string a, .string b] w fun e w' => e = .returned (.bool true) ∧ Below w.heap.size w w' := by
  have A : Hid (∀ W, _) := fun W => awake14 W
  by_cases ha : 4096 < a.size
  · have b0 : (4096 : Int) < (a.size : Int) := by omega
    go_enter Tryd.func6, Tryd.ntmps6
    go_wp2_with fail
    refine (A.out _).mono ?_
    rintro _ w6 ⟨rfl, b6⟩
    clear A
    go_wp2_with fail
    go_ret
    exact ⟨rfl, b6⟩
  · have b0 : ¬ ((4096 : Int) < (a.size : Int)) := by omega
    by_cases hb : 4096 < b.size
    · have b1 : (4096 : Int) < (b.size : Int) := by omega
      go_enter Tryd.func6, Tryd.ntmps6
      go_wp2_with fail
      refine (A.out _).mono ?_
      rintro _ w6 ⟨rfl, b6⟩
      clear A
      go_wp2_with fail
      go_ret
      exact ⟨rfl, b6⟩
    · have b1 : ¬ ((4096 : Int) < (b.size : Int)) := by omega
      have C1' : ∀ W, _ := fun W => pad_any a W (by omega)
      have C2' : ∀ W, _ := fun W => pad_any b W (by omega)
      have C3' : ∀ W, _ := fun W => size_any (a.size : Int) W
      have C4' : ∀ W, _ := fun W => size_any (b.size : Int) W
      rw [sizeE_of a.size (by omega)] at C3'
      rw [sizeE_of b.size (by omega)] at C4'
      obtain ⟨z1, e1, _⟩ := pad_first a (by omega)
      obtain ⟨z2, e2, _⟩ := pad_first b (by omega)
      have hbq := pad_beq a b (by omega) (by omega)
      have hmo : ¬ b.size < a.size → sizeN a.size ≤ sizeN b.size := fun h => sizeN_mono _ _ (by omega)
      have n1 := sizeN_is a.size (by omega)
      have n2 := sizeN_is b.size (by omega)
      obtain ⟨P, hP⟩ : ∃ P, (padP a).1 = P := ⟨_, rfl⟩
      obtain ⟨Q, hQ⟩ : ∃ Q, (padP b).1 = Q := ⟨_, rfl⟩
      obtain ⟨M, hM⟩ : ∃ M, sizeN a.size = M := ⟨_, rfl⟩
      obtain ⟨N, hN⟩ : ∃ N, sizeN b.size = N := ⟨_, rfl⟩
      obtain ⟨D, hD⟩ : ∃ D, (a.toList == b.toList) = D := ⟨_, rfl⟩
      rw [hP, e1] at C1'
      rw [hQ, e2] at C2'
      rw [hP, hM] at z1
      rw [hQ, hN] at z2
      rw [hP, hQ, hD] at hbq
      rw [hM] at C3' hmo n1
      rw [hN] at C4' hmo n2
      simp only at C3' C4'
      have C1 : Hid (∀ W, _) := C1'
      have C2 : Hid (∀ W, _) := C2'
      have C3 : Hid (∀ W, _) := C3'
      have C4 : Hid (∀ W, _) := C4'
      have HM : Hid (¬ b.size < a.size → M ≤ N) := hmo
      clear C1' C2' C3' C4' hP hQ hM hN e1 e2 hmo
      go_enter Tryd.func6, Tryd.ntmps6
      go_wp2_with fail
      refine (C1.out _).mono ?_
      rintro _ w1 ⟨rfl, k1⟩
      clear C1
      go_wp2_with fail
      refine (C2.out _).mono ?_
      rintro _ w2 ⟨rfl, k2⟩
      clear C2
      have B2 := k1.trans (k2.mono k1.size)
      clear k1 k2
      go_wp2_with fail
      refine (C3.out _).mono ?_
      rintro _ w3 ⟨rfl, k3⟩
      clear C3
      have B3 := B2.trans (k3.mono B2.size)
      clear B2 k3
      go_wp2_with fail
      refine (C4.out _).mono ?_
      rintro _ w4 ⟨rfl, k4⟩
      clear C4
      have B4 := B3.trans (k4.mono B3.size)
      clear B3 k4
      by_cases hlt : b.size < a.size
      · have l1 : (b.size : Int) < (a.size : Int) := by omega
        go_wp2_with fail
        refine (A.out _).mono ?_
        rintro _ w5 ⟨rfl, k5⟩
        clear A
        have B5 := B4.trans (k5.mono B4.size)
        clear B4 k5
        go_wp2_with fail
        go_ret
        exact ⟨rfl, B5⟩
      · have l1 : ¬ ((b.size : Int) < (a.size : Int)) := by omega
        have l2 : (M : Int) ≤ (N : Int) := by have := HM.out hlt; omega
        go_wp2_with fail
        refine (A.out _).mono ?_
        rintro _ w5 ⟨rfl, k5⟩
        clear A
        have B5 := B4.trans (k5.mono B4.size)
        clear B4 k5
        go_wp2_with fail
        go_ret
        exact ⟨rfl, B5⟩
end Go.Proofs.YtjijkhahmgikoaaDoor
