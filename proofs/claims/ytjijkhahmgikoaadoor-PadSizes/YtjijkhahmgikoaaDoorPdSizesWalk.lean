/- The law PadSizes, walked. -/
import Derived.Test.YtjijkhahmgikoaaDoorPdE
namespace Go.Proofs.YtjijkhahmgikoaaDoor
open Go.RowKit
set_option linter.unusedSimpArgs false

set_option maxRecDepth 100000 in
set_option maxHeartbeats 4000000 in
theorem padSizes_walk (n : Int) (w : World) : Calls Tryd.prog 3 #[.int .i64 n] w fun e w' => e = .returned (.bool true) ∧ Below w.heap.size w w' := by
  have C1' : ∀ W, _ := fun W => size_any n W
  have C2' : ∀ W, _ := fun W => rsize_any n W
  have A : Hid (∀ W, _) := fun W => awake14 W
  obtain ⟨⟨a, e⟩, hz⟩ : ∃ R, sizeE n = R := ⟨_, rfl⟩
  have hcase : (e = 0 ∧ n < a ∧ (a = 64 ∨ a ≤ 2 * n) ∧ 0 ≤ n ∧ n < 16384) ∨ e = 2 := by
    unfold sizeE at hz
    by_cases h : 0 ≤ n ∧ n < 16384
    · rw [if_pos h] at hz
      have h2 := sizeN_is n.toNat (by omega)
      cases hz
      exact .inl ⟨rfl, by omega, by omega, h.1, h.2⟩
    · rw [if_neg h] at hz
      cases hz
      exact .inr rfl
  rw [hz] at C1' C2'
  simp only at C1' C2'
  have C1 : Hid (∀ W, _) := C1'
  have C2 : Hid (∀ W, _) := C2'
  clear C1' C2' hz
  go_enter Tryd.func3, Tryd.ntmps3
  go_wp2_with fail
  refine (C1.out _).mono ?_
  rintro _ w1 ⟨rfl, b1⟩
  clear C1
  go_wp2_with fail
  refine (C2.out _).mono ?_
  rintro _ w2 ⟨rfl, rfl⟩
  clear C2
  go_wp2_with fail
  refine (sizes_any _).mono ?_
  rintro _ w3 ⟨v3, rfl, o3, b3⟩
  go_wp2_with fail
  refine (rsizes_any _).mono ?_
  rintro _ w4 ⟨v4, rfl, o4, b4⟩
  have o3' : OwnV w4 w2.heap.size 3 .i64 v3 9 sizesL := owns_onG o3 b4
  obtain ⟨a3, c3, rfl, i3⟩ := o3'.ints
  obtain ⟨a4, c4, rfl, i4⟩ := o4.ints
  have S : Hid (Calls _ _ _ _ _) := sameInts_any a3 a4 9 c3 c4 sizesL w4 (by omega) i3 i4
  have B4 : Hid (Below w.heap.size w w4) := (b1.trans (b3.mono b1.size)).trans (b4.mono (Nat.le_trans b1.size b3.size))
  clear o3 o3' o4 i3 i4 b1 b3 b4
  go_wp2_with fail
  refine S.out.mono ?_
  rintro _ w5 ⟨rfl, b5⟩
  have B5 : Hid (Below w.heap.size w w5) := B4.out.trans (b5.mono B4.out.size)
  clear S B4 b5
  rcases hcase with ⟨rfl, h1, h2, h3, h4⟩ | rfl
  · have q1 : IntKind.i64.wrap (2 * n) = 2 * n := by rw [IntKind.wrap_i64]; omega
    by_cases h6 : a = 64
    · have h7 : (a == 64) = true := by rw [beq_iff_eq]; exact h6
      go_wp2_with fail
      refine (A.out _).mono ?_
      rintro _ w6 ⟨rfl, b6⟩
      have B6 : Hid (Below w.heap.size w w6) := B5.out.trans (b6.mono B5.out.size)
      clear A B5 b6
      go_wp2_with fail
      go_ret
      exact ⟨rfl, B6.out⟩
    · have h7 : (a == 64) = false := by rw [beq_eq_false_iff_ne]; exact h6
      have h8 : a ≤ 2 * n := by omega
      go_wp2_with fail
      refine (A.out _).mono ?_
      rintro _ w6 ⟨rfl, b6⟩
      have B6 : Hid (Below w.heap.size w w6) := B5.out.trans (b6.mono B5.out.size)
      clear A B5 b6
      go_wp2_with fail
      go_ret
      exact ⟨rfl, B6.out⟩
  · go_wp2_with fail
    refine (A.out _).mono ?_
    rintro _ w6 ⟨rfl, b6⟩
    have B6 : Hid (Below w.heap.size w w6) := B5.out.trans (b6.mono B5.out.size)
    clear A B5 b6
    go_wp2_with fail
    go_ret
    exact ⟨rfl, B6.out⟩
end Go.Proofs.YtjijkhahmgikoaaDoor
