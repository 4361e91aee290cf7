/- Layer 10's laws: awake. -/
import Derived.Test.YtegbjglkglmgiaaCkC
import Derived.Test.YtegbjglkglmgiaaRecEq
namespace Go.Proofs.Ytegbjglkglmgiaa
open Go.RowKit
set_option linter.unusedSimpArgs false

/-- A stamp among a law's parameters. -/
def IsStamp (v : Value) : Prop := ∃ t u : Int, v = .agg #[.int .i64 t, .int .i64 u] ∧ (Lit.int .i64 t).wf = true ∧ (Lit.int .i64 u).wf = true
theorem asee10 : seeP (1, 0) (7, 2) = (1, 7) := by decide +kernel
theorem anext10 : nextP10 (1, 7) = ((1, 8), (8, 1), 0) := by decide +kernel

set_option maxHeartbeats 4000000 in
set_option maxRecDepth 100000 in
theorem awake10 (w : World) : Calls Try.prog 13 #[] w fun e w' => e = .returned (.bool true) ∧ Below w.heap.size w w' := by
  have hEq := fun w => stampEq 8 1 8 1 w
  rw [show decide (((8, 1) : Int × Int) = (8, 1)) = true by decide] at hEq
  go_enter Try.func13, Try.ntmps13
  go_wp2_with fail
  refine (cnew_yes 1 _ (by decide)).mono ?_
  rintro e w1 ⟨rfl, h1, b1⟩
  have H1 : Hid (ClockAt w1 w.heap.size (1, 0)) := h1
  have B1 : Hid (Below w.heap.size w w1) := b1
  clear h1 b1
  go_wp2_with fail
  have C1 := csee_any w.heap.size (1, 0) (7, 2) w1 H1.out
  rw [if_pos (by decide +kernel), asee10] at C1
  refine C1.mono ?_
  clear C1
  rintro e w2 ⟨rfl, h2⟩
  have H2 : Hid (ClockAt w2 w.heap.size (1, 7)) := h2.1
  have B2 : Hid (Below w.heap.size w w2) := B1.out.trans (h2.below w.heap.size B1.out.size (Nat.le_refl _))
  clear h2
  go_wp2_with fail
  have C1 := cnext_any w.heap.size (1, 7) w2 H2.out
  rw [anext10] at C1
  refine C1.mono ?_
  clear C1
  rintro e w3 ⟨rfl, h3⟩
  have H3 : Hid (ClockAt w3 w.heap.size (1, 8)) := h3.1
  have B3 : Hid (Below w.heap.size w w3) := B2.out.trans (h3.below w.heap.size B2.out.size (Nat.le_refl _))
  clear h3
  rw [show stampV ((1, 8), (8, 1), (0 : Int)).2.1 = .agg #[.int .i64 8, .int .i64 1] from rfl]
  go_wp2_with fail
  refine (cnow_any w.heap.size (1, 8) _ (H3.out.on (below_new _ _))).mono ?_
  rintro e w4 ⟨rfl, hw4⟩
  subst hw4
  go_wp2_with fail
  have C1 := less_any (7, 2) (8, 1) (w3.alloc (.cells #[.int .i64 8, .int .i64 1] 23))
  rw [show decide (LessS (7, 2) (8, 1)) = true by decide +kernel] at C1
  refine C1.mono ?_
  clear C1
  rintro e w5 ⟨rfl, b5⟩
  have S5 : Blk w5 23 w3.heap.size #[.int .i64 8, .int .i64 1] := (Blk.new _ _ _).on b5
  have B5 : Hid (Below w.heap.size w w5) := below_step (B3.out.alloc B3.out.size _) (Nat.le_refl _) b5
  have d0 : w5.cell? ⟨w3.heap.size, 0, none⟩ = some (.int .i64 8) := S5.cell 0
  have d1 : w5.cell? ⟨w3.heap.size, 1, none⟩ = some (.int .i64 1) := S5.cell 1
  clear S5 b5
  go_wp2_with fail
  have C1 := checkS_any (8, 1) w5
  rw [if_pos (by decide +kernel)] at C1
  refine C1.mono ?_
  clear C1
  rintro e w6 ⟨rfl, b6⟩
  have B6 : Hid (Below w.heap.size w w6) := below_step B5.out (Nat.le_refl _) b6
  clear b6
  go_wp2
  go_ret
  exact ⟨rfl, B6.out⟩
end Go.Proofs.Ytegbjglkglmgiaa
