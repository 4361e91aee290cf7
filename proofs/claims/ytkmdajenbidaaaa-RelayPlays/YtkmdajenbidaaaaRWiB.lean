/- Layer 19, the document's: names: what of a frame its kind names. -/
import Derived.Test.YtkmdajenbidaaaaRWiA
namespace Go.Proofs.Ytkmdajenbidaaaa
open Go.RowKit
set_option maxRecDepth 100000
set_option linter.unusedSimpArgs false
set_option linter.unusedVariables false
set_option maxRecDepth 100000

/-- What a kind names: Seq, Epoch, Max, Blob, Items, Err. -/
def nmL (k : Int) : List Bool := if k = 1 then [false, true, false, true, false, false] else if k = 2 then [true, false, false, false, false, false] else if k = 3 then [true, false, true, false, false, false] else if k = 4 then [false, false, false, false, true, false] else if k = 5 then [true, true, false, true, false, false] else if k = 6 then [true, false, false, false, false, false] else if k = 7 then [false, false, false, false, false, false] else if k = 8 then [true, true, false, true, false, false] else if k = 9 then [false, false, false, false, false, true] else [false, false, false, false, false, false]
def nmA (k : Int) : Array Value := ((nmL k).map Value.bool).toArray

set_option maxHeartbeats 1000000 in
theorem rnames1 (w : World) : Calls Try.prog 34 #[.int .i64 1] w fun e w' => e = .returned (.tuple #[.agg #[.bool false, .bool true, .bool false, .bool true, .bool false, .bool false], .bool true]) ∧ Below w.heap.size w w' := by
  go_enter Try.func34, Try.ntmps34
  go_wp2_with fail
  exact bodyPost_rowTmp rfl w.heap.size #[.bool false, .bool true, .bool false, .bool true, .bool false, .bool false] _ rfl rfl rfl (Blk.new _ _ _) _ Try.underlying67 rfl (by kernel_rfl) ⟨rfl, below_new w _⟩

set_option maxHeartbeats 1000000 in
theorem rnames2 (w : World) : Calls Try.prog 34 #[.int .i64 2] w fun e w' => e = .returned (.tuple #[.agg #[.bool true, .bool false, .bool false, .bool false, .bool false, .bool false], .bool true]) ∧ Below w.heap.size w w' := by
  go_enter Try.func34, Try.ntmps34
  go_wp2_with fail
  exact bodyPost_rowTmp rfl w.heap.size #[.bool true, .bool false, .bool false, .bool false, .bool false, .bool false] _ rfl rfl rfl (Blk.new _ _ _) _ Try.underlying67 rfl (by kernel_rfl) ⟨rfl, below_new w _⟩

set_option maxHeartbeats 1000000 in
theorem rnames3 (w : World) : Calls Try.prog 34 #[.int .i64 3] w fun e w' => e = .returned (.tuple #[.agg #[.bool true, .bool false, .bool true, .bool false, .bool false, .bool false], .bool true]) ∧ Below w.heap.size w w' := by
  go_enter Try.func34, Try.ntmps34
  go_wp2_with fail
  exact bodyPost_rowTmp rfl w.heap.size #[.bool true, .bool false, .bool true, .bool false, .bool false, .bool false] _ rfl rfl rfl (Blk.new _ _ _) _ Try.underlying67 rfl (by kernel_rfl) ⟨rfl, below_new w _⟩

set_option maxHeartbeats 1000000 in
theorem rnames4 (w : World) : Calls Try.prog 34 #[.int .i64 4] w fun e w' => e = .returned (.tuple #[.agg #[.bool false, .bool false, .bool false, .bool false, .bool true, .bool false], .bool true]) ∧ Below w.heap.size w w' := by
  go_enter Try.func34, Try.ntmps34
  go_wp2_with fail
  exact bodyPost_rowTmp rfl w.heap.size #[.bool false, .bool false, .bool false, .bool false, .bool true, .bool false] _ rfl rfl rfl (Blk.new _ _ _) _ Try.underlying67 rfl (by kernel_rfl) ⟨rfl, below_new w _⟩

set_option maxHeartbeats 1000000 in
theorem rnames5 (w : World) : Calls Try.prog 34 #[.int .i64 5] w fun e w' => e = .returned (.tuple #[.agg #[.bool true, .bool true, .bool false, .bool true, .bool false, .bool false], .bool true]) ∧ Below w.heap.size w w' := by
  go_enter Try.func34, Try.ntmps34
  go_wp2_with fail
  exact bodyPost_rowTmp rfl w.heap.size #[.bool true, .bool true, .bool false, .bool true, .bool false, .bool false] _ rfl rfl rfl (Blk.new _ _ _) _ Try.underlying67 rfl (by kernel_rfl) ⟨rfl, below_new w _⟩

set_option maxHeartbeats 1000000 in
theorem rnames6 (w : World) : Calls Try.prog 34 #[.int .i64 6] w fun e w' => e = .returned (.tuple #[.agg #[.bool true, .bool false, .bool false, .bool false, .bool false, .bool false], .bool true]) ∧ Below w.heap.size w w' := by
  go_enter Try.func34, Try.ntmps34
  go_wp2_with fail
  exact bodyPost_rowTmp rfl w.heap.size #[.bool true, .bool false, .bool false, .bool false, .bool false, .bool false] _ rfl rfl rfl (Blk.new _ _ _) _ Try.underlying67 rfl (by kernel_rfl) ⟨rfl, below_new w _⟩

set_option maxHeartbeats 1000000 in
theorem rnames7 (w : World) : Calls Try.prog 34 #[.int .i64 7] w fun e w' => e = .returned (.tuple #[.agg #[.bool false, .bool false, .bool false, .bool false, .bool false, .bool false], .bool true]) ∧ Below w.heap.size w w' := by
  go_enter Try.func34, Try.ntmps34
  go_wp2_with fail
  exact bodyPost_rowTmp rfl w.heap.size #[.bool false, .bool false, .bool false, .bool false, .bool false, .bool false] _ rfl rfl rfl (Blk.new _ _ _) _ Try.underlying67 rfl (by kernel_rfl) ⟨rfl, below_new w _⟩

set_option maxHeartbeats 1000000 in
theorem rnames8 (w : World) : Calls Try.prog 34 #[.int .i64 8] w fun e w' => e = .returned (.tuple #[.agg #[.bool true, .bool true, .bool false, .bool true, .bool false, .bool false], .bool true]) ∧ Below w.heap.size w w' := by
  go_enter Try.func34, Try.ntmps34
  go_wp2_with fail
  exact bodyPost_rowTmp rfl w.heap.size #[.bool true, .bool true, .bool false, .bool true, .bool false, .bool false] _ rfl rfl rfl (Blk.new _ _ _) _ Try.underlying67 rfl (by kernel_rfl) ⟨rfl, below_new w _⟩

set_option maxHeartbeats 1000000 in
theorem rnames9 (w : World) : Calls Try.prog 34 #[.int .i64 9] w fun e w' => e = .returned (.tuple #[.agg #[.bool false, .bool false, .bool false, .bool false, .bool false, .bool true], .bool true]) ∧ Below w.heap.size w w' := by
  go_enter Try.func34, Try.ntmps34
  go_wp2_with fail
  exact bodyPost_rowTmp rfl w.heap.size #[.bool false, .bool false, .bool false, .bool false, .bool false, .bool true] _ rfl rfl rfl (Blk.new _ _ _) _ Try.underlying67 rfl (by kernel_rfl) ⟨rfl, below_new w _⟩

set_option maxHeartbeats 1000000 in
theorem rnames_none (k : Int) (w : World) (h : ¬ (1 ≤ k ∧ k ≤ 9)) : Calls Try.prog 34 #[.int .i64 k] w fun e w' => e = .returned (.tuple #[.agg #[.bool false, .bool false, .bool false, .bool false, .bool false, .bool false], .bool false]) ∧ Below w.heap.size w w' := by
  have q1 : (k == 1) = false := by rw [beq_eq_false_iff_ne]; omega
  have q2 : (k == 2) = false := by rw [beq_eq_false_iff_ne]; omega
  have q3 : (k == 3) = false := by rw [beq_eq_false_iff_ne]; omega
  have q4 : (k == 4) = false := by rw [beq_eq_false_iff_ne]; omega
  have q5 : (k == 5) = false := by rw [beq_eq_false_iff_ne]; omega
  have q6 : (k == 6) = false := by rw [beq_eq_false_iff_ne]; omega
  have q7 : (k == 7) = false := by rw [beq_eq_false_iff_ne]; omega
  have q8 : (k == 8) = false := by rw [beq_eq_false_iff_ne]; omega
  have q9 : (k == 9) = false := by rw [beq_eq_false_iff_ne]; omega
  go_enter Try.func34, Try.ntmps34
  go_wp2_with fail
  exact bodyPost_rowTmp rfl w.heap.size #[.bool false, .bool false, .bool false, .bool false, .bool false, .bool false] _ rfl rfl rfl (Blk.new _ _ _) _ Try.underlying67 rfl (by kernel_rfl) ⟨rfl, below_new w _⟩

theorem rnames19_any (k : Int) (w : World) : Calls Try.prog 34 #[.int .i64 k] w fun e w' => e = .returned (.tuple #[.agg (nmA k), .bool (decide (1 ≤ k ∧ k ≤ 9))]) ∧ Below w.heap.size w w' := by
  by_cases h : 1 ≤ k ∧ k ≤ 9
  · rw [decide_eq_true h]
    rcases (show k = 1 ∨ k = 2 ∨ k = 3 ∨ k = 4 ∨ k = 5 ∨ k = 6 ∨ k = 7 ∨ k = 8 ∨ k = 9 by omega) with rfl | rfl | rfl | rfl | rfl | rfl | rfl | rfl | rfl
    · exact rnames1 w
    · exact rnames2 w
    · exact rnames3 w
    · exact rnames4 w
    · exact rnames5 w
    · exact rnames6 w
    · exact rnames7 w
    · exact rnames8 w
    · exact rnames9 w
  · rw [decide_eq_false h]
    have e : nmA k = #[.bool false, .bool false, .bool false, .bool false, .bool false, .bool false] := by
      unfold nmA nmL
      rw [if_neg (by omega), if_neg (by omega), if_neg (by omega), if_neg (by omega), if_neg (by omega), if_neg (by omega), if_neg (by omega), if_neg (by omega), if_neg (by omega)]
      rfl
    rw [e]
    exact rnames_none k w h

end Go.Proofs.Ytkmdajenbidaaaa
