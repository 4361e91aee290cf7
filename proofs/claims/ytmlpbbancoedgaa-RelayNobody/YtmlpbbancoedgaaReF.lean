/- Layer 21, the code: first; itemOf. -/
import Derived.Test.YtmlpbbancoedgaaReE
import Derived.Test.YtmlpbbancoedgaaReS
namespace Go.Proofs.Ytmlpbbancoedgaa
open Go.RowKit
set_option maxRecDepth 100000
set_option linter.unusedSimpArgs false
set_option linter.unusedVariables false

set_option maxHeartbeats 2000000 in
theorem firstC_any (x : ItT) (b m : Nat) (hm : m + x.2.2.size ≤ 4611686018427387904) (w : World) (hb : Blk w 3 b #[.int .i64 (m : Int)]) :
    Calls Try.prog 88 #[.agg (itemA x), .pointer (some ⟨b, 0, none⟩)] w fun e w' => e = .returned (.bool (decide (40000 < m + x.2.2.size))) ∧ Blk w' 3 b #[.int .i64 ((m + x.2.2.size : Nat) : Int)] ∧ Kept2 b none w w' := by
  obtain ⟨x0, x1, x2⟩ := x
  simp only at hm
  have hlt := hb.lt
  have B1 := hb.alloc (.cells (itemA (x0, x1, x2)) 31)
  have c0 : (w.alloc (.cells (itemA (x0, x1, x2)) 31)).cell? ⟨b, 0, none⟩ = some (.int .i64 (m : Int)) := B1.cell 0
  have f0 : (w.alloc (.cells (itemA (x0, x1, x2)) 31)).frozen? ⟨b, 0, none⟩ = false := B1.free 0
  have d2 : (w.alloc (.cells (itemA (x0, x1, x2)) 31)).cell? ⟨w.heap.size, 2, none⟩ = some (.string x2) := (Blk.new w 31 (itemA (x0, x1, x2))).cell 2
  obtain ⟨M, hM⟩ : ∃ M : Int, (m : Int) + (x2.size : Int) = M := ⟨_, rfl⟩
  have hw : IntKind.i64.wrap ((m : Int) + (x2.size : Int)) = M := by rw [IntKind.wrap_i64]; omega
  rw [show ((m + x2.size : Nat) : Int) = M by omega]
  have hd : (40000 < m + x2.size) = (40000 < M) := by rw [← hM]; apply propext; omega
  simp only [hd]
  have HK : Hid (Blk ((w.alloc (.cells (itemA (x0, x1, x2)) 31)).setCell ⟨b, 0, none⟩ (.int .i64 M)) 3 b #[.int .i64 M]) := B1.setAt 0 _
  have HQ : Hid (Kept2 b none w ((w.alloc (.cells (itemA (x0, x1, x2)) 31)).setCell ⟨b, 0, none⟩ (.int .i64 M))) := (Kept2.ofBelow b none (below_new w _)).setCell ⟨b, 0, none⟩ rfl _
  have e0 : ((w.alloc (.cells (itemA (x0, x1, x2)) 31)).setCell ⟨b, 0, none⟩ (.int .i64 M)).cell? ⟨b, 0, none⟩ = some (.int .i64 M) := HK.out.cell 0
  simp only [itemA] at c0 f0 d2 HK HQ e0 ⊢
  clear hb B1 hlt
  clear hM hd hm
  by_cases h1 : 40000 < M
  · rw [decide_eq_true h1]
    go_enter Try.func88, Try.ntmps88
    go_wp2_with fail
    go_ret
    exact ⟨rfl, HK.out, HQ.out⟩
  · rw [decide_eq_false h1]
    go_enter Try.func88, Try.ntmps88
    go_wp2_with fail
    go_ret
    exact ⟨rfl, HK.out, HQ.out⟩
end Go.Proofs.Ytmlpbbancoedgaa
