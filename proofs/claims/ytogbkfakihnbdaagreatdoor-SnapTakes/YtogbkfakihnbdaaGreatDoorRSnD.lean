import Derived.Test.YtogbkfakihnbdaaGreatDoorSnA
import Derived.Test.YtogbkfakihnbdaaGreatDoorBA
/- The document's Same, of trees that are the same (layer 13). -/
namespace Go.Proofs.YtogbkfakihnbdaaGreatDoor
open Go.RowKit
set_option linter.unusedSimpArgs false

set_option maxHeartbeats 4000000 in
set_option maxRecDepth 100000 in
theorem rsameS_any (l : List NodeT) (ops : List OpT) (b1 b2 : Int) (a1 a2 d1 d2 : Option Addr) (c1 c2 e1 e2 : Nat) (w : World) (hl : l.length ≤ 60000) (ho : ops.length ≤ 60000) (h1 : NodesAt w a1 l.length l) (h2 : OpsAt w a2 ops.length ops) (h3 : NodesAt w d1 l.length l) (h4 : OpsAt w d2 ops.length ops) :
    Calls Tryz.prog 7 #[.agg #[.slice a1 l.length c1, .slice a2 ops.length c2, .int .i64 b1, .int .i64 b2], .agg #[.slice d1 l.length e1, .slice d2 ops.length e2, .int .i64 b1, .int .i64 b2]] w fun e w' => e = .returned (.bool true) ∧ Below w.heap.size w w' := by
  have CN : Hid (∀ W, Below w.heap.size w W → _) := fun W hW => rsameNodes_any l l true ⟨fun _ => rfl, fun _ => rfl⟩ a1 d1 _ _ c1 e1 W (by omega) (by omega) (h1.below hW) (h3.below hW)
  have CO : Hid (∀ W, Below w.heap.size w W → _) := fun W hW => rsameOps_any ops ops true ⟨fun _ => rfl, fun _ => rfl⟩ a2 d2 _ _ c2 e2 W (by omega) (by omega) (h2.below hW) (h4.below hW)
  have hE := fun W => stampEq_is (b1, b2) (b1, b2) true (decide_eq_true rfl) W
  simp only at hE
  obtain ⟨n1, hn1⟩ : ∃ n1, l.length = n1 := ⟨_, rfl⟩
  obtain ⟨n2, hn2⟩ : ∃ n2, ops.length = n2 := ⟨_, rfl⟩
  simp only [hn1, hn2] at CN CO ⊢
  clear h1 h2 h3 h4 hl ho hn1 hn2
  have HB0 : Hid (Below w.heap.size w ((w.alloc (.cells #[.slice a1 n1 c1, .slice a2 n2 c2, .int .i64 b1, .int .i64 b2] 28)).alloc (.cells #[.slice d1 n1 e1, .slice d2 n2 e2, .int .i64 b1, .int .i64 b2] 28))) := (below_new _ _).alloc (by rw [World.size_alloc]; omega) _
  have HX0 : Hid (Blk ((w.alloc (.cells #[.slice a1 n1 c1, .slice a2 n2 c2, .int .i64 b1, .int .i64 b2] 28)).alloc (.cells #[.slice d1 n1 e1, .slice d2 n2 e2, .int .i64 b1, .int .i64 b2] 28)) 28 w.heap.size #[.slice a1 n1 c1, .slice a2 n2 c2, .int .i64 b1, .int .i64 b2]) := (Blk.new _ _ _).on (below_new _ _)
  have HY0 : Hid (Blk ((w.alloc (.cells #[.slice a1 n1 c1, .slice a2 n2 c2, .int .i64 b1, .int .i64 b2] 28)).alloc (.cells #[.slice d1 n1 e1, .slice d2 n2 e2, .int .i64 b1, .int .i64 b2] 28)) 28 (w.heap.size + 1) #[.slice d1 n1 e1, .slice d2 n2 e2, .int .i64 b1, .int .i64 b2]) := Blk.new' _ _ _ _ (by rw [World.size_alloc])
  go_enter Tryz.func7, Tryz.ntmps7
  go_wp2_with fail
  refine (CN.out _ HB0.out).mono ?_
  rintro e w1 ⟨rfl, hb1⟩
  have HB1 : Hid (Below w.heap.size w w1) := below_step HB0.out (Nat.le_refl _) hb1
  have HX1 : Hid (Blk w1 28 w.heap.size #[.slice a1 n1 c1, .slice a2 n2 c2, .int .i64 b1, .int .i64 b2]) := HX0.out.on hb1
  have HY1 : Hid (Blk w1 28 (w.heap.size + 1) #[.slice d1 n1 e1, .slice d2 n2 e2, .int .i64 b1, .int .i64 b2]) := HY0.out.on hb1
  have q1 : w1.cell? ⟨w.heap.size, 1, none⟩ = some (.slice a2 n2 c2) := HX1.out.cell 1
  have q2 : w1.cell? ⟨w.heap.size + 1, 1, none⟩ = some (.slice d2 n2 e2) := HY1.out.cell 1
  clear CN hb1 HB0 HX0 HY0
  go_wp2_with fail
  refine (CO.out _ HB1.out).mono ?_
  rintro e w2 ⟨rfl, hb2⟩
  have hB2 : Below w.heap.size w w2 := below_step HB1.out (Nat.le_refl _) hb2
  have hX2 := HX1.out.on hb2
  have hY2 := HY1.out.on hb2
  have r2 : w2.cell? ⟨w.heap.size, 2, none⟩ = some (.int .i64 b1) := hX2.cell 2
  have r3 : w2.cell? ⟨w.heap.size, 3, none⟩ = some (.int .i64 b2) := hX2.cell 3
  have s2 : w2.cell? ⟨w.heap.size + 1, 2, none⟩ = some (.int .i64 b1) := hY2.cell 2
  have s3 : w2.cell? ⟨w.heap.size + 1, 3, none⟩ = some (.int .i64 b2) := hY2.cell 3
  clear CO hb2 HX1 HY1 q1 q2 hX2 hY2
  go_wp2_with fail
  go_ret
  exact ⟨rfl, hB2⟩
end Go.Proofs.YtogbkfakihnbdaaGreatDoor
