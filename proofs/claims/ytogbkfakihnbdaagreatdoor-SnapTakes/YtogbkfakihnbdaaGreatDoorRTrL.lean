import Derived.Test.YtogbkfakihnbdaaGreatDoorTS
import Derived.Test.YtogbkfakihnbdaaGreatDoorRTrI
/- The document's Apply (layer 11): the walk. -/
namespace Go.Proofs.YtogbkfakihnbdaaGreatDoor
open Go.RowKit
set_option linter.unusedSimpArgs false

/-- What stands in the three blocks of Apply. -/
theorem apply_blocks (t : TreeT) (o : OpT) (a1 a2 : Option Addr) (c1 c2 : Nat) (w : World) :
    ∃ w0 g, g = w.heap.size ∧ w0 = ((w.alloc (.cells #[.slice a1 t.1.length c1, .slice a2 t.2.1.length c2, .int .i64 t.2.2.1, .int .i64 t.2.2.2] 92)).alloc (.cells #[.int .i64 o.1, .int .i64 o.2.1.1, .int .i64 o.2.1.2, .int .i64 o.2.2.1.1, .int .i64 o.2.2.1.2, .int .i64 o.2.2.2.1.1, .int .i64 o.2.2.2.1.2, .string o.2.2.2.2.1, .string o.2.2.2.2.2] 37)).alloc (.cells #[.slice none 0 0, .slice none 0 0, .int .i64 0, .int .i64 0] 92)
      ∧ Hid (Below w.heap.size w w0) ∧ Hid (Blk w0 92 g #[.slice a1 t.1.length c1, .slice a2 t.2.1.length c2, .int .i64 t.2.2.1, .int .i64 t.2.2.2]) ∧ Hid (Blk w0 37 (g + 1) (opA o)) ∧ Hid (Blk w0 92 (g + 2) #[.slice none 0 0, .slice none 0 0, .int .i64 0, .int .i64 0]) := by
  refine ⟨_, _, rfl, rfl, ?_, ?_, ?_, ?_⟩
  · exact ((below_new _ _).alloc (by simp) _).alloc (by simp; omega) _
  · exact ((Blk.new _ _ _).alloc _).alloc _
  · exact (Blk.new' _ _ _ _ (by simp)).alloc _
  · exact Blk.new' _ _ _ _ (by simp)

set_option maxRecDepth 100000 in
set_option maxHeartbeats 4000000 in
theorem rapply_arg (fx : List NodeT) (ops : List OpT) (b1 b2 k0 k1 k2 k3 k4 k5 k6 : Int) (s t : ByteArray) (a1 a2 : Option Addr) (c1 c2 : Nat) (w : World) (D : Bool) (hs : s.size ≤ 1048576) (ht : t.size ≤ 9223372036854775807)
    (H1 : Hid (NodesAt w a1 fx.length fx)) (H2 : Hid (OpsAt w a2 ops.length ops)) (H3 : Hid (SliceOk a2 ops.length c2)) (hD : D = true ↔ MayO (k0, (k1, k2), (k3, k4), (k5, k6), s, t)) (hA : D = false ∨ ¬ LessS (b1, b2) (k1, k2)) :
    Calls Tryz.prog 67 #[.agg #[.slice a1 fx.length c1, .slice a2 ops.length c2, .int .i64 b1, .int .i64 b2], .agg #[.int .i64 k0, .int .i64 k1, .int .i64 k2, .int .i64 k3, .int .i64 k4, .int .i64 k5, .int .i64 k6, .string s, .string t]] w fun e w' => ∃ v, e = .returned (.tuple #[v, .int .i64 1]) ∧ TreeW a1 fx.length a2 ops.length w.heap.size w' v (fx, ops, (b1, b2)) ∧ Below w.heap.size w w' := by
  obtain ⟨w0, g, hg, hw0, hb0, T0, O0, R0⟩ := apply_blocks (fx, ops, (b1, b2)) (k0, (k1, k2), (k3, k4), (k5, k6), s, t) a1 a2 c1 c2 w
  have CM : Hid (Calls Tryz.prog 83 #[.agg #[.int .i64 k0, .int .i64 k1, .int .i64 k2, .int .i64 k3, .int .i64 k4, .int .i64 k5, .int .i64 k6, .string s, .string t]] w0 fun e w' => e = .returned (.bool D) ∧ Below w0.heap.size w0 w') := rmayO_any (k0, (k1, k2), (k3, k4), (k5, k6), s, t) D hD w0 hs ht
  have Lg : Hid (w.heap.size ≤ g + 2) := by show _ ≤ _; omega
  clear hD
  cases D with
  | false =>
    clear hA
    go_enter Tryz.func67, Tryz.ntmps67
    go_wp2_with fail
    rw [← hg, ← hw0]
    clear hg hw0
    refine Calls.mono CM.out ?_
    rintro e w1 ⟨rfl, hb1⟩
    have T1 : Hid (Blk w1 92 g #[.slice a1 fx.length c1, .slice a2 ops.length c2, .int .i64 b1, .int .i64 b2]) := T0.out.on hb1
    have O1 : Hid (Blk w1 37 (g + 1) #[.int .i64 k0, .int .i64 k1, .int .i64 k2, .int .i64 k3, .int .i64 k4, .int .i64 k5, .int .i64 k6, .string s, .string t]) := O0.out.on hb1
    have R1 : Hid (Blk w1 92 (g + 2) #[.slice none 0 0, .slice none 0 0, .int .i64 0, .int .i64 0]) := R0.out.on hb1
    have B1 : Hid (Below w.heap.size w w1) := below_step hb0.out (Nat.le_refl _) hb1
    clear hb1 CM hb0 T0 O0 R0
    have TT := T1
    have RR := R1
    have BB := B1
    clear T1 R1 B1 O1
    have t0 : World.cell? _ ⟨g, 0, none⟩ = some (.slice a1 fx.length c1) := TT.out.cell 0
    have t1 : World.cell? _ ⟨g, 1, none⟩ = some (.slice a2 ops.length c2) := TT.out.cell 1
    have t2 : World.cell? _ ⟨g, 2, none⟩ = some (.int .i64 b1) := TT.out.cell 2
    have t3 : World.cell? _ ⟨g, 3, none⟩ = some (.int .i64 b2) := TT.out.cell 3
    have HTV : Hid (∀ w', Below w.heap.size w w' → TreeW a1 fx.length a2 ops.length w.heap.size w' (.agg #[.slice a1 fx.length c1, .slice a2 ops.length c2, .int .i64 b1, .int .i64 b2]) (fx, ops, (b1, b2))) := fun w' hb => ⟨⟨a1, c1, a2, c2, rfl, H1.out.below hb, H2.out.below hb, H3.out⟩, rows_same⟩
    go_wp2_with (with_reducible refine wpList_storeBlkH rfl 92 _ _ rfl (g + 2) #[.slice none 0 0, .slice none 0 0, .int .i64 0, .int .i64 0] #[.slice a1 fx.length c1, .slice a2 ops.length c2, .int .i64 b1, .int .i64 b2] ?hx ?hy RR.out rfl ?hi ?h1 ?_)
    case hx => rfl
    case hy => rfl
    case hi => kernel_rfl
    case h1 => simp [Value.oneCell']
    unfold Hid
    go_wp2
    exact bodyPost_rowTmp rfl (g + 2) #[.slice a1 fx.length c1, .slice a2 ops.length c2, .int .i64 b1, .int .i64 b2] _ rfl rfl rfl (RR.out.setRow _) _ Tryz.underlying92 rfl (by kernel_rfl) ⟨_, rfl, HTV.out _ (below_setRow BB.out Lg.out _), below_setRow BB.out Lg.out _⟩
  | true =>
    have hL : ¬ LessS (b1, b2) (k1, k2) := hA.elim (fun h => by cases h) id
    have CL : Hid (∀ w', Calls Tryz.prog 51 #[.agg #[.int .i64 b1, .int .i64 b2], .agg #[.int .i64 k1, .int .i64 k2]] w' fun e w'' => e = .returned (.bool false) ∧ Below w'.heap.size w' w'') := fun w' => by
      have := rless_any (b1, b2) (k1, k2) w'
      rw [decide_eq_false hL] at this; exact this
    clear hA hL
    go_enter Tryz.func67, Tryz.ntmps67
    go_wp2_with fail
    rw [← hg, ← hw0]
    clear hg hw0
    refine Calls.mono CM.out ?_
    rintro e w1 ⟨rfl, hb1⟩
    have T1 : Hid (Blk w1 92 g #[.slice a1 fx.length c1, .slice a2 ops.length c2, .int .i64 b1, .int .i64 b2]) := T0.out.on hb1
    have O1 : Hid (Blk w1 37 (g + 1) #[.int .i64 k0, .int .i64 k1, .int .i64 k2, .int .i64 k3, .int .i64 k4, .int .i64 k5, .int .i64 k6, .string s, .string t]) := O0.out.on hb1
    have R1 : Hid (Blk w1 92 (g + 2) #[.slice none 0 0, .slice none 0 0, .int .i64 0, .int .i64 0]) := R0.out.on hb1
    have B1 : Hid (Below w.heap.size w w1) := below_step hb0.out (Nat.le_refl _) hb1
    clear hb1 CM hb0 T0 O0 R0
    have TT := T1
    have t0 : World.cell? _ ⟨g, 0, none⟩ = some (.slice a1 fx.length c1) := TT.out.cell 0
    have t1 : World.cell? _ ⟨g, 1, none⟩ = some (.slice a2 ops.length c2) := TT.out.cell 1
    have t2 : World.cell? _ ⟨g, 2, none⟩ = some (.int .i64 b1) := TT.out.cell 2
    have t3 : World.cell? _ ⟨g, 3, none⟩ = some (.int .i64 b2) := TT.out.cell 3
    have o1 : World.cell? _ ⟨g + 1, 1, none⟩ = some (.int .i64 k1) := O1.out.cell 1
    have o2 : World.cell? _ ⟨g + 1, 2, none⟩ = some (.int .i64 k2) := O1.out.cell 2
    go_wp2_with fail
    refine (CL.out _).mono ?_
    rintro e w2 ⟨rfl, hb2⟩
    clear t0 t1 t2 t3 TT
    have TT : Hid (Blk w2 92 g #[.slice a1 fx.length c1, .slice a2 ops.length c2, .int .i64 b1, .int .i64 b2]) := T1.out.on hb2
    have RR : Hid (Blk w2 92 (g + 2) #[.slice none 0 0, .slice none 0 0, .int .i64 0, .int .i64 0]) := R1.out.on hb2
    have BB : Hid (Below w.heap.size w w2) := below_step B1.out (Nat.le_refl _) hb2
    clear hb2 T1 R1 B1 O1 CL o1 o2
    have t0 : World.cell? _ ⟨g, 0, none⟩ = some (.slice a1 fx.length c1) := TT.out.cell 0
    have t1 : World.cell? _ ⟨g, 1, none⟩ = some (.slice a2 ops.length c2) := TT.out.cell 1
    have t2 : World.cell? _ ⟨g, 2, none⟩ = some (.int .i64 b1) := TT.out.cell 2
    have t3 : World.cell? _ ⟨g, 3, none⟩ = some (.int .i64 b2) := TT.out.cell 3
    have HTV : Hid (∀ w', Below w.heap.size w w' → TreeW a1 fx.length a2 ops.length w.heap.size w' (.agg #[.slice a1 fx.length c1, .slice a2 ops.length c2, .int .i64 b1, .int .i64 b2]) (fx, ops, (b1, b2))) := fun w' hb => ⟨⟨a1, c1, a2, c2, rfl, H1.out.below hb, H2.out.below hb, H3.out⟩, rows_same⟩
    go_wp2_with (with_reducible refine wpList_storeBlkH rfl 92 _ _ rfl (g + 2) #[.slice none 0 0, .slice none 0 0, .int .i64 0, .int .i64 0] #[.slice a1 fx.length c1, .slice a2 ops.length c2, .int .i64 b1, .int .i64 b2] ?hx ?hy RR.out rfl ?hi ?h1 ?_)
    case hx => rfl
    case hy => rfl
    case hi => kernel_rfl
    case h1 => simp [Value.oneCell']
    unfold Hid
    go_wp2
    exact bodyPost_rowTmp rfl (g + 2) #[.slice a1 fx.length c1, .slice a2 ops.length c2, .int .i64 b1, .int .i64 b2] _ rfl rfl rfl (RR.out.setRow _) _ Tryz.underlying92 rfl (by kernel_rfl) ⟨_, rfl, HTV.out _ (below_setRow BB.out Lg.out _), below_setRow BB.out Lg.out _⟩

end Go.Proofs.YtogbkfakihnbdaaGreatDoor
