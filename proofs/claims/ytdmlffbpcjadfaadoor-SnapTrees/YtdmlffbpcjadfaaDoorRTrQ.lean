import Derived.Test.YtdmlffbpcjadfaaDoorRTrO
/- The document's Compact (layer 11), whole. -/
namespace Go.Proofs.YtdmlffbpcjadfaaDoor
open Go.RowKit
set_option linter.unusedSimpArgs false

set_option maxRecDepth 100000 in
set_option maxHeartbeats 4000000 in
theorem rcompact_no (fx : List NodeT) (ops : List OpT) (b1 b2 x y : Int) (a1 a2 : Option Addr) (c1 c2 : Nat) (w : World)
    (H1 : Hid (NodesAt w a1 fx.length fx)) (H2 : Hid (OpsAt w a2 ops.length ops)) (H3 : Hid (SliceOk a2 ops.length c2)) (hD : ¬ MayS (x, y)) :
    Calls Tryd.prog 8 #[.agg #[.slice a1 fx.length c1, .slice a2 ops.length c2, .int .i64 b1, .int .i64 b2], .agg #[.int .i64 x, .int .i64 y]] w fun e w' => ∃ v, e = .returned (.tuple #[v, .int .i64 0]) ∧ TreeW a1 fx.length a2 ops.length w.heap.size w' v (fx, ops, (b1, b2)) ∧ Below w.heap.size w w' := by
  obtain ⟨g, hg⟩ : ∃ g, g = w.heap.size := ⟨_, rfl⟩
  obtain ⟨w0, hw0⟩ : ∃ w0, w0 = ((w.alloc (.cells #[.slice a1 fx.length c1, .slice a2 ops.length c2, .int .i64 b1, .int .i64 b2] 27)).alloc (.cells #[.int .i64 x, .int .i64 y] 24)).alloc (.cells #[.slice none 0 0, .slice none 0 0, .int .i64 0, .int .i64 0] 27) := ⟨_, rfl⟩
  have hb0 : Hid (Below w.heap.size w w0) := by rw [hw0]; exact ((below_new _ _).alloc (by simp) _).alloc (by simp; omega) _
  have T0 : Hid (Blk w0 27 g #[.slice a1 fx.length c1, .slice a2 ops.length c2, .int .i64 b1, .int .i64 b2]) := by show Blk _ _ _ _; rw [hw0]; exact ((Blk.new' _ _ _ _ hg.symm).alloc _).alloc _
  have R0 : Hid (Blk w0 27 (g + 2) #[.slice none 0 0, .slice none 0 0, .int .i64 0, .int .i64 0]) := by show Blk _ _ _ _; rw [hw0]; exact Blk.new' _ _ _ _ (by simp [hg])
  have Lg : Hid (w.heap.size ≤ g + 2) := by show _ ≤ _; omega
  have CM : Hid (∀ w, Calls Tryd.prog 16 #[.agg #[.int .i64 x, .int .i64 y]] w fun e w' => e = .returned (.bool false) ∧ Below w.heap.size w w') := fun w => by
    have := rmayS_any (x, y) w
    rw [decide_eq_false hD] at this; exact this
  clear hD
  go_enter Tryd.func8, Tryd.ntmps8
  go_wp2_with fail
  rw [← hg, ← hw0]
  clear hg hw0
  refine (CM.out _).mono ?_
  rintro e w1 ⟨rfl, hb1⟩
  have T1 := T0.out.on hb1
  have R1 : Hid (Blk w1 27 (g + 2) #[.slice none 0 0, .slice none 0 0, .int .i64 0, .int .i64 0]) := R0.out.on hb1
  have B1 : Hid (Below w.heap.size w w1) := below_step hb0.out (Nat.le_refl _) hb1
  have t0 : w1.cell? ⟨g, 0, none⟩ = some (.slice a1 fx.length c1) := T1.cell 0
  have t1 : w1.cell? ⟨g, 1, none⟩ = some (.slice a2 ops.length c2) := T1.cell 1
  have t2 : w1.cell? ⟨g, 2, none⟩ = some (.int .i64 b1) := T1.cell 2
  have t3 : w1.cell? ⟨g, 3, none⟩ = some (.int .i64 b2) := T1.cell 3
  have HTV : Hid (∀ w', Below w.heap.size w w' → TreeW a1 fx.length a2 ops.length w.heap.size w' (.agg #[.slice a1 fx.length c1, .slice a2 ops.length c2, .int .i64 b1, .int .i64 b2]) (fx, ops, (b1, b2))) := fun w' hb => ⟨⟨a1, c1, a2, c2, rfl, H1.out.below hb, H2.out.below hb, H3.out⟩, rows_same⟩
  clear hb1 T1 T0 R0 hb0 CM
  go_wp2_with (with_reducible refine wpList_storeBlkH rfl 27 _ _ rfl (g + 2) #[.slice none 0 0, .slice none 0 0, .int .i64 0, .int .i64 0] #[.slice a1 fx.length c1, .slice a2 ops.length c2, .int .i64 b1, .int .i64 b2] ?hx ?hy R1.out rfl ?hi ?h1 ?_)
  try (case hx => rfl)
  try (case hy => rfl)
  case hi => first | kernel_rfl | (refine Option.map_eq_some_iff.1 (?_ : (Tryd.prog.info? 27).map (·.size) = some 4); kernel_rfl)
  case h1 => simp [Value.oneCell']
  unfold Hid
  go_wp2
  exact bodyPost_rowTmp rfl (g + 2) #[.slice a1 fx.length c1, .slice a2 ops.length c2, .int .i64 b1, .int .i64 b2] _ rfl rfl rfl (R1.out.setRow _) _ Tryd.underlying27 rfl (by kernel_rfl) ⟨_, rfl, HTV.out _ (below_setRow B1.out Lg.out _), below_setRow B1.out Lg.out _⟩

theorem rcompactW_any (t : TreeT) (s : Int × Int) (v : Value) (w : World) (hn : t.1.length + t.2.1.length ≤ 50000) (a1 a2 : Option Addr) (c1 c2 : Nat) (hv : v = .agg #[.slice a1 t.1.length c1, .slice a2 t.2.1.length c2, .int .i64 t.2.2.1, .int .i64 t.2.2.2]) (h1 : NodesAt w a1 t.1.length t.1) (h2 : OpsAt w a2 t.2.1.length t.2.1) (h3 : SliceOk a2 t.2.1.length c2) :
    Calls Tryd.prog 8 #[v, stampV s] w fun e w' => ∃ v', e = .returned (.tuple #[v', .int .i64 ((compactP t s).2 : Int)]) ∧ TreeW a1 t.1.length a2 t.2.1.length w.heap.size w' v' (compactP t s).1 ∧ Below w.heap.size w w' := by
  obtain ⟨fx, ops, b1, b2⟩ := t
  obtain ⟨x, y⟩ := s
  subst hv
  by_cases hD : MayS (x, y)
  · have e : compactP (fx, ops, (b1, b2)) (x, y) = ((nodesP fx (ops.take (posO (x, y) ops)), ops.drop (posO (x, y) ops), if LessS (b1, b2) (x, y) then (x, y) else (b1, b2)), posO (x, y) ops) := by unfold compactP; rw [if_pos hD]
    rw [e]
    exact rcompact_on fx ops b1 b2 x y a1 a2 c1 c2 _ _ w hn h1 h2 h3 hD rfl rfl
  · have e : compactP (fx, ops, (b1, b2)) (x, y) = ((fx, ops, (b1, b2)), 0) := by unfold compactP; rw [if_neg hD]
    rw [e]
    exact rcompact_no fx ops b1 b2 x y a1 a2 c1 c2 w h1 h2 h3 hD

end Go.Proofs.YtdmlffbpcjadfaaDoor
