import Derived.Test.YtacdokfhgafigaaGreatDoorSnA
/- The document's op, PutOp (layer 13). -/
namespace Go.Proofs.YtacdokfhgafigaaGreatDoor
open Go.RowKit
set_option linter.unusedSimpArgs false

/-- The document's writing: the cell of what is written, the operation's, the answer's. -/
structure RoS (w : World) (h : Nat) (o : Array Value) (cs : Array Value) (W : World) : Prop where
  x : Blk W 61 h o
  y : Blk W 41 (h + 1) cs
  z : Blk W 61 (h + 2) #[.string ⟨#[]⟩, .bool false]
  bel : Below w.heap.size w W
  low : w.heap.size ≤ h

theorem RoS.on {w : World} {h : Nat} {o cs : Array Value} {W W' : World} (k : RoS w h o cs W) (hb : Below W.heap.size W W') : RoS w h o cs W' := ⟨k.x.on hb, k.y.on hb, k.z.on hb, below_step k.bel (Nat.le_refl _) hb, k.low⟩

theorem RoS.set {w : World} {h : Nat} {o cs : Array Value} {W : World} (k : RoS w h o cs W) (o' : Array Value) : RoS w h o' cs (W.setRow h o') := ⟨k.x.setRow _, k.y.setRowOther _ (by omega) _, k.z.setRowOther _ (by omega) _, below_setRow k.bel k.low _, k.low⟩

theorem textP_size (o : ByteArray × Bool) (s : ByteArray) (h : o.1.size ≤ 65536) : (textP o s).1.size ≤ 65536 := by
  unfold textP
  split <;> exact layP_size _ _ _ h

set_option maxHeartbeats 4000000 in
set_option maxRecDepth 100000 in
theorem rop_any (st : ByteArray × Bool) (o : OpT) (w : World) (ho : st.1.size ≤ 65536) (h7 : o.2.2.2.2.1.size ≤ 1000000) (h8 : o.2.2.2.2.2.size ≤ 1000000) :
    Calls Tryz.prog 30 #[outV st, .agg (opA o)] w fun e w' => e = .returned (outV (writeA st (opPs o))) ∧ Below w.heap.size w w' := by
  rw [writeA_op]
  obtain ⟨k0, ⟨k1, k2⟩, ⟨k3, k4⟩, ⟨k5, k6⟩, s7, s8⟩ := o
  obtain ⟨S0, b0⟩ := st
  simp only at h7 h8
  have z0 : (S0, b0).1.size ≤ 65536 := ho
  obtain ⟨⟨S1, b1⟩, e1⟩ : ∃ p, numP (S0, b0) k0 1 255 = p := ⟨_, rfl⟩
  have z1 : (S1, b1).1.size ≤ 65536 := by rw [← e1]; exact layP_size _ _ _ z0
  have C1' : ∀ W, _ := fun W => rbyte_any (S0, b0) k0 W z0
  rw [e1] at C1'
  simp only [outV] at C1'
  have C1 : Hid (∀ W, _) := C1'
  obtain ⟨⟨S2, b2⟩, e2⟩ : ∃ p, stampP (S1, b1) k1 k2 = p := ⟨_, rfl⟩
  have z2 : (S2, b2).1.size ≤ 65536 := by rw [← e2]; exact layP_size _ _ _ z1
  have C2' : ∀ W, _ := fun W => rstamp_any (S1, b1) k1 k2 W z1
  rw [e2] at C2'
  simp only [outV] at C2'
  have C2 : Hid (∀ W, _) := C2'
  obtain ⟨⟨S3, b3⟩, e3⟩ : ∃ p, stampP (S2, b2) k3 k4 = p := ⟨_, rfl⟩
  have z3 : (S3, b3).1.size ≤ 65536 := by rw [← e3]; exact layP_size _ _ _ z2
  have C3' : ∀ W, _ := fun W => rstamp_any (S2, b2) k3 k4 W z2
  rw [e3] at C3'
  simp only [outV] at C3'
  have C3 : Hid (∀ W, _) := C3'
  obtain ⟨⟨S4, b4⟩, e4⟩ : ∃ p, stampP (S3, b3) k5 k6 = p := ⟨_, rfl⟩
  have z4 : (S4, b4).1.size ≤ 65536 := by rw [← e4]; exact layP_size _ _ _ z3
  have C4' : ∀ W, _ := fun W => rstamp_any (S3, b3) k5 k6 W z3
  rw [e4] at C4'
  simp only [outV] at C4'
  have C4 : Hid (∀ W, _) := C4'
  obtain ⟨⟨S5, b5⟩, e5⟩ : ∃ p, textP (S4, b4) s7 = p := ⟨_, rfl⟩
  have z5 : (S5, b5).1.size ≤ 65536 := by rw [← e5]; exact textP_size _ _ z4
  have C5' : ∀ W, _ := fun W => rtext_any (S4, b4) s7 W z4 h7
  rw [e5] at C5'
  simp only [outV] at C5'
  have C5 : Hid (∀ W, _) := C5'
  obtain ⟨⟨S6, b6⟩, e6⟩ : ∃ p, textP (S5, b5) s8 = p := ⟨_, rfl⟩
  have z6 : (S6, b6).1.size ≤ 65536 := by rw [← e6]; exact textP_size _ _ z5
  have C6' : ∀ W, _ := fun W => rtext_any (S5, b5) s8 W z5 h8
  rw [e6] at C6'
  simp only [outV] at C6'
  have C6 : Hid (∀ W, _) := C6'
  simp only [e1, e2, e3, e4, e5, e6, outV, opA]
  clear e1 e2 e3 e4 e5 e6 C1' C2' C3' C4' C5' C6' z0 z1 z2 z3 z4 z5 z6 h7 h8 ho
  go_enter Tryz.func30, Tryz.ntmps30
  go_wp2_with fail
  obtain ⟨h, hh⟩ : ∃ h, w.heap.size = h := ⟨_, rfl⟩
  obtain ⟨w0, hw0⟩ : ∃ w0, ((w.alloc (.cells #[.string S0, .bool b0] 61)).alloc (.cells #[.int .i64 k0, .int .i64 k1, .int .i64 k2, .int .i64 k3, .int .i64 k4, .int .i64 k5, .int .i64 k6, .string s7, .string s8] 41)).alloc (.cells #[.string ⟨#[]⟩, .bool false] 61) = w0 := ⟨_, rfl⟩
  have HS : Hid (RoS w h #[.string S0, .bool b0] #[.int .i64 k0, .int .i64 k1, .int .i64 k2, .int .i64 k3, .int .i64 k4, .int .i64 k5, .int .i64 k6, .string s7, .string s8] w0) := by
    show RoS _ _ _ _ _
    rw [← hw0]
    refine ⟨((Blk.new' _ _ _ _ hh).on (below_new _ _)).on (below_new _ _), (Blk.new' _ _ _ _ (by rw [World.size_alloc]; omega)).on (below_new _ _), Blk.new' _ _ _ _ (by simp only [World.size_alloc]; omega), ((below_new _ _).alloc (by simp only [World.size_alloc]; omega) _).alloc (by simp only [World.size_alloc]; omega) _, by omega⟩
  try rw [hw0]
  try rw [hh]
  clear hw0 hh
  refine (C1.out _).mono ?_
  rintro e U1 ⟨rfl, hb⟩
  have HU := HS.out.on hb
  clear hb C1
  have X1 := HU.x
  have HS : Hid (RoS w h #[.string S1, .bool b1] #[.int .i64 k0, .int .i64 k1, .int .i64 k2, .int .i64 k3, .int .i64 k4, .int .i64 k5, .int .i64 k6, .string s7, .string s8] (U1.setRow h #[.string S1, .bool b1])) := HU.set _
  have q0 : (U1.setRow h #[.string S1, .bool b1]).cell? ⟨h, 0, none⟩ = some (.string S1) := HS.out.x.cell 0
  have q1 : (U1.setRow h #[.string S1, .bool b1]).cell? ⟨h, 1, none⟩ = some (.bool b1) := HS.out.x.cell 1
  have c1 : (U1.setRow h #[.string S1, .bool b1]).cell? ⟨h + 1, 1, none⟩ = some (.int .i64 k1) := HS.out.y.cell 1
  have c2 : (U1.setRow h #[.string S1, .bool b1]).cell? ⟨h + 1, 2, none⟩ = some (.int .i64 k2) := HS.out.y.cell 2
  go_wp2_with (with_reducible refine wpList_storeBlk rfl 61 _ _ rfl h #[.string S0, .bool b0] #[.string S1, .bool b1] ?hx ?hy X1 rfl ?hi ?h1 ?_)
  try (case hx => rfl)
  try (case hy => rfl)
  try (case hi => kernel_rfl)
  try (case h1 => simp [Value.oneCell'])
  clear X1 q0 q1 c1 c2 HU
  refine (C2.out _).mono ?_
  rintro e U2 ⟨rfl, hb⟩
  have HU := HS.out.on hb
  clear hb C2
  have X1 := HU.x
  have HS : Hid (RoS w h #[.string S2, .bool b2] #[.int .i64 k0, .int .i64 k1, .int .i64 k2, .int .i64 k3, .int .i64 k4, .int .i64 k5, .int .i64 k6, .string s7, .string s8] (U2.setRow h #[.string S2, .bool b2])) := HU.set _
  have q0 : (U2.setRow h #[.string S2, .bool b2]).cell? ⟨h, 0, none⟩ = some (.string S2) := HS.out.x.cell 0
  have q1 : (U2.setRow h #[.string S2, .bool b2]).cell? ⟨h, 1, none⟩ = some (.bool b2) := HS.out.x.cell 1
  have c3 : (U2.setRow h #[.string S2, .bool b2]).cell? ⟨h + 1, 3, none⟩ = some (.int .i64 k3) := HS.out.y.cell 3
  have c4 : (U2.setRow h #[.string S2, .bool b2]).cell? ⟨h + 1, 4, none⟩ = some (.int .i64 k4) := HS.out.y.cell 4
  go_wp2_with (with_reducible refine wpList_storeBlk rfl 61 _ _ rfl h #[.string S1, .bool b1] #[.string S2, .bool b2] ?hx ?hy X1 rfl ?hi ?h1 ?_)
  try (case hx => rfl)
  try (case hy => rfl)
  try (case hi => kernel_rfl)
  try (case h1 => simp [Value.oneCell'])
  clear X1 q0 q1 c3 c4 HU
  refine (C3.out _).mono ?_
  rintro e U3 ⟨rfl, hb⟩
  have HU := HS.out.on hb
  clear hb C3
  have X1 := HU.x
  have HS : Hid (RoS w h #[.string S3, .bool b3] #[.int .i64 k0, .int .i64 k1, .int .i64 k2, .int .i64 k3, .int .i64 k4, .int .i64 k5, .int .i64 k6, .string s7, .string s8] (U3.setRow h #[.string S3, .bool b3])) := HU.set _
  have q0 : (U3.setRow h #[.string S3, .bool b3]).cell? ⟨h, 0, none⟩ = some (.string S3) := HS.out.x.cell 0
  have q1 : (U3.setRow h #[.string S3, .bool b3]).cell? ⟨h, 1, none⟩ = some (.bool b3) := HS.out.x.cell 1
  have c5 : (U3.setRow h #[.string S3, .bool b3]).cell? ⟨h + 1, 5, none⟩ = some (.int .i64 k5) := HS.out.y.cell 5
  have c6 : (U3.setRow h #[.string S3, .bool b3]).cell? ⟨h + 1, 6, none⟩ = some (.int .i64 k6) := HS.out.y.cell 6
  go_wp2_with (with_reducible refine wpList_storeBlk rfl 61 _ _ rfl h #[.string S2, .bool b2] #[.string S3, .bool b3] ?hx ?hy X1 rfl ?hi ?h1 ?_)
  try (case hx => rfl)
  try (case hy => rfl)
  try (case hi => kernel_rfl)
  try (case h1 => simp [Value.oneCell'])
  clear X1 q0 q1 c5 c6 HU
  refine (C4.out _).mono ?_
  rintro e U4 ⟨rfl, hb⟩
  have HU := HS.out.on hb
  clear hb C4
  have X1 := HU.x
  have HS : Hid (RoS w h #[.string S4, .bool b4] #[.int .i64 k0, .int .i64 k1, .int .i64 k2, .int .i64 k3, .int .i64 k4, .int .i64 k5, .int .i64 k6, .string s7, .string s8] (U4.setRow h #[.string S4, .bool b4])) := HU.set _
  have q0 : (U4.setRow h #[.string S4, .bool b4]).cell? ⟨h, 0, none⟩ = some (.string S4) := HS.out.x.cell 0
  have q1 : (U4.setRow h #[.string S4, .bool b4]).cell? ⟨h, 1, none⟩ = some (.bool b4) := HS.out.x.cell 1
  have c7 : (U4.setRow h #[.string S4, .bool b4]).cell? ⟨h + 1, 7, none⟩ = some (.string s7) := HS.out.y.cell 7
  go_wp2_with (with_reducible refine wpList_storeBlk rfl 61 _ _ rfl h #[.string S3, .bool b3] #[.string S4, .bool b4] ?hx ?hy X1 rfl ?hi ?h1 ?_)
  try (case hx => rfl)
  try (case hy => rfl)
  try (case hi => kernel_rfl)
  try (case h1 => simp [Value.oneCell'])
  clear X1 q0 q1 c7 HU
  refine (C5.out _).mono ?_
  rintro e U5 ⟨rfl, hb⟩
  have HU := HS.out.on hb
  clear hb C5
  have X1 := HU.x
  have HS : Hid (RoS w h #[.string S5, .bool b5] #[.int .i64 k0, .int .i64 k1, .int .i64 k2, .int .i64 k3, .int .i64 k4, .int .i64 k5, .int .i64 k6, .string s7, .string s8] (U5.setRow h #[.string S5, .bool b5])) := HU.set _
  have q0 : (U5.setRow h #[.string S5, .bool b5]).cell? ⟨h, 0, none⟩ = some (.string S5) := HS.out.x.cell 0
  have q1 : (U5.setRow h #[.string S5, .bool b5]).cell? ⟨h, 1, none⟩ = some (.bool b5) := HS.out.x.cell 1
  have c8 : (U5.setRow h #[.string S5, .bool b5]).cell? ⟨h + 1, 8, none⟩ = some (.string s8) := HS.out.y.cell 8
  go_wp2_with (with_reducible refine wpList_storeBlk rfl 61 _ _ rfl h #[.string S4, .bool b4] #[.string S5, .bool b5] ?hx ?hy X1 rfl ?hi ?h1 ?_)
  try (case hx => rfl)
  try (case hy => rfl)
  try (case hi => kernel_rfl)
  try (case h1 => simp [Value.oneCell'])
  clear X1 q0 q1 c8 HU
  refine (C6.out _).mono ?_
  rintro e U6 ⟨rfl, hb⟩
  have HU := HS.out.on hb
  clear hb C6
  have X1 := HU.z
  go_wp2_with (with_reducible refine wpList_storeBlk rfl 61 _ _ rfl (h + 2) #[.string ⟨#[]⟩, .bool false] #[.string S6, .bool b6] ?hx ?hy X1 rfl ?hi ?h1 ?_)
  try (case hx => rfl)
  try (case hy => rfl)
  try (case hi => kernel_rfl)
  try (case h1 => simp [Value.oneCell'])
  exact bodyPost_row rfl (h + 2) _ rfl rfl (HU.z.setRow _) _ Tryz.underlying61 rfl (by kernel_rfl) ⟨rfl, below_setRow HU.bel (by have := HU.low; omega) _⟩

end Go.Proofs.YtacdokfhgafigaaGreatDoor
