import Derived.Test.YtmjjpfinkpfifaaDoorS13
import Derived.Test.YtmjjpfinkpfifaaDoorTk
/- The document's op, PutOp (layer 13). -/
namespace Go.Proofs.YtmjjpfinkpfifaaDoor
open Go.RowKit
set_option maxRecDepth 100000
set_option linter.unusedSimpArgs false

/-- The document's writing: the cell of what is written, the operation's, the answer's. -/
structure RoS (w : World) (h : Nat) (o : Array Value) (cs : Array Value) (W : World) : Prop where
  x : Blk W 68 h o
  y : Blk W 25 (h + 1) cs
  z : Blk W 68 (h + 2) #[.string ⟨#[]⟩, .bool false]
  bel : Below w.heap.size w W
  low : w.heap.size ≤ h

theorem RoS.on {w : World} {h : Nat} {o cs : Array Value} {W W' : World} (k : RoS w h o cs W) (hb : Below W.heap.size W W') : RoS w h o cs W' := ⟨k.x.on hb, k.y.on hb, k.z.on hb, below_step k.bel (Nat.le_refl _) hb, k.low⟩

theorem RoS.set {w : World} {h : Nat} {o cs : Array Value} {W : World} (k : RoS w h o cs W) (o' : Array Value) : RoS w h o' cs (W.setRow h o') := ⟨k.x.setRow _, k.y.setRowOther _ (by omega) _, k.z.setRowOther _ (by omega) _, below_setRow k.bel k.low _, k.low⟩

theorem textP_size (o : ByteArray × Bool) (s : ByteArray) (h : o.1.size ≤ 65536) : (textP o s).1.size ≤ 65536 := by
  unfold textP
  split <;> exact layP_size _ _ _ h

set_option maxHeartbeats 4000000 in
set_option maxRecDepth 100000 in
theorem rop_any (st : ByteArray × Bool) (o : OpT) (w : World) (ho : st.1.size ≤ 65536) (h7 : o.2.2.2.2.1.size ≤ 1000000) (h8 : o.2.2.2.2.2.size ≤ 1000000) :
    Calls Tryd.prog 71 #[outV st, .agg (opA o)] w fun e w' => e = .returned (outV (writeA st (opPs o))) ∧ Below w.heap.size w w' := by
  rw [writeA_op]
  obtain ⟨k0, ⟨k1, k2⟩, ⟨k3, k4⟩, ⟨k5, k6⟩, s7, s8⟩ := o
  obtain ⟨S0, b0⟩ := st
  simp only at h7 h8
  have z0 : (S0, b0).1.size ≤ 65536 := ho
  obtain ⟨⟨S1, b1⟩, e1⟩ : ∃ p, numP (S0, b0) k0 1 255 = p := ⟨_, rfl⟩
  have z1 : (S1, b1).1.size ≤ 65536 := by rw [← e1]; exact layP_size _ _ _ z0
  have C1' : ∀ W, _ := fun W => rbyte_any (S0, b0) k0 W z0
  rw [e1] at C1'
  simp only [outV] at C1'
  have C1 : Hid (∀ W, _) := C1'
  obtain ⟨⟨S2, b2⟩, e2⟩ : ∃ p, stampP (S1, b1) k1 k2 = p := ⟨_, rfl⟩
  have z2 : (S2, b2).1.size ≤ 65536 := by rw [← e2]; exact layP_size _ _ _ z1
  have C2' : ∀ W, _ := fun W => rstamp_any (S1, b1) k1 k2 W z1
  rw [e2] at C2'
  simp only [outV] at C2'
  have C2 : Hid (∀ W, _) := C2'
  obtain ⟨⟨S3, b3⟩, e3⟩ : ∃ p, stampP (S2, b2) k3 k4 = p := ⟨_, rfl⟩
  have z3 : (S3, b3).1.size ≤ 65536 := by rw [← e3]; exact layP_size _ _ _ z2
  have C3' : ∀ W, _ := fun W => rstamp_any (S2, b2) k3 k4 W z2
  rw [e3] at C3'
  simp only [outV] at C3'
  have C3 : Hid (∀ W, _) := C3'
  obtain ⟨⟨S4, b4⟩, e4⟩ : ∃ p, stampP (S3, b3) k5 k6 = p := ⟨_, rfl⟩
  have z4 : (S4, b4).1.size ≤ 65536 := by rw [← e4]; exact layP_size _ _ _ z3
  have C4' : ∀ W, _ := fun W => rstamp_any (S3, b3) k5 k6 W z3
  rw [e4] at C4'
  simp only [outV] at C4'
  have C4 : Hid (∀ W, _) := C4'
  obtain ⟨⟨S5, b5⟩, e5⟩ : ∃ p, textP (S4, b4) s7 = p := ⟨_, rfl⟩
  have z5 : (S5, b5).1.size ≤ 65536 := by rw [← e5]; exact textP_size _ _ z4
  have C5' : ∀ W, _ := fun W => rtext_any (S4, b4) s7 W z4 h7
  rw [e5] at C5'
  simp only [outV] at C5'
  have C5 : Hid (∀ W, _) := C5'
  obtain ⟨⟨S6, b6⟩, e6⟩ : ∃ p, textP (S5, b5) s8 = p := ⟨_, rfl⟩
  have z6 : (S6, b6).1.size ≤ 65536 := by rw [← e6]; exact textP_size _ _ z5
  have C6' : ∀ W, _ := fun W => rtext_any (S5, b5) s8 W z5 h8
  rw [e6] at C6'
  simp only [outV] at C6'
  have C6 : Hid (∀ W, _) := C6'
  simp only [e1, e2, e3, e4, e5, e6, outV, opA]
  clear e1 e2 e3 e4 e5 e6 C1' C2' C3' C4' C5' C6' z0 z1 z2 z3 z4 z5 z6 h7 h8 ho
  go_enter Tryd.func71, Tryd.ntmps71
  go_wp2_with fail
  obtain ⟨h, hh⟩ : ∃ h, w.heap.size = h := ⟨_, rfl⟩
  obtain ⟨w0, hw0⟩ : ∃ w0, ((w.alloc (.cells #[.string S0, .bool b0] 68)).alloc (.cells #[.int .i64 k0, .int .i64 k1, .int .i64 k2, .int .i64 k3, .int .i64 k4, .int .i64 k5, .int .i64 k6, .string s7, .string s8] 25)).alloc (.cells #[.string ⟨#[]⟩, .bool false] 68) = w0 := ⟨_, rfl⟩
  have HS : Hid (RoS w h #[.string S0, .bool b0] #[.int .i64 k0, .int .i64 k1, .int .i64 k2, .int .i64 k3, .int .i64 k4, .int .i64 k5, .int .i64 k6, .string s7, .string s8] w0) := by
    show RoS _ _ _ _ _
    rw [← hw0]
    refine ⟨((Blk.new' _ _ _ _ hh).on (below_new _ _)).on (below_new _ _), (Blk.new' _ _ _ _ (by rw [World.size_alloc]; omega)).on (below_new _ _), Blk.new' _ _ _ _ (by simp only [World.size_alloc]; omega), ((below_new _ _).alloc (by simp only [World.size_alloc]; omega) _).alloc (by simp only [World.size_alloc]; omega) _, by omega⟩
  try rw [hw0]
  try rw [hh]
  clear hw0 hh
  refine (C1.out _).mono ?_
  rintro e U1 ⟨rfl, hb⟩
  have HU := HS.out.on hb
  clear hb C1
  have X1 := HU.x
  have HS : Hid (RoS w h #[.string S1, .bool b1] #[.int .i64 k0, .int .i64 k1, .int .i64 k2, .int .i64 k3, .int .i64 k4, .int .i64 k5, .int .i64 k6, .string s7, .string s8] (U1.setRow h #[.string S1, .bool b1])) := HU.set _
  have q0 : (U1.setRow h #[.string S1, .bool b1]).cell? ⟨h, 0, none⟩ = some (.string S1) := HS.out.x.cell 0
  have q1 : (U1.setRow h #[.string S1, .bool b1]).cell? ⟨h, 1, none⟩ = some (.bool b1) := HS.out.x.cell 1
  have c1 : (U1.setRow h #[.string S1, .bool b1]).cell? ⟨h + 1, 1, none⟩ = some (.int .i64 k1) := HS.out.y.cell 1
  have c2 : (U1.setRow h #[.string S1, .bool b1]).cell? ⟨h + 1, 2, none⟩ = some (.int .i64 k2) := HS.out.y.cell 2
  go_wp2_with (with_reducible refine wpList_storeBlk rfl 68 _ _ rfl h #[.string S0, .bool b0] #[.string S1, .bool b1] ?hx ?hy X1 rfl ?hi ?h1 ?_)
  try (case hx => rfl)
  try (case hy => rfl)
  try (case hi => kernel_rfl)
  try (case h1 => simp [Value.oneCell'])
  clear X1 q0 q1 c1 c2 HU
  refine (C2.out _).mono ?_
  rintro e U2 ⟨rfl, hb⟩
  have HU := HS.out.on hb
  clear hb C2
  have X1 := HU.x
  have HS : Hid (RoS w h #[.string S2, .bool b2] #[.int .i64 k0, .int .i64 k1, .int .i64 k2, .int .i64 k3, .int .i64 k4, .int .i64 k5, .int .i64 k6, .string s7, .string s8] (U2.setRow h #[.string S2, .bool b2])) := HU.set _
  have q0 : (U2.setRow h #[.string S2, .bool b2]).cell? ⟨h, 0, none⟩ = some (.string S2) := HS.out.x.cell 0
  have q1 : (U2.setRow h #[.string S2, .bool b2]).cell? ⟨h, 1, none⟩ = some (.bool b2) := HS.out.x.cell 1
  have c3 : (U2.setRow h #[.string S2, .bool b2]).cell? ⟨h + 1, 3, none⟩ = some (.int .i64 k3) := HS.out.y.cell 3
  have c4 : (U2.setRow h #[.string S2, .bool b2]).cell? ⟨h + 1, 4, none⟩ = some (.int .i64 k4) := HS.out.y.cell 4
  go_wp2_with (with_reducible refine wpList_storeBlk rfl 68 _ _ rfl h #[.string S1, .bool b1] #[.string S2, .bool b2] ?hx ?hy X1 rfl ?hi ?h1 ?_)
  try (case hx => rfl)
  try (case hy => rfl)
  try (case hi => kernel_rfl)
  try (case h1 => simp [Value.oneCell'])
  clear X1 q0 q1 c3 c4 HU
  refine (C3.out _).mono ?_
  rintro e U3 ⟨rfl, hb⟩
  have HU := HS.out.on hb
  clear hb C3
  have X1 := HU.x
  have HS : Hid (RoS w h #[.string S3, .bool b3] #[.int .i64 k0, .int .i64 k1, .int .i64 k2, .int .i64 k3, .int .i64 k4, .int .i64 k5, .int .i64 k6, .string s7, .string s8] (U3.setRow h #[.string S3, .bool b3])) := HU.set _
  have q0 : (U3.setRow h #[.string S3, .bool b3]).cell? ⟨h, 0, none⟩ = some (.string S3) := HS.out.x.cell 0
  have q1 : (U3.setRow h #[.string S3, .bool b3]).cell? ⟨h, 1, none⟩ = some (.bool b3) := HS.out.x.cell 1
  have c5 : (U3.setRow h #[.string S3, .bool b3]).cell? ⟨h + 1, 5, none⟩ = some (.int .i64 k5) := HS.out.y.cell 5
  have c6 : (U3.setRow h #[.string S3, .bool b3]).cell? ⟨h + 1, 6, none⟩ = some (.int .i64 k6) := HS.out.y.cell 6
  go_wp2_with (with_reducible refine wpList_storeBlk rfl 68 _ _ rfl h #[.string S2, .bool b2] #[.string S3, .bool b3] ?hx ?hy X1 rfl ?hi ?h1 ?_)
  try (case hx => rfl)
  try (case hy => rfl)
  try (case hi => kernel_rfl)
  try (case h1 => simp [Value.oneCell'])
  clear X1 q0 q1 c5 c6 HU
  refine (C4.out _).mono ?_
  rintro e U4 ⟨rfl, hb⟩
  have HU := HS.out.on hb
  clear hb C4
  have X1 := HU.x
  have HS : Hid (RoS w h #[.string S4, .bool b4] #[.int .i64 k0, .int .i64 k1, .int .i64 k2, .int .i64 k3, .int .i64 k4, .int .i64 k5, .int .i64 k6, .string s7, .string s8] (U4.setRow h #[.string S4, .bool b4])) := HU.set _
  have q0 : (U4.setRow h #[.string S4, .bool b4]).cell? ⟨h, 0, none⟩ = some (.string S4) := HS.out.x.cell 0
  have q1 : (U4.setRow h #[.string S4, .bool b4]).cell? ⟨h, 1, none⟩ = some (.bool b4) := HS.out.x.cell 1
  have c7 : (U4.setRow h #[.string S4, .bool b4]).cell? ⟨h + 1, 7, none⟩ = some (.string s7) := HS.out.y.cell 7
  go_wp2_with (with_reducible refine wpList_storeBlk rfl 68 _ _ rfl h #[.string S3, .bool b3] #[.string S4, .bool b4] ?hx ?hy X1 rfl ?hi ?h1 ?_)
  try (case hx => rfl)
  try (case hy => rfl)
  try (case hi => kernel_rfl)
  try (case h1 => simp [Value.oneCell'])
  clear X1 q0 q1 c7 HU
  refine (C5.out _).mono ?_
  rintro e U5 ⟨rfl, hb⟩
  have HU := HS.out.on hb
  clear hb C5
  have X1 := HU.x
  have HS : Hid (RoS w h #[.string S5, .bool b5] #[.int .i64 k0, .int .i64 k1, .int .i64 k2, .int .i64 k3, .int .i64 k4, .int .i64 k5, .int .i64 k6, .string s7, .string s8] (U5.setRow h #[.string S5, .bool b5])) := HU.set _
  have q0 : (U5.setRow h #[.string S5, .bool b5]).cell? ⟨h, 0, none⟩ = some (.string S5) := HS.out.x.cell 0
  have q1 : (U5.setRow h #[.string S5, .bool b5]).cell? ⟨h, 1, none⟩ = some (.bool b5) := HS.out.x.cell 1
  have c8 : (U5.setRow h #[.string S5, .bool b5]).cell? ⟨h + 1, 8, none⟩ = some (.string s8) := HS.out.y.cell 8
  go_wp2_with (with_reducible refine wpList_storeBlk rfl 68 _ _ rfl h #[.string S4, .bool b4] #[.string S5, .bool b5] ?hx ?hy X1 rfl ?hi ?h1 ?_)
  try (case hx => rfl)
  try (case hy => rfl)
  try (case hi => kernel_rfl)
  try (case h1 => simp [Value.oneCell'])
  clear X1 q0 q1 c8 HU
  refine (C6.out _).mono ?_
  rintro e U6 ⟨rfl, hb⟩
  have HU := HS.out.on hb
  clear hb C6
  have X1 := HU.z
  go_wp2_with (with_reducible refine wpList_storeBlk rfl 68 _ _ rfl (h + 2) #[.string ⟨#[]⟩, .bool false] #[.string S6, .bool b6] ?hx ?hy X1 rfl ?hi ?h1 ?_)
  try (case hx => rfl)
  try (case hy => rfl)
  try (case hi => kernel_rfl)
  try (case h1 => simp [Value.oneCell'])
  exact bodyPost_row rfl (h + 2) _ rfl rfl (HU.z.setRow _) _ Tryd.underlying68 rfl (by kernel_rfl) ⟨rfl, below_setRow HU.bel (by have := HU.low; omega) _⟩

set_option maxHeartbeats 4000000 in
set_option maxRecDepth 100000 in
theorem rputOp_any (M : OpT → Bool) (hM : ∀ o, M o = true ↔ MayO o) (o : OpT) (w : World) (h7 : o.2.2.2.2.1.size ≤ 1000000) (h8 : o.2.2.2.2.2.size ≤ 1000000) :
    Calls Tryd.prog 34 #[.agg (opA o)] w fun e w' => e = .returned (.tuple #[.string (putOpP M o).1, .int .i64 (putOpP M o).2]) ∧ Below w.heap.size w w' := by
  have CM' : ∀ W, _ := fun W => rmayO_any o (M o) (hM o) W (by omega) (by omega)
  have CO' : ∀ W, _ := fun W => rop_any (⟨#[]⟩, false) o W (by decide) h7 h8
  obtain ⟨p, hp⟩ : ∃ p, putOpP M o = p := ⟨_, rfl⟩
  have HP : Hid (putOpP M o = p) := hp
  rw [hp]
  clear hp
  obtain ⟨k0, ⟨k1, k2⟩, ⟨k3, k4⟩, ⟨k5, k6⟩, s7, s8⟩ := o
  simp only [opA] at CM' CO' ⊢
  obtain ⟨X, hX⟩ : ∃ X : Bool, M (k0, (k1, k2), (k3, k4), (k5, k6), s7, s8) = X := ⟨_, rfl⟩
  simp only [hX] at CM'
  obtain ⟨⟨S, b⟩, hst⟩ : ∃ st, writeA (⟨#[]⟩, false) (opPs (k0, (k1, k2), (k3, k4), (k5, k6), s7, s8)) = st := ⟨_, rfl⟩
  simp only [hst, outV] at CO'
  have HP2 : Hid ((if X = true then doneQ (S, b) else (⟨#[]⟩, 1)) = p) := by
    show _ = p
    rw [← HP.out]
    unfold putOpP
    rw [hX, hst]
  have CM : Hid (∀ W, _) := CM'
  have CO : Hid (∀ W, _) := CO'
  have CD' : ∀ W, _ := fun W => rdone_any (S, b) W
  rw [doneP_Q] at CD'
  simp only [outV] at CD'
  have CD : Hid (∀ W, _) := CD'
  clear CM' CO' CD' HP hX hst h7 h8
  have HB0 : Hid (Below w.heap.size w (w.alloc (.cells #[.int .i64 k0, .int .i64 k1, .int .i64 k2, .int .i64 k3, .int .i64 k4, .int .i64 k5, .int .i64 k6, .string s7, .string s8] 25))) := below_new _ _
  have HK0 : Hid (Blk (w.alloc (.cells #[.int .i64 k0, .int .i64 k1, .int .i64 k2, .int .i64 k3, .int .i64 k4, .int .i64 k5, .int .i64 k6, .string s7, .string s8] 25)) 25 w.heap.size #[.int .i64 k0, .int .i64 k1, .int .i64 k2, .int .i64 k3, .int .i64 k4, .int .i64 k5, .int .i64 k6, .string s7, .string s8]) := Blk.new _ _ _
  go_enter Tryd.func34, Tryd.ntmps34
  go_wp2_with fail
  refine (CM.out _).mono ?_
  rintro e w1 ⟨rfl, hb1⟩
  have HB1 : Hid (Below w.heap.size w w1) := below_step HB0.out (Nat.le_refl _) hb1
  have hK1 : Blk w1 25 w.heap.size #[.int .i64 k0, .int .i64 k1, .int .i64 k2, .int .i64 k3, .int .i64 k4, .int .i64 k5, .int .i64 k6, .string s7, .string s8] := HK0.out.on hb1
  have c0 : w1.cell? ⟨w.heap.size, 0, none⟩ = some (.int .i64 k0) := hK1.cell 0
  have c1 : w1.cell? ⟨w.heap.size, 1, none⟩ = some (.int .i64 k1) := hK1.cell 1
  have c2 : w1.cell? ⟨w.heap.size, 2, none⟩ = some (.int .i64 k2) := hK1.cell 2
  have c3 : w1.cell? ⟨w.heap.size, 3, none⟩ = some (.int .i64 k3) := hK1.cell 3
  have c4 : w1.cell? ⟨w.heap.size, 4, none⟩ = some (.int .i64 k4) := hK1.cell 4
  have c5 : w1.cell? ⟨w.heap.size, 5, none⟩ = some (.int .i64 k5) := hK1.cell 5
  have c6 : w1.cell? ⟨w.heap.size, 6, none⟩ = some (.int .i64 k6) := hK1.cell 6
  have c7 : w1.cell? ⟨w.heap.size, 7, none⟩ = some (.string s7) := hK1.cell 7
  have c8 : w1.cell? ⟨w.heap.size, 8, none⟩ = some (.string s8) := hK1.cell 8
  clear hb1 HB0 HK0 CM hK1
  cases X with
  | false =>
    obtain rfl : (⟨#[]⟩, 1) = p := HP2.out
    go_wp2
    go_ret2
    exact ⟨rfl, HB1.out⟩
  | true =>
    have hp : doneQ (S, b) = p := by have h := HP2.out; rwa [if_pos rfl] at h
    rw [hp] at CD
    go_wp2_with fail
    refine (CO.out _).mono ?_
    rintro e w2 ⟨rfl, hb2⟩
    have HB2 : Hid (Below w.heap.size w w2) := below_step HB1.out (Nat.le_refl _) hb2
    clear hb2 HB1 CO c0 c1 c2 c3 c4 c5 c6 c7 c8
    go_wp2_with fail
    refine (CD.out _).mono ?_
    rintro e w3 ⟨rfl, hb3⟩
    have hB3 := below_step HB2.out (Nat.le_refl _) hb3
    go_wp2
    go_ret2
    exact ⟨rfl, hB3⟩
end Go.Proofs.YtmjjpfinkpfifaaDoor

/- The document's takeOp, TakeOp (layer 13). -/
namespace Go.Proofs.YtmjjpfinkpfifaaDoor
open Go.RowKit
set_option maxRecDepth 100000
set_option linter.unusedSimpArgs false

/-- The document's reading: the cell of what is read, the answers', the operation's. -/
structure RtS (w : World) (h : Nat) (i : Array Value) (cs : Array Value) (W : World) : Prop where
  x : Blk W 83 h i
  z : Blk W 83 (h + 1) #[.string ⟨#[]⟩, .int .i64 0]
  y : Blk W 25 (h + 1 + 1) #[.int .i64 0, .int .i64 0, .int .i64 0, .int .i64 0, .int .i64 0, .int .i64 0, .int .i64 0, .string ⟨#[]⟩, .string ⟨#[]⟩]
  a : Blk W 25 (h + 1 + 1 + 1) cs
  bel : Below w.heap.size w W
  low : w.heap.size ≤ h

theorem RtS.on {w : World} {h : Nat} {i cs : Array Value} {W W' : World} (k : RtS w h i cs W) (hb : Below W.heap.size W W') : RtS w h i cs W' := ⟨k.x.on hb, k.z.on hb, k.y.on hb, k.a.on hb, below_step k.bel (Nat.le_refl _) hb, k.low⟩

theorem RtS.set {w : World} {h : Nat} {i cs : Array Value} {W : World} (k : RtS w h i cs W) (i' : Array Value) : RtS w h i' cs (W.setRow h i') := ⟨k.x.setRow _, k.z.setRowOther _ (by omega) _, k.y.setRowOther _ (by omega) _, k.a.setRowOther _ (by omega) _, below_setRow k.bel k.low _, k.low⟩

theorem RtS.put {w : World} {h : Nat} {i cs : Array Value} {W : World} (k : RtS w h i cs W) (j : Nat) (u : Value) : RtS w h i (cs.setIfInBounds j u) (W.setCell ⟨h + 1 + 1 + 1, j, none⟩ u) := by
  have hl := k.low
  exact ⟨k.x.grown (grown_set W (h + 1 + 1 + 1) j u) (fun e => by have := Option.some.inj e; omega), k.z.grown (grown_set W (h + 1 + 1 + 1) j u) (fun e => by have := Option.some.inj e; omega), k.y.grown (grown_set W (h + 1 + 1 + 1) j u) (fun e => by have := Option.some.inj e; omega), k.a.setAt j u, k.bel.setCell (p := ⟨h + 1 + 1 + 1, j, none⟩) (by show _ ≤ h + 1 + 1 + 1; omega) u, k.low⟩

theorem inStampP_size (i : ByteArray × Int) : (inStampP i).1.1.size ≤ i.1.size := by
  have h := Nat.le_trans (numberP_size (inNumP i).1 1) (inNumP_size i)
  unfold inStampP
  split <;> exact h

theorem inTextP_size (i : ByteArray × Int) (most : Int) : (inTextP i most).1.1.size ≤ i.1.size := by
  have h := numberP_size i 2
  unfold inTextP
  split
  · exact h
  · split
    · exact Nat.zero_le _
    · split
      · exact Nat.zero_le _
      · simp only [ByteArray.size_extract]; omega

set_option maxHeartbeats 4000000 in
set_option maxRecDepth 100000 in
theorem rtakeOp_any (i : ByteArray × Int) (w : World) (hs : i.1.size ≤ 1048576) :
    Calls Tryd.prog 82 #[inV i] w fun e w' => e = .returned (.tuple #[inV (readOpP i).1, .agg (opA (readOpP i).2)]) ∧ Below w.heap.size w w' := by
  obtain ⟨S0, c0⟩ := i
  have z0 : (S0, c0).1.size ≤ 1048576 := hs
  obtain ⟨⟨⟨S1, c1⟩, X0⟩, e1⟩ : ∃ p, numberP (S0, c0) 1 = p := ⟨_, rfl⟩
  have z1 : (S1, c1).1.size ≤ 1048576 := Nat.le_trans (by have h := numberP_size (S0, c0) 1; rw [e1] at h; exact h) z0
  have C1' : ∀ W, _ := fun W => rinByte_any (S0, c0) W z0
  rw [e1] at C1'
  obtain ⟨x0, hx0⟩ : ∃ x0 : Int, (X0 : Int) = x0 := ⟨_, rfl⟩
  simp only [hx0] at C1'
  simp only [inV] at C1'
  have C1 : Hid (∀ W, _) := C1'
  obtain ⟨⟨⟨S2, c2⟩, x1, x2⟩, e2⟩ : ∃ p, inStampP (S1, c1) = p := ⟨_, rfl⟩
  have z2 : (S2, c2).1.size ≤ 1048576 := Nat.le_trans (by have h := inStampP_size (S1, c1); rw [e2] at h; exact h) z1
  have C2' : ∀ W, _ := fun W => rinStamp_any (S1, c1) W z1
  rw [e2] at C2'
  simp only [inV] at C2'
  have C2 : Hid (∀ W, _) := C2'
  obtain ⟨⟨⟨S3, c3⟩, x3, x4⟩, e3⟩ : ∃ p, inStampP (S2, c2) = p := ⟨_, rfl⟩
  have z3 : (S3, c3).1.size ≤ 1048576 := Nat.le_trans (by have h := inStampP_size (S2, c2); rw [e3] at h; exact h) z2
  have C3' : ∀ W, _ := fun W => rinStamp_any (S2, c2) W z2
  rw [e3] at C3'
  simp only [inV] at C3'
  have C3 : Hid (∀ W, _) := C3'
  obtain ⟨⟨⟨S4, c4⟩, x5, x6⟩, e4⟩ : ∃ p, inStampP (S3, c3) = p := ⟨_, rfl⟩
  have z4 : (S4, c4).1.size ≤ 1048576 := Nat.le_trans (by have h := inStampP_size (S3, c3); rw [e4] at h; exact h) z3
  have C4' : ∀ W, _ := fun W => rinStamp_any (S3, c3) W z3
  rw [e4] at C4'
  simp only [inV] at C4'
  have C4 : Hid (∀ W, _) := C4'
  obtain ⟨⟨⟨S5, c5⟩, x7⟩, e5⟩ : ∃ p, inTextP (S4, c4) 1024 = p := ⟨_, rfl⟩
  have z5 : (S5, c5).1.size ≤ 1048576 := Nat.le_trans (by have h := inTextP_size (S4, c4) 1024; rw [e5] at h; exact h) z4
  have C5' : ∀ W, _ := fun W => rinText_any (S4, c4) 1024 W z4
  rw [e5] at C5'
  simp only [inV] at C5'
  have C5 : Hid (∀ W, _) := C5'
  obtain ⟨⟨⟨S6, c6⟩, x8⟩, e6⟩ : ∃ p, inTextP (S5, c5) 1024 = p := ⟨_, rfl⟩
  have z6 : (S6, c6).1.size ≤ 1048576 := Nat.le_trans (by have h := inTextP_size (S5, c5) 1024; rw [e6] at h; exact h) z5
  have C6' : ∀ W, _ := fun W => rinText_any (S5, c5) 1024 W z5
  rw [e6] at C6'
  simp only [inV] at C6'
  have C6 : Hid (∀ W, _) := C6'
  have hr : readOpP (S0, c0) = ((S6, c6), (x0, (x1, x2), (x3, x4), (x5, x6), x7, x8)) := by
    unfold readOpP
    simp only [e1, e2, e3, e4, e5, e6, hx0]
  rw [hr]
  simp only [inV, opA]
  clear hr e1 e2 e3 e4 e5 e6 hx0 C1' C2' C3' C4' C5' C6' z0 z1 z2 z3 z4 z5 z6 hs
  have XA : Blk ((((w.alloc (.cells #[.string S0, .int .i64 c0] 83)).alloc (.cells #[.string ⟨#[]⟩, .int .i64 0] 83)).alloc (.cells #[.int .i64 0, .int .i64 0, .int .i64 0, .int .i64 0, .int .i64 0, .int .i64 0, .int .i64 0, .string ⟨#[]⟩, .string ⟨#[]⟩] 25)).alloc (.cells #[.int .i64 0, .int .i64 0, .int .i64 0, .int .i64 0, .int .i64 0, .int .i64 0, .int .i64 0, .string ⟨#[]⟩, .string ⟨#[]⟩] 25)) 25 (w.heap.size + 1 + 1 + 1) #[.int .i64 0, .int .i64 0, .int .i64 0, .int .i64 0, .int .i64 0, .int .i64 0, .int .i64 0, .string ⟨#[]⟩, .string ⟨#[]⟩] := Blk.new' _ _ _ _ (by simp only [World.size_alloc])
  obtain ⟨W0, hW0⟩ : ∃ W0, ((((w.alloc (.cells #[.string S0, .int .i64 c0] 83)).alloc (.cells #[.string ⟨#[]⟩, .int .i64 0] 83)).alloc (.cells #[.int .i64 0, .int .i64 0, .int .i64 0, .int .i64 0, .int .i64 0, .int .i64 0, .int .i64 0, .string ⟨#[]⟩, .string ⟨#[]⟩] 25)).alloc (.cells #[.int .i64 0, .int .i64 0, .int .i64 0, .int .i64 0, .int .i64 0, .int .i64 0, .int .i64 0, .string ⟨#[]⟩, .string ⟨#[]⟩] 25)).setRow (w.heap.size + 1 + 1 + 1) #[.int .i64 0, .int .i64 0, .int .i64 0, .int .i64 0, .int .i64 0, .int .i64 0, .int .i64 0, .string ⟨#[]⟩, .string ⟨#[]⟩] = W0 := ⟨_, rfl⟩
  have HS0 : Hid (RtS w w.heap.size #[.string S0, .int .i64 c0] #[.int .i64 0, .int .i64 0, .int .i64 0, .int .i64 0, .int .i64 0, .int .i64 0, .int .i64 0, .string ⟨#[]⟩, .string ⟨#[]⟩] W0) := by
    show RtS _ _ _ _ _
    rw [← hW0]
    refine ⟨?_, ?_, ?_, ?_, ?_, Nat.le_refl _⟩
    · exact ((((Blk.new' _ _ _ _ rfl).on (below_new _ _)).on (below_new _ _)).on (below_new _ _)).setRowOther _ (by omega) _
    · exact (((Blk.new' _ _ _ _ (by rw [World.size_alloc])).on (below_new _ _)).on (below_new _ _)).setRowOther _ (by omega) _
    · exact ((Blk.new' _ _ _ _ (by simp only [World.size_alloc])).on (below_new _ _)).setRowOther _ (by omega) _
    · exact XA.setRow _
    · exact below_setRow ((((below_new _ _).alloc (by simp only [World.size_alloc]; omega) _).alloc (by simp only [World.size_alloc]; omega) _).alloc (by simp only [World.size_alloc]; omega) _) (by omega) _
  have q0 : W0.cell? ⟨w.heap.size, 0, none⟩ = some (.string S0) := HS0.out.x.cell 0
  have q1 : W0.cell? ⟨w.heap.size, 1, none⟩ = some (.int .i64 c0) := HS0.out.x.cell 1
  go_enter Tryd.func82, Tryd.ntmps82
  go_wp2_with (with_reducible refine wpList_storeBlk rfl 25 _ _ rfl (w.heap.size + 1 + 1 + 1) #[.int .i64 0, .int .i64 0, .int .i64 0, .int .i64 0, .int .i64 0, .int .i64 0, .int .i64 0, .string ⟨#[]⟩, .string ⟨#[]⟩] #[.int .i64 0, .int .i64 0, .int .i64 0, .int .i64 0, .int .i64 0, .int .i64 0, .int .i64 0, .string ⟨#[]⟩, .string ⟨#[]⟩] ?hx ?hy XA rfl ?hi ?h1 ?_)
  try (case hx => rfl)
  try (case hy => rfl)
  try (case hi => kernel_rfl)
  try (case h1 => simp [Value.oneCell'])
  obtain ⟨h, hh⟩ : ∃ h, w.heap.size = h := ⟨_, rfl⟩
  have HS : Hid (RtS w h #[.string S0, .int .i64 c0] #[.int .i64 0, .int .i64 0, .int .i64 0, .int .i64 0, .int .i64 0, .int .i64 0, .int .i64 0, .string ⟨#[]⟩, .string ⟨#[]⟩] W0) := by show RtS _ _ _ _ _; rw [← hh]; exact HS0.out
  try rw [hW0]
  try rw [hh]
  clear hW0 hh XA HS0 q0 q1
  refine (C1.out W0).mono ?_
  rintro e U0 ⟨rfl, hb⟩
  have HU : Hid (RtS w h #[.string S0, .int .i64 c0] #[.int .i64 0, .int .i64 0, .int .i64 0, .int .i64 0, .int .i64 0, .int .i64 0, .int .i64 0, .string ⟨#[]⟩, .string ⟨#[]⟩] U0) := HS.out.on hb
  have X1 := HU.out.x
  clear hb HS C1
  have HV : Hid (RtS w h #[.string S1, .int .i64 c1] #[.int .i64 0, .int .i64 0, .int .i64 0, .int .i64 0, .int .i64 0, .int .i64 0, .int .i64 0, .string ⟨#[]⟩, .string ⟨#[]⟩] (U0.setRow h #[.string S1, .int .i64 c1])) := HU.out.set _
  have y0 : (U0.setRow h #[.string S1, .int .i64 c1]).cell? ⟨h + 1 + 1 + 1, 0, none⟩ = some _ := (HV.out).a.cell 0
  have v0 : (U0.setRow h #[.string S1, .int .i64 c1]).frozen? ⟨h + 1 + 1 + 1, 0, none⟩ = false := (HV.out).a.free 0
  have HS : Hid (RtS w h #[.string S1, .int .i64 c1] #[.int .i64 x0, .int .i64 0, .int .i64 0, .int .i64 0, .int .i64 0, .int .i64 0, .int .i64 0, .string ⟨#[]⟩, .string ⟨#[]⟩] ((U0.setRow h #[.string S1, .int .i64 c1]).setCell ⟨h + 1 + 1 + 1, 0, none⟩ (.int .i64 x0))) := (HV.out).put 0 (.int .i64 x0)
  obtain ⟨W1, hW1⟩ : ∃ W, ((U0.setRow h #[.string S1, .int .i64 c1]).setCell ⟨h + 1 + 1 + 1, 0, none⟩ (.int .i64 x0)) = W := ⟨_, rfl⟩
  rw [hW1] at HS
  have q0 : W1.cell? ⟨h, 0, none⟩ = some (.string S1) := HS.out.x.cell 0
  have q1 : W1.cell? ⟨h, 1, none⟩ = some (.int .i64 c1) := HS.out.x.cell 1
  go_wp2_with (with_reducible refine wpList_storeBlk rfl 83 _ _ rfl h #[.string S0, .int .i64 c0] #[.string S1, .int .i64 c1] ?hx ?hy X1 rfl ?hi ?h1 ?_)
  try (case hx => rfl)
  try (case hy => rfl)
  try (case hi => kernel_rfl)
  try (case h1 => simp [Value.oneCell'])
  try rw [hW1]
  clear hW1 HU HV X1 q0 q1 y0 v0
  refine (C2.out W1).mono ?_
  rintro e U1 ⟨rfl, hb⟩
  have HU : Hid (RtS w h #[.string S1, .int .i64 c1] #[.int .i64 x0, .int .i64 0, .int .i64 0, .int .i64 0, .int .i64 0, .int .i64 0, .int .i64 0, .string ⟨#[]⟩, .string ⟨#[]⟩] U1) := HS.out.on hb
  have X1 := HU.out.x
  clear hb HS C2
  have HV : Hid (RtS w h #[.string S2, .int .i64 c2] #[.int .i64 x0, .int .i64 0, .int .i64 0, .int .i64 0, .int .i64 0, .int .i64 0, .int .i64 0, .string ⟨#[]⟩, .string ⟨#[]⟩] (U1.setRow h #[.string S2, .int .i64 c2])) := HU.out.set _
  have y1 : (U1.setRow h #[.string S2, .int .i64 c2]).cell? ⟨h + 1 + 1 + 1, 1, none⟩ = some _ := (HV.out).a.cell 1
  have v1 : (U1.setRow h #[.string S2, .int .i64 c2]).frozen? ⟨h + 1 + 1 + 1, 1, none⟩ = false := (HV.out).a.free 1
  have y2 : ((U1.setRow h #[.string S2, .int .i64 c2]).setCell ⟨h + 1 + 1 + 1, 1, none⟩ (.int .i64 x1)).cell? ⟨h + 1 + 1 + 1, 2, none⟩ = some _ := ((HV.out).put 1 (.int .i64 x1)).a.cell 2
  have v2 : ((U1.setRow h #[.string S2, .int .i64 c2]).setCell ⟨h + 1 + 1 + 1, 1, none⟩ (.int .i64 x1)).frozen? ⟨h + 1 + 1 + 1, 2, none⟩ = false := ((HV.out).put 1 (.int .i64 x1)).a.free 2
  have HS : Hid (RtS w h #[.string S2, .int .i64 c2] #[.int .i64 x0, .int .i64 x1, .int .i64 x2, .int .i64 0, .int .i64 0, .int .i64 0, .int .i64 0, .string ⟨#[]⟩, .string ⟨#[]⟩] (((U1.setRow h #[.string S2, .int .i64 c2]).setCell ⟨h + 1 + 1 + 1, 1, none⟩ (.int .i64 x1)).setCell ⟨h + 1 + 1 + 1, 2, none⟩ (.int .i64 x2))) := ((HV.out).put 1 (.int .i64 x1)).put 2 (.int .i64 x2)
  obtain ⟨W2, hW2⟩ : ∃ W, (((U1.setRow h #[.string S2, .int .i64 c2]).setCell ⟨h + 1 + 1 + 1, 1, none⟩ (.int .i64 x1)).setCell ⟨h + 1 + 1 + 1, 2, none⟩ (.int .i64 x2)) = W := ⟨_, rfl⟩
  rw [hW2] at HS
  have q0 : W2.cell? ⟨h, 0, none⟩ = some (.string S2) := HS.out.x.cell 0
  have q1 : W2.cell? ⟨h, 1, none⟩ = some (.int .i64 c2) := HS.out.x.cell 1
  go_wp2_with (with_reducible refine wpList_storeBlk rfl 83 _ _ rfl h #[.string S1, .int .i64 c1] #[.string S2, .int .i64 c2] ?hx ?hy X1 rfl ?hi ?h1 ?_)
  try (case hx => rfl)
  try (case hy => rfl)
  try (case hi => kernel_rfl)
  try (case h1 => simp [Value.oneCell'])
  try rw [hW2]
  clear hW2 HU HV X1 q0 q1 y1 v1 y2 v2
  refine (C3.out W2).mono ?_
  rintro e U2 ⟨rfl, hb⟩
  have HU : Hid (RtS w h #[.string S2, .int .i64 c2] #[.int .i64 x0, .int .i64 x1, .int .i64 x2, .int .i64 0, .int .i64 0, .int .i64 0, .int .i64 0, .string ⟨#[]⟩, .string ⟨#[]⟩] U2) := HS.out.on hb
  have X1 := HU.out.x
  clear hb HS C3
  have HV : Hid (RtS w h #[.string S3, .int .i64 c3] #[.int .i64 x0, .int .i64 x1, .int .i64 x2, .int .i64 0, .int .i64 0, .int .i64 0, .int .i64 0, .string ⟨#[]⟩, .string ⟨#[]⟩] (U2.setRow h #[.string S3, .int .i64 c3])) := HU.out.set _
  have y3 : (U2.setRow h #[.string S3, .int .i64 c3]).cell? ⟨h + 1 + 1 + 1, 3, none⟩ = some _ := (HV.out).a.cell 3
  have v3 : (U2.setRow h #[.string S3, .int .i64 c3]).frozen? ⟨h + 1 + 1 + 1, 3, none⟩ = false := (HV.out).a.free 3
  have y4 : ((U2.setRow h #[.string S3, .int .i64 c3]).setCell ⟨h + 1 + 1 + 1, 3, none⟩ (.int .i64 x3)).cell? ⟨h + 1 + 1 + 1, 4, none⟩ = some _ := ((HV.out).put 3 (.int .i64 x3)).a.cell 4
  have v4 : ((U2.setRow h #[.string S3, .int .i64 c3]).setCell ⟨h + 1 + 1 + 1, 3, none⟩ (.int .i64 x3)).frozen? ⟨h + 1 + 1 + 1, 4, none⟩ = false := ((HV.out).put 3 (.int .i64 x3)).a.free 4
  have HS : Hid (RtS w h #[.string S3, .int .i64 c3] #[.int .i64 x0, .int .i64 x1, .int .i64 x2, .int .i64 x3, .int .i64 x4, .int .i64 0, .int .i64 0, .string ⟨#[]⟩, .string ⟨#[]⟩] (((U2.setRow h #[.string S3, .int .i64 c3]).setCell ⟨h + 1 + 1 + 1, 3, none⟩ (.int .i64 x3)).setCell ⟨h + 1 + 1 + 1, 4, none⟩ (.int .i64 x4))) := ((HV.out).put 3 (.int .i64 x3)).put 4 (.int .i64 x4)
  obtain ⟨W3, hW3⟩ : ∃ W, (((U2.setRow h #[.string S3, .int .i64 c3]).setCell ⟨h + 1 + 1 + 1, 3, none⟩ (.int .i64 x3)).setCell ⟨h + 1 + 1 + 1, 4, none⟩ (.int .i64 x4)) = W := ⟨_, rfl⟩
  rw [hW3] at HS
  have q0 : W3.cell? ⟨h, 0, none⟩ = some (.string S3) := HS.out.x.cell 0
  have q1 : W3.cell? ⟨h, 1, none⟩ = some (.int .i64 c3) := HS.out.x.cell 1
  go_wp2_with (with_reducible refine wpList_storeBlk rfl 83 _ _ rfl h #[.string S2, .int .i64 c2] #[.string S3, .int .i64 c3] ?hx ?hy X1 rfl ?hi ?h1 ?_)
  try (case hx => rfl)
  try (case hy => rfl)
  try (case hi => kernel_rfl)
  try (case h1 => simp [Value.oneCell'])
  try rw [hW3]
  clear hW3 HU HV X1 q0 q1 y3 v3 y4 v4
  refine (C4.out W3).mono ?_
  rintro e U3 ⟨rfl, hb⟩
  have HU : Hid (RtS w h #[.string S3, .int .i64 c3] #[.int .i64 x0, .int .i64 x1, .int .i64 x2, .int .i64 x3, .int .i64 x4, .int .i64 0, .int .i64 0, .string ⟨#[]⟩, .string ⟨#[]⟩] U3) := HS.out.on hb
  have X1 := HU.out.x
  clear hb HS C4
  have HV : Hid (RtS w h #[.string S4, .int .i64 c4] #[.int .i64 x0, .int .i64 x1, .int .i64 x2, .int .i64 x3, .int .i64 x4, .int .i64 0, .int .i64 0, .string ⟨#[]⟩, .string ⟨#[]⟩] (U3.setRow h #[.string S4, .int .i64 c4])) := HU.out.set _
  have y5 : (U3.setRow h #[.string S4, .int .i64 c4]).cell? ⟨h + 1 + 1 + 1, 5, none⟩ = some _ := (HV.out).a.cell 5
  have v5 : (U3.setRow h #[.string S4, .int .i64 c4]).frozen? ⟨h + 1 + 1 + 1, 5, none⟩ = false := (HV.out).a.free 5
  have y6 : ((U3.setRow h #[.string S4, .int .i64 c4]).setCell ⟨h + 1 + 1 + 1, 5, none⟩ (.int .i64 x5)).cell? ⟨h + 1 + 1 + 1, 6, none⟩ = some _ := ((HV.out).put 5 (.int .i64 x5)).a.cell 6
  have v6 : ((U3.setRow h #[.string S4, .int .i64 c4]).setCell ⟨h + 1 + 1 + 1, 5, none⟩ (.int .i64 x5)).frozen? ⟨h + 1 + 1 + 1, 6, none⟩ = false := ((HV.out).put 5 (.int .i64 x5)).a.free 6
  have HS : Hid (RtS w h #[.string S4, .int .i64 c4] #[.int .i64 x0, .int .i64 x1, .int .i64 x2, .int .i64 x3, .int .i64 x4, .int .i64 x5, .int .i64 x6, .string ⟨#[]⟩, .string ⟨#[]⟩] (((U3.setRow h #[.string S4, .int .i64 c4]).setCell ⟨h + 1 + 1 + 1, 5, none⟩ (.int .i64 x5)).setCell ⟨h + 1 + 1 + 1, 6, none⟩ (.int .i64 x6))) := ((HV.out).put 5 (.int .i64 x5)).put 6 (.int .i64 x6)
  obtain ⟨W4, hW4⟩ : ∃ W, (((U3.setRow h #[.string S4, .int .i64 c4]).setCell ⟨h + 1 + 1 + 1, 5, none⟩ (.int .i64 x5)).setCell ⟨h + 1 + 1 + 1, 6, none⟩ (.int .i64 x6)) = W := ⟨_, rfl⟩
  rw [hW4] at HS
  have q0 : W4.cell? ⟨h, 0, none⟩ = some (.string S4) := HS.out.x.cell 0
  have q1 : W4.cell? ⟨h, 1, none⟩ = some (.int .i64 c4) := HS.out.x.cell 1
  go_wp2_with (with_reducible refine wpList_storeBlk rfl 83 _ _ rfl h #[.string S3, .int .i64 c3] #[.string S4, .int .i64 c4] ?hx ?hy X1 rfl ?hi ?h1 ?_)
  try (case hx => rfl)
  try (case hy => rfl)
  try (case hi => kernel_rfl)
  try (case h1 => simp [Value.oneCell'])
  try rw [hW4]
  clear hW4 HU HV X1 q0 q1 y5 v5 y6 v6
  refine (C5.out W4).mono ?_
  rintro e U4 ⟨rfl, hb⟩
  have HU : Hid (RtS w h #[.string S4, .int .i64 c4] #[.int .i64 x0, .int .i64 x1, .int .i64 x2, .int .i64 x3, .int .i64 x4, .int .i64 x5, .int .i64 x6, .string ⟨#[]⟩, .string ⟨#[]⟩] U4) := HS.out.on hb
  have X1 := HU.out.x
  clear hb HS C5
  have HV : Hid (RtS w h #[.string S5, .int .i64 c5] #[.int .i64 x0, .int .i64 x1, .int .i64 x2, .int .i64 x3, .int .i64 x4, .int .i64 x5, .int .i64 x6, .string ⟨#[]⟩, .string ⟨#[]⟩] (U4.setRow h #[.string S5, .int .i64 c5])) := HU.out.set _
  have y7 : (U4.setRow h #[.string S5, .int .i64 c5]).cell? ⟨h + 1 + 1 + 1, 7, none⟩ = some _ := (HV.out).a.cell 7
  have v7 : (U4.setRow h #[.string S5, .int .i64 c5]).frozen? ⟨h + 1 + 1 + 1, 7, none⟩ = false := (HV.out).a.free 7
  have HS : Hid (RtS w h #[.string S5, .int .i64 c5] #[.int .i64 x0, .int .i64 x1, .int .i64 x2, .int .i64 x3, .int .i64 x4, .int .i64 x5, .int .i64 x6, .string x7, .string ⟨#[]⟩] ((U4.setRow h #[.string S5, .int .i64 c5]).setCell ⟨h + 1 + 1 + 1, 7, none⟩ (.string x7))) := (HV.out).put 7 (.string x7)
  obtain ⟨W5, hW5⟩ : ∃ W, ((U4.setRow h #[.string S5, .int .i64 c5]).setCell ⟨h + 1 + 1 + 1, 7, none⟩ (.string x7)) = W := ⟨_, rfl⟩
  rw [hW5] at HS
  have q0 : W5.cell? ⟨h, 0, none⟩ = some (.string S5) := HS.out.x.cell 0
  have q1 : W5.cell? ⟨h, 1, none⟩ = some (.int .i64 c5) := HS.out.x.cell 1
  go_wp2_with (with_reducible refine wpList_storeBlk rfl 83 _ _ rfl h #[.string S4, .int .i64 c4] #[.string S5, .int .i64 c5] ?hx ?hy X1 rfl ?hi ?h1 ?_)
  try (case hx => rfl)
  try (case hy => rfl)
  try (case hi => kernel_rfl)
  try (case h1 => simp [Value.oneCell'])
  try rw [hW5]
  clear hW5 HU HV X1 q0 q1 y7 v7
  refine (C6.out W5).mono ?_
  rintro e U5 ⟨rfl, hb⟩
  have HU : Hid (RtS w h #[.string S5, .int .i64 c5] #[.int .i64 x0, .int .i64 x1, .int .i64 x2, .int .i64 x3, .int .i64 x4, .int .i64 x5, .int .i64 x6, .string x7, .string ⟨#[]⟩] U5) := HS.out.on hb
  have X1 := HU.out.x
  clear hb HS C6
  have HV : Hid (RtS w h #[.string S6, .int .i64 c6] #[.int .i64 x0, .int .i64 x1, .int .i64 x2, .int .i64 x3, .int .i64 x4, .int .i64 x5, .int .i64 x6, .string x7, .string ⟨#[]⟩] (U5.setRow h #[.string S6, .int .i64 c6])) := HU.out.set _
  have y8 : (U5.setRow h #[.string S6, .int .i64 c6]).cell? ⟨h + 1 + 1 + 1, 8, none⟩ = some _ := (HV.out).a.cell 8
  have v8 : (U5.setRow h #[.string S6, .int .i64 c6]).frozen? ⟨h + 1 + 1 + 1, 8, none⟩ = false := (HV.out).a.free 8
  have HS : Hid (RtS w h #[.string S6, .int .i64 c6] #[.int .i64 x0, .int .i64 x1, .int .i64 x2, .int .i64 x3, .int .i64 x4, .int .i64 x5, .int .i64 x6, .string x7, .string x8] ((U5.setRow h #[.string S6, .int .i64 c6]).setCell ⟨h + 1 + 1 + 1, 8, none⟩ (.string x8))) := (HV.out).put 8 (.string x8)
  obtain ⟨W6, hW6⟩ : ∃ W, ((U5.setRow h #[.string S6, .int .i64 c6]).setCell ⟨h + 1 + 1 + 1, 8, none⟩ (.string x8)) = W := ⟨_, rfl⟩
  rw [hW6] at HS
  have q0 : W6.cell? ⟨h, 0, none⟩ = some (.string S6) := HS.out.x.cell 0
  have q1 : W6.cell? ⟨h, 1, none⟩ = some (.int .i64 c6) := HS.out.x.cell 1
  go_wp2_with (with_reducible refine wpList_storeBlk rfl 83 _ _ rfl h #[.string S5, .int .i64 c5] #[.string S6, .int .i64 c6] ?hx ?hy X1 rfl ?hi ?h1 ?_)
  try (case hx => rfl)
  try (case hy => rfl)
  try (case hi => kernel_rfl)
  try (case h1 => simp [Value.oneCell'])
  try rw [hW6]
  clear hW6 HU HV X1 q0 q1 y8 v8
  have hS0 : Blk W6.drew 83 h #[.string S6, .int .i64 c6] ∧ Blk W6.drew 25 (h + 1 + 1 + 1) #[.int .i64 x0, .int .i64 x1, .int .i64 x2, .int .i64 x3, .int .i64 x4, .int .i64 x5, .int .i64 x6, .string x7, .string x8] := ⟨(HS.out.on (Below.refl _ _).drew).x, (HS.out.on (Below.refl _ _).drew).a⟩
  have HD : Hid (RtS w h #[.string S6, .int .i64 c6] #[.int .i64 x0, .int .i64 x1, .int .i64 x2, .int .i64 x3, .int .i64 x4, .int .i64 x5, .int .i64 x6, .string x7, .string x8] W6.drew) := HS.out.on (Below.refl _ _).drew
  refine wp_region_noPanic ?_
  refine wp_region_held_drew (S := fun W => Blk W 83 h #[.string S6, .int .i64 c6] ∧ Blk W 25 (h + 1 + 1 + 1) #[.int .i64 x0, .int .i64 x1, .int .i64 x2, .int .i64 x3, .int .i64 x4, .int .i64 x5, .int .i64 x6, .string x7, .string x8]) (by kernel_rfl) (by first | exact trivial | assumption | exact ⟨by assumption, by assumption⟩) (fun hHeld => ?_)
  refine tk 0 (v := .agg #[.string S6, .int .i64 c6]) rfl rfl ?_ ?_
  · intro w' hSw
    exact exec_loadRow 83 _ rfl h #[.string S6, .int .i64 c6] rfl hSw.1 _ Tryd.underlying83 rfl (by kernel_rfl)
  try simp only [Act.put, za, zb, zc]
  refine tk 1 (v := .agg #[.int .i64 x0, .int .i64 x1, .int .i64 x2, .int .i64 x3, .int .i64 x4, .int .i64 x5, .int .i64 x6, .string x7, .string x8]) rfl rfl ?_ ?_
  · intro w' hSw
    exact exec_loadRow 25 _ rfl (h + 1 + 1 + 1) #[.int .i64 x0, .int .i64 x1, .int .i64 x2, .int .i64 x3, .int .i64 x4, .int .i64 x5, .int .i64 x6, .string x7, .string x8] rfl hSw.2 _ Tryd.underlying25 rfl (by kernel_rfl)
  try simp only [Act.put, za, zb, zc]
  have hD := HD.out
  have hlow := hD.low
  refine wpAnyH_ready (rs := [2]) (by kernel_rfl) (by simp) ?_
  refine AllReadyH.cons rfl (fun K hK => ?_) AllReadyH.nil
  refine step_storeRow rfl rfl 83 _ _ rfl (h + 1) #[.string ⟨#[]⟩, .int .i64 0] #[.string S6, .int .i64 c6] rfl rfl hD.z rfl (by kernel_rfl) (by simp [Value.oneCell']) ?_
  refine hK.out _ _ (show _ ∧ _ from ⟨hD.x.setRowOther _ (by omega) _, hD.a.setRowOther _ (by omega) _⟩) (fun hHeld => ?_)
  clear hK K
  refine wpAnyH_ready (rs := [3]) (by kernel_rfl) (by simp) ?_
  refine AllReadyH.cons rfl (fun K hK => ?_) AllReadyH.nil
  refine step_storeRow rfl rfl 25 _ _ rfl (h + 1 + 1) #[.int .i64 0, .int .i64 0, .int .i64 0, .int .i64 0, .int .i64 0, .int .i64 0, .int .i64 0, .string ⟨#[]⟩, .string ⟨#[]⟩] #[.int .i64 x0, .int .i64 x1, .int .i64 x2, .int .i64 x3, .int .i64 x4, .int .i64 x5, .int .i64 x6, .string x7, .string x8] rfl rfl (hD.y.setRowOther _ (by omega) _) rfl (by kernel_rfl) (by simp [Value.oneCell']) ?_
  refine hK.out _ _ (show _ ∧ _ from ⟨(hD.x.setRowOther _ (by omega) _).setRowOther _ (by omega) _, (hD.a.setRowOther _ (by omega) _).setRowOther _ (by omega) _⟩) (fun hHeld => ?_)
  clear hK K
  refine wpAnyH_done (by kernel_rfl) (NoPanic.normal ?_) _
  go_wp2_with fail
  exact bodyPost_rows rfl (h + 1) (h + 1 + 1) #[.string S6, .int .i64 c6] #[.int .i64 x0, .int .i64 x1, .int .i64 x2, .int .i64 x3, .int .i64 x4, .int .i64 x5, .int .i64 x6, .string x7, .string x8] rfl rfl rfl ((hD.z.setRow _).setRowOther _ (by omega) _) ((hD.y.setRowOther _ (by omega) _).setRow _) _ _ Tryd.underlying83 rfl (by kernel_rfl) Tryd.underlying25 rfl (by kernel_rfl) ⟨rfl, below_setRow (below_setRow hD.bel (by omega) _) (by omega) _⟩
end Go.Proofs.YtmjjpfinkpfifaaDoor

/- The document's TakeOp (layer 13). -/
namespace Go.Proofs.YtmjjpfinkpfifaaDoor
open Go.RowKit
set_option maxRecDepth 100000
set_option linter.unusedSimpArgs false

theorem inTextP_res (i : ByteArray × Int) (most : Int) : (inTextP i most).2.size ≤ 1048576 := by
  have h := number2_lt i
  unfold inTextP
  split
  · exact Nat.zero_le _
  · split
    · exact Nat.zero_le _
    · split
      · exact Nat.zero_le _
      · simp only [ByteArray.size_extract]; omega

theorem readOpP_sizes (i : ByteArray × Int) : (readOpP i).2.2.2.2.2.1.size ≤ 1048576 ∧ (readOpP i).2.2.2.2.2.2.size ≤ 9223372036854775807 := by
  unfold readOpP
  simp only
  exact ⟨inTextP_res _ _, Nat.le_trans (inTextP_res _ _) (by decide)⟩

set_option maxHeartbeats 4000000 in
set_option maxRecDepth 100000 in
theorem rtakeL_any (M : OpT → Bool) (hM : ∀ o, M o = true ↔ MayO o) (s : ByteArray) (w : World) (hs : s.size ≤ 1048576) :
    Calls Tryd.prog 53 #[.string s] w fun e w' => e = .returned (.tuple #[.agg (opA (takeOpP M s).1), .int .i64 (takeOpP M s).2]) ∧ Below w.heap.size w w' := by
  have hz := readOpP_sizes (s, 0)
  have CR' : ∀ W, _ := fun W => rtakeOp_any (s, 0) W hs
  have CD' : ∀ W, _ := fun W => rinDone_any (readOpP (s, 0)).1 W
  have CM' : ∀ W, _ := fun W => rmayO_any (readOpP (s, 0)).2 (M (readOpP (s, 0)).2) (hM _) W hz.1 hz.2
  unfold takeOpP
  obtain ⟨⟨⟨S1, c1⟩, x⟩, hx⟩ : ∃ p, readOpP (s, 0) = p := ⟨_, rfl⟩
  simp only [hx] at CR' CD' CM' ⊢
  obtain ⟨k0, ⟨k1, k2⟩, ⟨k3, k4⟩, ⟨k5, k6⟩, s7, s8⟩ := x
  simp only [opA, inV] at CR' CD' CM'
  obtain ⟨Dn, hDn⟩ : ∃ Dn, inDoneP (S1, c1) = Dn := ⟨_, rfl⟩
  obtain ⟨X, hX⟩ : ∃ X, M (k0, (k1, k2), (k3, k4), (k5, k6), s7, s8) = X := ⟨_, rfl⟩
  simp only [hDn, hX] at CD' CM' ⊢
  obtain ⟨R, hR⟩ : ∃ R, (if Dn ≠ 0 ∨ X = false then (op0, 91) else ((k0, (k1, k2), (k3, k4), (k5, k6), s7, s8), 0) : OpT × Int) = R := ⟨_, rfl⟩
  have HR : Hid ((if Dn ≠ 0 ∨ X = false then (op0, 91) else ((k0, (k1, k2), (k3, k4), (k5, k6), s7, s8), 0) : OpT × Int) = R) := hR
  rw [hR]
  clear hR
  have CR : Hid (∀ W, _) := CR'
  have CD : Hid (∀ W, _) := CD'
  have CM : Hid (∀ W, _) := CM'
  clear CR' CD' CM' hz hx hDn hX hs
  have HB0 : Hid (Below w.heap.size w (w.alloc (.cells #[.int .i64 0, .int .i64 0, .int .i64 0, .int .i64 0, .int .i64 0, .int .i64 0, .int .i64 0, .string ⟨#[]⟩, .string ⟨#[]⟩] 25))) := below_new _ _
  have HZ0 : Hid (Blk (w.alloc (.cells #[.int .i64 0, .int .i64 0, .int .i64 0, .int .i64 0, .int .i64 0, .int .i64 0, .int .i64 0, .string ⟨#[]⟩, .string ⟨#[]⟩] 25)) 25 w.heap.size #[.int .i64 0, .int .i64 0, .int .i64 0, .int .i64 0, .int .i64 0, .int .i64 0, .int .i64 0, .string ⟨#[]⟩, .string ⟨#[]⟩]) := Blk.new _ _ _
  go_enter Tryd.func53, Tryd.ntmps53
  go_wp2_with fail
  obtain ⟨w0, hw0⟩ : ∃ w0, w.alloc (.cells #[.int .i64 0, .int .i64 0, .int .i64 0, .int .i64 0, .int .i64 0, .int .i64 0, .int .i64 0, .string ⟨#[]⟩, .string ⟨#[]⟩] 25) = w0 := ⟨_, rfl⟩
  obtain ⟨h, hh⟩ : ∃ h, w.heap.size = h := ⟨_, rfl⟩
  rw [hw0] at HB0 HZ0
  rw [hh] at HZ0
  have HL : Hid (w.heap.size ≤ h) := by show _ ≤ _; omega
  try rw [hw0]
  try rw [hh]
  clear hw0 hh
  refine (CR.out w0).mono ?_
  rintro e w1 ⟨rfl, hb1⟩
  have HB1 : Hid (Below w.heap.size w w1) := below_step HB0.out (Nat.le_refl _) hb1
  have HZ1 : Hid (Blk w1 25 h #[.int .i64 0, .int .i64 0, .int .i64 0, .int .i64 0, .int .i64 0, .int .i64 0, .int .i64 0, .string ⟨#[]⟩, .string ⟨#[]⟩]) := HZ0.out.on hb1
  have hlt1 := HZ1.out.lt
  have XI : Blk ((w1.alloc (.cells #[.string ⟨#[]⟩, .int .i64 0] 83)).alloc (.cells #[.int .i64 0, .int .i64 0, .int .i64 0, .int .i64 0, .int .i64 0, .int .i64 0, .int .i64 0, .string ⟨#[]⟩, .string ⟨#[]⟩] 25)) 83 w1.heap.size #[.string ⟨#[]⟩, .int .i64 0] := (Blk.new _ _ _).on (below_new _ _)
  have XO : Blk (((w1.alloc (.cells #[.string ⟨#[]⟩, .int .i64 0] 83)).alloc (.cells #[.int .i64 0, .int .i64 0, .int .i64 0, .int .i64 0, .int .i64 0, .int .i64 0, .int .i64 0, .string ⟨#[]⟩, .string ⟨#[]⟩] 25)).setRow w1.heap.size #[.string S1, .int .i64 c1]) 25 (w1.heap.size + 1) #[.int .i64 0, .int .i64 0, .int .i64 0, .int .i64 0, .int .i64 0, .int .i64 0, .int .i64 0, .string ⟨#[]⟩, .string ⟨#[]⟩] := (Blk.new' _ _ _ _ (by rw [World.size_alloc])).setRowOther _ (by omega) _
  have hb4 : Below w1.heap.size w1 ((((w1.alloc (.cells #[.string ⟨#[]⟩, .int .i64 0] 83)).alloc (.cells #[.int .i64 0, .int .i64 0, .int .i64 0, .int .i64 0, .int .i64 0, .int .i64 0, .int .i64 0, .string ⟨#[]⟩, .string ⟨#[]⟩] 25)).setRow w1.heap.size #[.string S1, .int .i64 c1]).setRow (w1.heap.size + 1) #[.int .i64 k0, .int .i64 k1, .int .i64 k2, .int .i64 k3, .int .i64 k4, .int .i64 k5, .int .i64 k6, .string s7, .string s8]) := below_setRow (below_setRow ((below_new w1 _).alloc (by rw [World.size_alloc]; omega) _) (Nat.le_refl _) _) (by omega) _
  have HI4 : Hid (Blk ((((w1.alloc (.cells #[.string ⟨#[]⟩, .int .i64 0] 83)).alloc (.cells #[.int .i64 0, .int .i64 0, .int .i64 0, .int .i64 0, .int .i64 0, .int .i64 0, .int .i64 0, .string ⟨#[]⟩, .string ⟨#[]⟩] 25)).setRow w1.heap.size #[.string S1, .int .i64 c1]).setRow (w1.heap.size + 1) #[.int .i64 k0, .int .i64 k1, .int .i64 k2, .int .i64 k3, .int .i64 k4, .int .i64 k5, .int .i64 k6, .string s7, .string s8]) 83 w1.heap.size #[.string S1, .int .i64 c1]) := (XI.setRow _).setRowOther _ (by omega) _
  have HO4 : Hid (Blk ((((w1.alloc (.cells #[.string ⟨#[]⟩, .int .i64 0] 83)).alloc (.cells #[.int .i64 0, .int .i64 0, .int .i64 0, .int .i64 0, .int .i64 0, .int .i64 0, .int .i64 0, .string ⟨#[]⟩, .string ⟨#[]⟩] 25)).setRow w1.heap.size #[.string S1, .int .i64 c1]).setRow (w1.heap.size + 1) #[.int .i64 k0, .int .i64 k1, .int .i64 k2, .int .i64 k3, .int .i64 k4, .int .i64 k5, .int .i64 k6, .string s7, .string s8]) 25 (w1.heap.size + 1) #[.int .i64 k0, .int .i64 k1, .int .i64 k2, .int .i64 k3, .int .i64 k4, .int .i64 k5, .int .i64 k6, .string s7, .string s8]) := XO.setRow _
  obtain ⟨w4, hw4⟩ : ∃ w4, ((((w1.alloc (.cells #[.string ⟨#[]⟩, .int .i64 0] 83)).alloc (.cells #[.int .i64 0, .int .i64 0, .int .i64 0, .int .i64 0, .int .i64 0, .int .i64 0, .int .i64 0, .string ⟨#[]⟩, .string ⟨#[]⟩] 25)).setRow w1.heap.size #[.string S1, .int .i64 c1]).setRow (w1.heap.size + 1) #[.int .i64 k0, .int .i64 k1, .int .i64 k2, .int .i64 k3, .int .i64 k4, .int .i64 k5, .int .i64 k6, .string s7, .string s8]) = w4 := ⟨_, rfl⟩
  rw [hw4] at hb4 HI4 HO4
  have HB4 : Hid (Below w.heap.size w w4) := below_step HB1.out (Nat.le_refl _) hb4
  have HZ4 : Hid (Blk w4 25 h #[.int .i64 0, .int .i64 0, .int .i64 0, .int .i64 0, .int .i64 0, .int .i64 0, .int .i64 0, .string ⟨#[]⟩, .string ⟨#[]⟩]) := HZ1.out.on hb4
  have q0 : w4.cell? ⟨w1.heap.size, 0, none⟩ = some (.string S1) := HI4.out.cell 0
  have q1 : w4.cell? ⟨w1.heap.size, 1, none⟩ = some (.int .i64 c1) := HI4.out.cell 1
  clear hb1 HB0 HZ0 CR hb4 HB1 HZ1 hlt1
  go_wp2_with (first
    | (with_reducible refine wpList_storeBlk rfl 83 _ _ rfl w1.heap.size #[.string ⟨#[]⟩, .int .i64 0] #[.string S1, .int .i64 c1] ?hx ?hy XI rfl ?hi ?h1 ?_)
    | (with_reducible refine wpList_storeBlk rfl 25 _ _ rfl (w1.heap.size + 1) #[.int .i64 0, .int .i64 0, .int .i64 0, .int .i64 0, .int .i64 0, .int .i64 0, .int .i64 0, .string ⟨#[]⟩, .string ⟨#[]⟩] #[.int .i64 k0, .int .i64 k1, .int .i64 k2, .int .i64 k3, .int .i64 k4, .int .i64 k5, .int .i64 k6, .string s7, .string s8] ?hx2 ?hy2 XO rfl ?hi2 ?h12 ?_))
  try (case hx => rfl)
  try (case hy => rfl)
  try (case hi => kernel_rfl)
  try (case h1 => simp [Value.oneCell'])
  try (case hx2 => rfl)
  try (case hy2 => rfl)
  try (case hi2 => kernel_rfl)
  try (case h12 => simp [Value.oneCell'])
  try rw [hw4]
  obtain ⟨ha, hha⟩ : ∃ ha, w1.heap.size + 1 = ha := ⟨_, rfl⟩
  rw [hha] at HO4
  try rw [hha]
  clear hw4 hha XI XO q0 q1 HI4
  refine (CD.out w4).mono ?_
  rintro e w5 ⟨rfl, hb5⟩
  have HB5 : Hid (Below w.heap.size w w5) := below_step HB4.out (Nat.le_refl _) hb5
  have HZ5 : Hid (Blk w5 25 h #[.int .i64 0, .int .i64 0, .int .i64 0, .int .i64 0, .int .i64 0, .int .i64 0, .int .i64 0, .string ⟨#[]⟩, .string ⟨#[]⟩]) := HZ4.out.on hb5
  have HO5 : Hid (Blk w5 25 ha #[.int .i64 k0, .int .i64 k1, .int .i64 k2, .int .i64 k3, .int .i64 k4, .int .i64 k5, .int .i64 k6, .string s7, .string s8]) := HO4.out.on hb5
  clear hb5 HB4 HZ4 HO4 CD
  by_cases hD : Dn = 0
  · subst hD
    have c0 : w5.cell? ⟨ha, 0, none⟩ = some (.int .i64 k0) := HO5.out.cell 0
    have c1x : w5.cell? ⟨ha, 1, none⟩ = some (.int .i64 k1) := HO5.out.cell 1
    have c2 : w5.cell? ⟨ha, 2, none⟩ = some (.int .i64 k2) := HO5.out.cell 2
    have c3 : w5.cell? ⟨ha, 3, none⟩ = some (.int .i64 k3) := HO5.out.cell 3
    have c4 : w5.cell? ⟨ha, 4, none⟩ = some (.int .i64 k4) := HO5.out.cell 4
    have c5 : w5.cell? ⟨ha, 5, none⟩ = some (.int .i64 k5) := HO5.out.cell 5
    have c6 : w5.cell? ⟨ha, 6, none⟩ = some (.int .i64 k6) := HO5.out.cell 6
    have c7 : w5.cell? ⟨ha, 7, none⟩ = some (.string s7) := HO5.out.cell 7
    have c8 : w5.cell? ⟨ha, 8, none⟩ = some (.string s8) := HO5.out.cell 8
    go_wp2_with fail
    refine (CM.out w5).mono ?_
    rintro e w6 ⟨rfl, hb6⟩
    have HB : Hid (Below w.heap.size w w6) := below_step HB5.out (Nat.le_refl _) hb6
    have HZ : Hid (Blk w6 25 h #[.int .i64 0, .int .i64 0, .int .i64 0, .int .i64 0, .int .i64 0, .int .i64 0, .int .i64 0, .string ⟨#[]⟩, .string ⟨#[]⟩]) := HZ5.out.on hb6
    have hO6 : Blk w6 25 ha #[.int .i64 k0, .int .i64 k1, .int .i64 k2, .int .i64 k3, .int .i64 k4, .int .i64 k5, .int .i64 k6, .string s7, .string s8] := HO5.out.on hb6
    have d0 : w6.cell? ⟨ha, 0, none⟩ = some (.int .i64 k0) := hO6.cell 0
    have d1 : w6.cell? ⟨ha, 1, none⟩ = some (.int .i64 k1) := hO6.cell 1
    have d2 : w6.cell? ⟨ha, 2, none⟩ = some (.int .i64 k2) := hO6.cell 2
    have d3 : w6.cell? ⟨ha, 3, none⟩ = some (.int .i64 k3) := hO6.cell 3
    have d4 : w6.cell? ⟨ha, 4, none⟩ = some (.int .i64 k4) := hO6.cell 4
    have d5 : w6.cell? ⟨ha, 5, none⟩ = some (.int .i64 k5) := hO6.cell 5
    have d6 : w6.cell? ⟨ha, 6, none⟩ = some (.int .i64 k6) := hO6.cell 6
    have d7 : w6.cell? ⟨ha, 7, none⟩ = some (.string s7) := hO6.cell 7
    have d8 : w6.cell? ⟨ha, 8, none⟩ = some (.string s8) := hO6.cell 8
    clear c0 c1x c2 c3 c4 c5 c6 c7 c8 hb6 HB5 HZ5 HO5 CM hO6
    cases X with
    | false =>
      obtain rfl : (op0, (91 : Int)) = R := by have h := HR.out; rwa [if_pos (.inr rfl)] at h
      go_wp2_with (with_reducible refine wpList_storeBlk rfl 25 _ _ rfl h #[.int .i64 0, .int .i64 0, .int .i64 0, .int .i64 0, .int .i64 0, .int .i64 0, .int .i64 0, .string ⟨#[]⟩, .string ⟨#[]⟩] #[.int .i64 0, .int .i64 0, .int .i64 0, .int .i64 0, .int .i64 0, .int .i64 0, .int .i64 0, .string ⟨#[]⟩, .string ⟨#[]⟩] ?hx ?hy HZ.out rfl ?hi ?h1 ?_)
      try (case hx => rfl)
      try (case hy => rfl)
      try (case hi => kernel_rfl)
      try (case h1 => simp [Value.oneCell'])
      exact bodyPost_rowTmp rfl h _ _ rfl rfl rfl (HZ.out.setRow _) _ Tryd.underlying25 rfl (by kernel_rfl) ⟨rfl, below_setRow HB.out HL.out _⟩
    | true =>
      obtain rfl : ((k0, (k1, k2), (k3, k4), (k5, k6), s7, s8), (0 : Int)) = R := by have h := HR.out; rwa [if_neg (by simp)] at h
      go_wp2_with (with_reducible refine wpList_storeBlk rfl 25 _ _ rfl h #[.int .i64 0, .int .i64 0, .int .i64 0, .int .i64 0, .int .i64 0, .int .i64 0, .int .i64 0, .string ⟨#[]⟩, .string ⟨#[]⟩] #[.int .i64 k0, .int .i64 k1, .int .i64 k2, .int .i64 k3, .int .i64 k4, .int .i64 k5, .int .i64 k6, .string s7, .string s8] ?hx ?hy HZ.out rfl ?hi ?h1 ?_)
      try (case hx => rfl)
      try (case hy => rfl)
      try (case hi => kernel_rfl)
      try (case h1 => simp [Value.oneCell'])
      exact bodyPost_rowTmp rfl h _ _ rfl rfl rfl (HZ.out.setRow _) _ Tryd.underlying25 rfl (by kernel_rfl) ⟨rfl, below_setRow HB.out HL.out _⟩
  · obtain rfl : (op0, (91 : Int)) = R := by have h := HR.out; rwa [if_pos (.inl hD)] at h
    have HB := HB5
    have HZ := HZ5
    have hD' : (Dn == 0) = false := by simp [hD]
    clear HB5 HZ5 HO5 CM
    go_wp2_with (with_reducible refine wpList_storeBlk rfl 25 _ _ rfl h #[.int .i64 0, .int .i64 0, .int .i64 0, .int .i64 0, .int .i64 0, .int .i64 0, .int .i64 0, .string ⟨#[]⟩, .string ⟨#[]⟩] #[.int .i64 0, .int .i64 0, .int .i64 0, .int .i64 0, .int .i64 0, .int .i64 0, .int .i64 0, .string ⟨#[]⟩, .string ⟨#[]⟩] ?hx ?hy HZ.out rfl ?hi ?h1 ?_)
    try (case hx => rfl)
    try (case hy => rfl)
    try (case hi => kernel_rfl)
    try (case h1 => simp [Value.oneCell'])
    exact bodyPost_rowTmp rfl h _ _ rfl rfl rfl (HZ.out.setRow _) _ Tryd.underlying25 rfl (by kernel_rfl) ⟨rfl, below_setRow HB.out HL.out _⟩
end Go.Proofs.YtmjjpfinkpfifaaDoor
