import Derived.Test.YtogbkfakihnbdaaGreatDoorSnA
import Derived.Test.YtogbkfakihnbdaaGreatDoorL1
import Derived.Test.YtogbkfakihnbdaaGreatDoorSnC
/- The document's takeOp, TakeOp (layer 13). -/
namespace Go.Proofs.YtogbkfakihnbdaaGreatDoor
open Go.RowKit
set_option linter.unusedSimpArgs false

/-- The document's reading: the cell of what is read, the answers', the operation's. -/
structure RtS (w : World) (h : Nat) (i : Array Value) (cs : Array Value) (W : World) : Prop where
  x : Blk W 55 h i
  z : Blk W 55 (h + 1) #[.string ⟨#[]⟩, .int .i64 0]
  y : Blk W 37 (h + 1 + 1) #[.int .i64 0, .int .i64 0, .int .i64 0, .int .i64 0, .int .i64 0, .int .i64 0, .int .i64 0, .string ⟨#[]⟩, .string ⟨#[]⟩]
  a : Blk W 37 (h + 1 + 1 + 1) cs
  bel : Below w.heap.size w W
  low : w.heap.size ≤ h

theorem RtS.on {w : World} {h : Nat} {i cs : Array Value} {W W' : World} (k : RtS w h i cs W) (hb : Below W.heap.size W W') : RtS w h i cs W' := ⟨k.x.on hb, k.z.on hb, k.y.on hb, k.a.on hb, below_step k.bel (Nat.le_refl _) hb, k.low⟩

theorem RtS.set {w : World} {h : Nat} {i cs : Array Value} {W : World} (k : RtS w h i cs W) (i' : Array Value) : RtS w h i' cs (W.setRow h i') := ⟨k.x.setRow _, k.z.setRowOther _ (by omega) _, k.y.setRowOther _ (by omega) _, k.a.setRowOther _ (by omega) _, below_setRow k.bel k.low _, k.low⟩

theorem RtS.put {w : World} {h : Nat} {i cs : Array Value} {W : World} (k : RtS w h i cs W) (j : Nat) (u : Value) : RtS w h i (cs.setIfInBounds j u) (W.setCell ⟨h + 1 + 1 + 1, j, none⟩ u) := by
  have hl := k.low
  exact ⟨k.x.grown (grown_set W (h + 1 + 1 + 1) j u) (fun e => by have := Option.some.inj e; omega), k.z.grown (grown_set W (h + 1 + 1 + 1) j u) (fun e => by have := Option.some.inj e; omega), k.y.grown (grown_set W (h + 1 + 1 + 1) j u) (fun e => by have := Option.some.inj e; omega), k.a.setAt j u, k.bel.setCell (p := ⟨h + 1 + 1 + 1, j, none⟩) (by show _ ≤ h + 1 + 1 + 1; omega) u, k.low⟩

theorem inStampP_size (i : ByteArray × Int) : (inStampP i).1.1.size ≤ i.1.size := by
  have h := Nat.le_trans (numberP_size (inNumP i).1 1) (inNumP_size i)
  unfold inStampP
  split <;> exact h

theorem inTextP_size (i : ByteArray × Int) (most : Int) : (inTextP i most).1.1.size ≤ i.1.size := by
  have h := numberP_size i 2
  unfold inTextP
  split
  · exact h
  · split
    · exact Nat.zero_le _
    · split
      · exact Nat.zero_le _
      · simp only [ByteArray.size_extract]; omega

set_option maxHeartbeats 4000000 in
set_option maxRecDepth 100000 in
theorem rtakeOp_any (i : ByteArray × Int) (w : World) (hs : i.1.size ≤ 1048576) :
    Calls Tryz.prog 23 #[inV i] w fun e w' => e = .returned (.tuple #[inV (readOpP i).1, .agg (opA (readOpP i).2)]) ∧ Below w.heap.size w w' := by
  obtain ⟨S0, c0⟩ := i
  have z0 : (S0, c0).1.size ≤ 1048576 := hs
  obtain ⟨⟨⟨S1, c1⟩, X0⟩, e1⟩ : ∃ p, numberP (S0, c0) 1 = p := ⟨_, rfl⟩
  have z1 : (S1, c1).1.size ≤ 1048576 := Nat.le_trans (by have h := numberP_size (S0, c0) 1; rw [e1] at h; exact h) z0
  have C1' : ∀ W, _ := fun W => rinByte_any (S0, c0) W z0
  rw [e1] at C1'
  obtain ⟨x0, hx0⟩ : ∃ x0 : Int, (X0 : Int) = x0 := ⟨_, rfl⟩
  simp only [hx0] at C1'
  simp only [inV] at C1'
  have C1 : Hid (∀ W, _) := C1'
  obtain ⟨⟨⟨S2, c2⟩, x1, x2⟩, e2⟩ : ∃ p, inStampP (S1, c1) = p := ⟨_, rfl⟩
  have z2 : (S2, c2).1.size ≤ 1048576 := Nat.le_trans (by have h := inStampP_size (S1, c1); rw [e2] at h; exact h) z1
  have C2' : ∀ W, _ := fun W => rinStamp_any (S1, c1) W z1
  rw [e2] at C2'
  simp only [inV] at C2'
  have C2 : Hid (∀ W, _) := C2'
  obtain ⟨⟨⟨S3, c3⟩, x3, x4⟩, e3⟩ : ∃ p, inStampP (S2, c2) = p := ⟨_, rfl⟩
  have z3 : (S3, c3).1.size ≤ 1048576 := Nat.le_trans (by have h := inStampP_size (S2, c2); rw [e3] at h; exact h) z2
  have C3' : ∀ W, _ := fun W => rinStamp_any (S2, c2) W z2
  rw [e3] at C3'
  simp only [inV] at C3'
  have C3 : Hid (∀ W, _) := C3'
  obtain ⟨⟨⟨S4, c4⟩, x5, x6⟩, e4⟩ : ∃ p, inStampP (S3, c3) = p := ⟨_, rfl⟩
  have z4 : (S4, c4).1.size ≤ 1048576 := Nat.le_trans (by have h := inStampP_size (S3, c3); rw [e4] at h; exact h) z3
  have C4' : ∀ W, _ := fun W => rinStamp_any (S3, c3) W z3
  rw [e4] at C4'
  simp only [inV] at C4'
  have C4 : Hid (∀ W, _) := C4'
  obtain ⟨⟨⟨S5, c5⟩, x7⟩, e5⟩ : ∃ p, inTextP (S4, c4) 1024 = p := ⟨_, rfl⟩
  have z5 : (S5, c5).1.size ≤ 1048576 := Nat.le_trans (by have h := inTextP_size (S4, c4) 1024; rw [e5] at h; exact h) z4
  have C5' : ∀ W, _ := fun W => rinText_any (S4, c4) 1024 W z4
  rw [e5] at C5'
  simp only [inV] at C5'
  have C5 : Hid (∀ W, _) := C5'
  obtain ⟨⟨⟨S6, c6⟩, x8⟩, e6⟩ : ∃ p, inTextP (S5, c5) 1024 = p := ⟨_, rfl⟩
  have z6 : (S6, c6).1.size ≤ 1048576 := Nat.le_trans (by have h := inTextP_size (S5, c5) 1024; rw [e6] at h; exact h) z5
  have C6' : ∀ W, _ := fun W => rinText_any (S5, c5) 1024 W z5
  rw [e6] at C6'
  simp only [inV] at C6'
  have C6 : Hid (∀ W, _) := C6'
  have hr : readOpP (S0, c0) = ((S6, c6), (x0, (x1, x2), (x3, x4), (x5, x6), x7, x8)) := by
    unfold readOpP
    simp only [e1, e2, e3, e4, e5, e6, hx0]
  rw [hr]
  simp only [inV, opA]
  clear hr e1 e2 e3 e4 e5 e6 hx0 C1' C2' C3' C4' C5' C6' z0 z1 z2 z3 z4 z5 z6 hs
  have XA : Blk ((((w.alloc (.cells #[.string S0, .int .i64 c0] 55)).alloc (.cells #[.string ⟨#[]⟩, .int .i64 0] 55)).alloc (.cells #[.int .i64 0, .int .i64 0, .int .i64 0, .int .i64 0, .int .i64 0, .int .i64 0, .int .i64 0, .string ⟨#[]⟩, .string ⟨#[]⟩] 37)).alloc (.cells #[.int .i64 0, .int .i64 0, .int .i64 0, .int .i64 0, .int .i64 0, .int .i64 0, .int .i64 0, .string ⟨#[]⟩, .string ⟨#[]⟩] 37)) 37 (w.heap.size + 1 + 1 + 1) #[.int .i64 0, .int .i64 0, .int .i64 0, .int .i64 0, .int .i64 0, .int .i64 0, .int .i64 0, .string ⟨#[]⟩, .string ⟨#[]⟩] := Blk.new' _ _ _ _ (by simp only [World.size_alloc])
  obtain ⟨W0, hW0⟩ : ∃ W0, ((((w.alloc (.cells #[.string S0, .int .i64 c0] 55)).alloc (.cells #[.string ⟨#[]⟩, .int .i64 0] 55)).alloc (.cells #[.int .i64 0, .int .i64 0, .int .i64 0, .int .i64 0, .int .i64 0, .int .i64 0, .int .i64 0, .string ⟨#[]⟩, .string ⟨#[]⟩] 37)).alloc (.cells #[.int .i64 0, .int .i64 0, .int .i64 0, .int .i64 0, .int .i64 0, .int .i64 0, .int .i64 0, .string ⟨#[]⟩, .string ⟨#[]⟩] 37)).setRow (w.heap.size + 1 + 1 + 1) #[.int .i64 0, .int .i64 0, .int .i64 0, .int .i64 0, .int .i64 0, .int .i64 0, .int .i64 0, .string ⟨#[]⟩, .string ⟨#[]⟩] = W0 := ⟨_, rfl⟩
  have HS0 : Hid (RtS w w.heap.size #[.string S0, .int .i64 c0] #[.int .i64 0, .int .i64 0, .int .i64 0, .int .i64 0, .int .i64 0, .int .i64 0, .int .i64 0, .string ⟨#[]⟩, .string ⟨#[]⟩] W0) := by
    show RtS _ _ _ _ _
    rw [← hW0]
    refine ⟨?_, ?_, ?_, ?_, ?_, Nat.le_refl _⟩
    · exact ((((Blk.new' _ _ _ _ rfl).on (below_new _ _)).on (below_new _ _)).on (below_new _ _)).setRowOther _ (by omega) _
    · exact (((Blk.new' _ _ _ _ (by rw [World.size_alloc])).on (below_new _ _)).on (below_new _ _)).setRowOther _ (by omega) _
    · exact ((Blk.new' _ _ _ _ (by simp only [World.size_alloc])).on (below_new _ _)).setRowOther _ (by omega) _
    · exact XA.setRow _
    · exact below_setRow ((((below_new _ _).alloc (by simp only [World.size_alloc]; omega) _).alloc (by simp only [World.size_alloc]; omega) _).alloc (by simp only [World.size_alloc]; omega) _) (by omega) _
  have q0 : W0.cell? ⟨w.heap.size, 0, none⟩ = some (.string S0) := HS0.out.x.cell 0
  have q1 : W0.cell? ⟨w.heap.size, 1, none⟩ = some (.int .i64 c0) := HS0.out.x.cell 1
  go_enter Tryz.func23, Tryz.ntmps23
  go_wp2_with (with_reducible refine wpList_storeBlk rfl 37 _ _ rfl (w.heap.size + 1 + 1 + 1) #[.int .i64 0, .int .i64 0, .int .i64 0, .int .i64 0, .int .i64 0, .int .i64 0, .int .i64 0, .string ⟨#[]⟩, .string ⟨#[]⟩] #[.int .i64 0, .int .i64 0, .int .i64 0, .int .i64 0, .int .i64 0, .int .i64 0, .int .i64 0, .string ⟨#[]⟩, .string ⟨#[]⟩] ?hx ?hy XA rfl ?hi ?h1 ?_)
  try (case hx => rfl)
  try (case hy => rfl)
  try (case hi => kernel_rfl)
  try (case h1 => simp [Value.oneCell'])
  obtain ⟨h, hh⟩ : ∃ h, w.heap.size = h := ⟨_, rfl⟩
  have HS : Hid (RtS w h #[.string S0, .int .i64 c0] #[.int .i64 0, .int .i64 0, .int .i64 0, .int .i64 0, .int .i64 0, .int .i64 0, .int .i64 0, .string ⟨#[]⟩, .string ⟨#[]⟩] W0) := by show RtS _ _ _ _ _; rw [← hh]; exact HS0.out
  try rw [hW0]
  try rw [hh]
  clear hW0 hh XA HS0 q0 q1
  refine (C1.out W0).mono ?_
  rintro e U0 ⟨rfl, hb⟩
  have HU : Hid (RtS w h #[.string S0, .int .i64 c0] #[.int .i64 0, .int .i64 0, .int .i64 0, .int .i64 0, .int .i64 0, .int .i64 0, .int .i64 0, .string ⟨#[]⟩, .string ⟨#[]⟩] U0) := HS.out.on hb
  have X1 := HU.out.x
  clear hb HS C1
  have HV : Hid (RtS w h #[.string S1, .int .i64 c1] #[.int .i64 0, .int .i64 0, .int .i64 0, .int .i64 0, .int .i64 0, .int .i64 0, .int .i64 0, .string ⟨#[]⟩, .string ⟨#[]⟩] (U0.setRow h #[.string S1, .int .i64 c1])) := HU.out.set _
  have y0 : (U0.setRow h #[.string S1, .int .i64 c1]).cell? ⟨h + 1 + 1 + 1, 0, none⟩ = some _ := (HV.out).a.cell 0
  have v0 : (U0.setRow h #[.string S1, .int .i64 c1]).frozen? ⟨h + 1 + 1 + 1, 0, none⟩ = false := (HV.out).a.free 0
  have HS : Hid (RtS w h #[.string S1, .int .i64 c1] #[.int .i64 x0, .int .i64 0, .int .i64 0, .int .i64 0, .int .i64 0, .int .i64 0, .int .i64 0, .string ⟨#[]⟩, .string ⟨#[]⟩] ((U0.setRow h #[.string S1, .int .i64 c1]).setCell ⟨h + 1 + 1 + 1, 0, none⟩ (.int .i64 x0))) := (HV.out).put 0 (.int .i64 x0)
  obtain ⟨W1, hW1⟩ : ∃ W, ((U0.setRow h #[.string S1, .int .i64 c1]).setCell ⟨h + 1 + 1 + 1, 0, none⟩ (.int .i64 x0)) = W := ⟨_, rfl⟩
  rw [hW1] at HS
  have q0 : W1.cell? ⟨h, 0, none⟩ = some (.string S1) := HS.out.x.cell 0
  have q1 : W1.cell? ⟨h, 1, none⟩ = some (.int .i64 c1) := HS.out.x.cell 1
  go_wp2_with (with_reducible refine wpList_storeBlk rfl 55 _ _ rfl h #[.string S0, .int .i64 c0] #[.string S1, .int .i64 c1] ?hx ?hy X1 rfl ?hi ?h1 ?_)
  try (case hx => rfl)
  try (case hy => rfl)
  try (case hi => kernel_rfl)
  try (case h1 => simp [Value.oneCell'])
  try rw [hW1]
  clear hW1 HU HV X1 q0 q1 y0 v0
  refine (C2.out W1).mono ?_
  rintro e U1 ⟨rfl, hb⟩
  have HU : Hid (RtS w h #[.string S1, .int .i64 c1] #[.int .i64 x0, .int .i64 0, .int .i64 0, .int .i64 0, .int .i64 0, .int .i64 0, .int .i64 0, .string ⟨#[]⟩, .string ⟨#[]⟩] U1) := HS.out.on hb
  have X1 := HU.out.x
  clear hb HS C2
  have HV : Hid (RtS w h #[.string S2, .int .i64 c2] #[.int .i64 x0, .int .i64 0, .int .i64 0, .int .i64 0, .int .i64 0, .int .i64 0, .int .i64 0, .string ⟨#[]⟩, .string ⟨#[]⟩] (U1.setRow h #[.string S2, .int .i64 c2])) := HU.out.set _
  have y1 : (U1.setRow h #[.string S2, .int .i64 c2]).cell? ⟨h + 1 + 1 + 1, 1, none⟩ = some _ := (HV.out).a.cell 1
  have v1 : (U1.setRow h #[.string S2, .int .i64 c2]).frozen? ⟨h + 1 + 1 + 1, 1, none⟩ = false := (HV.out).a.free 1
  have y2 : ((U1.setRow h #[.string S2, .int .i64 c2]).setCell ⟨h + 1 + 1 + 1, 1, none⟩ (.int .i64 x1)).cell? ⟨h + 1 + 1 + 1, 2, none⟩ = some _ := ((HV.out).put 1 (.int .i64 x1)).a.cell 2
  have v2 : ((U1.setRow h #[.string S2, .int .i64 c2]).setCell ⟨h + 1 + 1 + 1, 1, none⟩ (.int .i64 x1)).frozen? ⟨h + 1 + 1 + 1, 2, none⟩ = false := ((HV.out).put 1 (.int .i64 x1)).a.free 2
  have HS : Hid (RtS w h #[.string S2, .int .i64 c2] #[.int .i64 x0, .int .i64 x1, .int .i64 x2, .int .i64 0, .int .i64 0, .int .i64 0, .int .i64 0, .string ⟨#[]⟩, .string ⟨#[]⟩] (((U1.setRow h #[.string S2, .int .i64 c2]).setCell ⟨h + 1 + 1 + 1, 1, none⟩ (.int .i64 x1)).setCell ⟨h + 1 + 1 + 1, 2, none⟩ (.int .i64 x2))) := ((HV.out).put 1 (.int .i64 x1)).put 2 (.int .i64 x2)
  obtain ⟨W2, hW2⟩ : ∃ W, (((U1.setRow h #[.string S2, .int .i64 c2]).setCell ⟨h + 1 + 1 + 1, 1, none⟩ (.int .i64 x1)).setCell ⟨h + 1 + 1 + 1, 2, none⟩ (.int .i64 x2)) = W := ⟨_, rfl⟩
  rw [hW2] at HS
  have q0 : W2.cell? ⟨h, 0, none⟩ = some (.string S2) := HS.out.x.cell 0
  have q1 : W2.cell? ⟨h, 1, none⟩ = some (.int .i64 c2) := HS.out.x.cell 1
  go_wp2_with (with_reducible refine wpList_storeBlk rfl 55 _ _ rfl h #[.string S1, .int .i64 c1] #[.string S2, .int .i64 c2] ?hx ?hy X1 rfl ?hi ?h1 ?_)
  try (case hx => rfl)
  try (case hy => rfl)
  try (case hi => kernel_rfl)
  try (case h1 => simp [Value.oneCell'])
  try rw [hW2]
  clear hW2 HU HV X1 q0 q1 y1 v1 y2 v2
  refine (C3.out W2).mono ?_
  rintro e U2 ⟨rfl, hb⟩
  have HU : Hid (RtS w h #[.string S2, .int .i64 c2] #[.int .i64 x0, .int .i64 x1, .int .i64 x2, .int .i64 0, .int .i64 0, .int .i64 0, .int .i64 0, .string ⟨#[]⟩, .string ⟨#[]⟩] U2) := HS.out.on hb
  have X1 := HU.out.x
  clear hb HS C3
  have HV : Hid (RtS w h #[.string S3, .int .i64 c3] #[.int .i64 x0, .int .i64 x1, .int .i64 x2, .int .i64 0, .int .i64 0, .int .i64 0, .int .i64 0, .string ⟨#[]⟩, .string ⟨#[]⟩] (U2.setRow h #[.string S3, .int .i64 c3])) := HU.out.set _
  have y3 : (U2.setRow h #[.string S3, .int .i64 c3]).cell? ⟨h + 1 + 1 + 1, 3, none⟩ = some _ := (HV.out).a.cell 3
  have v3 : (U2.setRow h #[.string S3, .int .i64 c3]).frozen? ⟨h + 1 + 1 + 1, 3, none⟩ = false := (HV.out).a.free 3
  have y4 : ((U2.setRow h #[.string S3, .int .i64 c3]).setCell ⟨h + 1 + 1 + 1, 3, none⟩ (.int .i64 x3)).cell? ⟨h + 1 + 1 + 1, 4, none⟩ = some _ := ((HV.out).put 3 (.int .i64 x3)).a.cell 4
  have v4 : ((U2.setRow h #[.string S3, .int .i64 c3]).setCell ⟨h + 1 + 1 + 1, 3, none⟩ (.int .i64 x3)).frozen? ⟨h + 1 + 1 + 1, 4, none⟩ = false := ((HV.out).put 3 (.int .i64 x3)).a.free 4
  have HS : Hid (RtS w h #[.string S3, .int .i64 c3] #[.int .i64 x0, .int .i64 x1, .int .i64 x2, .int .i64 x3, .int .i64 x4, .int .i64 0, .int .i64 0, .string ⟨#[]⟩, .string ⟨#[]⟩] (((U2.setRow h #[.string S3, .int .i64 c3]).setCell ⟨h + 1 + 1 + 1, 3, none⟩ (.int .i64 x3)).setCell ⟨h + 1 + 1 + 1, 4, none⟩ (.int .i64 x4))) := ((HV.out).put 3 (.int .i64 x3)).put 4 (.int .i64 x4)
  obtain ⟨W3, hW3⟩ : ∃ W, (((U2.setRow h #[.string S3, .int .i64 c3]).setCell ⟨h + 1 + 1 + 1, 3, none⟩ (.int .i64 x3)).setCell ⟨h + 1 + 1 + 1, 4, none⟩ (.int .i64 x4)) = W := ⟨_, rfl⟩
  rw [hW3] at HS
  have q0 : W3.cell? ⟨h, 0, none⟩ = some (.string S3) := HS.out.x.cell 0
  have q1 : W3.cell? ⟨h, 1, none⟩ = some (.int .i64 c3) := HS.out.x.cell 1
  go_wp2_with (with_reducible refine wpList_storeBlk rfl 55 _ _ rfl h #[.string S2, .int .i64 c2] #[.string S3, .int .i64 c3] ?hx ?hy X1 rfl ?hi ?h1 ?_)
  try (case hx => rfl)
  try (case hy => rfl)
  try (case hi => kernel_rfl)
  try (case h1 => simp [Value.oneCell'])
  try rw [hW3]
  clear hW3 HU HV X1 q0 q1 y3 v3 y4 v4
  refine (C4.out W3).mono ?_
  rintro e U3 ⟨rfl, hb⟩
  have HU : Hid (RtS w h #[.string S3, .int .i64 c3] #[.int .i64 x0, .int .i64 x1, .int .i64 x2, .int .i64 x3, .int .i64 x4, .int .i64 0, .int .i64 0, .string ⟨#[]⟩, .string ⟨#[]⟩] U3) := HS.out.on hb
  have X1 := HU.out.x
  clear hb HS C4
  have HV : Hid (RtS w h #[.string S4, .int .i64 c4] #[.int .i64 x0, .int .i64 x1, .int .i64 x2, .int .i64 x3, .int .i64 x4, .int .i64 0, .int .i64 0, .string ⟨#[]⟩, .string ⟨#[]⟩] (U3.setRow h #[.string S4, .int .i64 c4])) := HU.out.set _
  have y5 : (U3.setRow h #[.string S4, .int .i64 c4]).cell? ⟨h + 1 + 1 + 1, 5, none⟩ = some _ := (HV.out).a.cell 5
  have v5 : (U3.setRow h #[.string S4, .int .i64 c4]).frozen? ⟨h + 1 + 1 + 1, 5, none⟩ = false := (HV.out).a.free 5
  have y6 : ((U3.setRow h #[.string S4, .int .i64 c4]).setCell ⟨h + 1 + 1 + 1, 5, none⟩ (.int .i64 x5)).cell? ⟨h + 1 + 1 + 1, 6, none⟩ = some _ := ((HV.out).put 5 (.int .i64 x5)).a.cell 6
  have v6 : ((U3.setRow h #[.string S4, .int .i64 c4]).setCell ⟨h + 1 + 1 + 1, 5, none⟩ (.int .i64 x5)).frozen? ⟨h + 1 + 1 + 1, 6, none⟩ = false := ((HV.out).put 5 (.int .i64 x5)).a.free 6
  have HS : Hid (RtS w h #[.string S4, .int .i64 c4] #[.int .i64 x0, .int .i64 x1, .int .i64 x2, .int .i64 x3, .int .i64 x4, .int .i64 x5, .int .i64 x6, .string ⟨#[]⟩, .string ⟨#[]⟩] (((U3.setRow h #[.string S4, .int .i64 c4]).setCell ⟨h + 1 + 1 + 1, 5, none⟩ (.int .i64 x5)).setCell ⟨h + 1 + 1 + 1, 6, none⟩ (.int .i64 x6))) := ((HV.out).put 5 (.int .i64 x5)).put 6 (.int .i64 x6)
  obtain ⟨W4, hW4⟩ : ∃ W, (((U3.setRow h #[.string S4, .int .i64 c4]).setCell ⟨h + 1 + 1 + 1, 5, none⟩ (.int .i64 x5)).setCell ⟨h + 1 + 1 + 1, 6, none⟩ (.int .i64 x6)) = W := ⟨_, rfl⟩
  rw [hW4] at HS
  have q0 : W4.cell? ⟨h, 0, none⟩ = some (.string S4) := HS.out.x.cell 0
  have q1 : W4.cell? ⟨h, 1, none⟩ = some (.int .i64 c4) := HS.out.x.cell 1
  go_wp2_with (with_reducible refine wpList_storeBlk rfl 55 _ _ rfl h #[.string S3, .int .i64 c3] #[.string S4, .int .i64 c4] ?hx ?hy X1 rfl ?hi ?h1 ?_)
  try (case hx => rfl)
  try (case hy => rfl)
  try (case hi => kernel_rfl)
  try (case h1 => simp [Value.oneCell'])
  try rw [hW4]
  clear hW4 HU HV X1 q0 q1 y5 v5 y6 v6
  refine (C5.out W4).mono ?_
  rintro e U4 ⟨rfl, hb⟩
  have HU : Hid (RtS w h #[.string S4, .int .i64 c4] #[.int .i64 x0, .int .i64 x1, .int .i64 x2, .int .i64 x3, .int .i64 x4, .int .i64 x5, .int .i64 x6, .string ⟨#[]⟩, .string ⟨#[]⟩] U4) := HS.out.on hb
  have X1 := HU.out.x
  clear hb HS C5
  have HV : Hid (RtS w h #[.string S5, .int .i64 c5] #[.int .i64 x0, .int .i64 x1, .int .i64 x2, .int .i64 x3, .int .i64 x4, .int .i64 x5, .int .i64 x6, .string ⟨#[]⟩, .string ⟨#[]⟩] (U4.setRow h #[.string S5, .int .i64 c5])) := HU.out.set _
  have y7 : (U4.setRow h #[.string S5, .int .i64 c5]).cell? ⟨h + 1 + 1 + 1, 7, none⟩ = some _ := (HV.out).a.cell 7
  have v7 : (U4.setRow h #[.string S5, .int .i64 c5]).frozen? ⟨h + 1 + 1 + 1, 7, none⟩ = false := (HV.out).a.free 7
  have HS : Hid (RtS w h #[.string S5, .int .i64 c5] #[.int .i64 x0, .int .i64 x1, .int .i64 x2, .int .i64 x3, .int .i64 x4, .int .i64 x5, .int .i64 x6, .string x7, .string ⟨#[]⟩] ((U4.setRow h #[.string S5, .int .i64 c5]).setCell ⟨h + 1 + 1 + 1, 7, none⟩ (.string x7))) := (HV.out).put 7 (.string x7)
  obtain ⟨W5, hW5⟩ : ∃ W, ((U4.setRow h #[.string S5, .int .i64 c5]).setCell ⟨h + 1 + 1 + 1, 7, none⟩ (.string x7)) = W := ⟨_, rfl⟩
  rw [hW5] at HS
  have q0 : W5.cell? ⟨h, 0, none⟩ = some (.string S5) := HS.out.x.cell 0
  have q1 : W5.cell? ⟨h, 1, none⟩ = some (.int .i64 c5) := HS.out.x.cell 1
  go_wp2_with (with_reducible refine wpList_storeBlk rfl 55 _ _ rfl h #[.string S4, .int .i64 c4] #[.string S5, .int .i64 c5] ?hx ?hy X1 rfl ?hi ?h1 ?_)
  try (case hx => rfl)
  try (case hy => rfl)
  try (case hi => kernel_rfl)
  try (case h1 => simp [Value.oneCell'])
  try rw [hW5]
  clear hW5 HU HV X1 q0 q1 y7 v7
  refine (C6.out W5).mono ?_
  rintro e U5 ⟨rfl, hb⟩
  have HU : Hid (RtS w h #[.string S5, .int .i64 c5] #[.int .i64 x0, .int .i64 x1, .int .i64 x2, .int .i64 x3, .int .i64 x4, .int .i64 x5, .int .i64 x6, .string x7, .string ⟨#[]⟩] U5) := HS.out.on hb
  have X1 := HU.out.x
  clear hb HS C6
  have HV : Hid (RtS w h #[.string S6, .int .i64 c6] #[.int .i64 x0, .int .i64 x1, .int .i64 x2, .int .i64 x3, .int .i64 x4, .int .i64 x5, .int .i64 x6, .string x7, .string ⟨#[]⟩] (U5.setRow h #[.string S6, .int .i64 c6])) := HU.out.set _
  have y8 : (U5.setRow h #[.string S6, .int .i64 c6]).cell? ⟨h + 1 + 1 + 1, 8, none⟩ = some _ := (HV.out).a.cell 8
  have v8 : (U5.setRow h #[.string S6, .int .i64 c6]).frozen? ⟨h + 1 + 1 + 1, 8, none⟩ = false := (HV.out).a.free 8
  have HS : Hid (RtS w h #[.string S6, .int .i64 c6] #[.int .i64 x0, .int .i64 x1, .int .i64 x2, .int .i64 x3, .int .i64 x4, .int .i64 x5, .int .i64 x6, .string x7, .string x8] ((U5.setRow h #[.string S6, .int .i64 c6]).setCell ⟨h + 1 + 1 + 1, 8, none⟩ (.string x8))) := (HV.out).put 8 (.string x8)
  obtain ⟨W6, hW6⟩ : ∃ W, ((U5.setRow h #[.string S6, .int .i64 c6]).setCell ⟨h + 1 + 1 + 1, 8, none⟩ (.string x8)) = W := ⟨_, rfl⟩
  rw [hW6] at HS
  have q0 : W6.cell? ⟨h, 0, none⟩ = some (.string S6) := HS.out.x.cell 0
  have q1 : W6.cell? ⟨h, 1, none⟩ = some (.int .i64 c6) := HS.out.x.cell 1
  go_wp2_with (with_reducible refine wpList_storeBlk rfl 55 _ _ rfl h #[.string S5, .int .i64 c5] #[.string S6, .int .i64 c6] ?hx ?hy X1 rfl ?hi ?h1 ?_)
  try (case hx => rfl)
  try (case hy => rfl)
  try (case hi => kernel_rfl)
  try (case h1 => simp [Value.oneCell'])
  try rw [hW6]
  clear hW6 HU HV X1 q0 q1 y8 v8
  have hS0 : Blk W6.drew 55 h #[.string S6, .int .i64 c6] ∧ Blk W6.drew 37 (h + 1 + 1 + 1) #[.int .i64 x0, .int .i64 x1, .int .i64 x2, .int .i64 x3, .int .i64 x4, .int .i64 x5, .int .i64 x6, .string x7, .string x8] := ⟨(HS.out.on (Below.refl _ _).drew).x, (HS.out.on (Below.refl _ _).drew).a⟩
  have HD : Hid (RtS w h #[.string S6, .int .i64 c6] #[.int .i64 x0, .int .i64 x1, .int .i64 x2, .int .i64 x3, .int .i64 x4, .int .i64 x5, .int .i64 x6, .string x7, .string x8] W6.drew) := HS.out.on (Below.refl _ _).drew
  refine wp_region_noPanic ?_
  refine wp_region_held_drew (S := fun W => Blk W 55 h #[.string S6, .int .i64 c6] ∧ Blk W 37 (h + 1 + 1 + 1) #[.int .i64 x0, .int .i64 x1, .int .i64 x2, .int .i64 x3, .int .i64 x4, .int .i64 x5, .int .i64 x6, .string x7, .string x8]) (by kernel_rfl) (by first | exact trivial | assumption | exact ⟨by assumption, by assumption⟩) (fun hHeld => ?_)
  refine tk 0 (v := .agg #[.string S6, .int .i64 c6]) rfl rfl ?_ ?_
  · intro w' hSw
    exact exec_loadRow 55 _ rfl h #[.string S6, .int .i64 c6] rfl hSw.1 _ Tryz.underlying55 rfl (by kernel_rfl)
  try simp only [Act.put, za, zb, zc]
  refine tk 1 (v := .agg #[.int .i64 x0, .int .i64 x1, .int .i64 x2, .int .i64 x3, .int .i64 x4, .int .i64 x5, .int .i64 x6, .string x7, .string x8]) rfl rfl ?_ ?_
  · intro w' hSw
    exact exec_loadRow 37 _ rfl (h + 1 + 1 + 1) #[.int .i64 x0, .int .i64 x1, .int .i64 x2, .int .i64 x3, .int .i64 x4, .int .i64 x5, .int .i64 x6, .string x7, .string x8] rfl hSw.2 _ Tryz.underlying37 rfl (by kernel_rfl)
  try simp only [Act.put, za, zb, zc]
  have hD := HD.out
  have hlow := hD.low
  refine wpAnyH_ready (rs := [2]) (by kernel_rfl) (by simp) ?_
  refine AllReadyH.cons rfl (fun K hK => ?_) AllReadyH.nil
  refine step_storeRow rfl rfl 55 _ _ rfl (h + 1) #[.string ⟨#[]⟩, .int .i64 0] #[.string S6, .int .i64 c6] rfl rfl hD.z rfl (by kernel_rfl) (by simp [Value.oneCell']) ?_
  refine hK.out _ _ (show _ ∧ _ from ⟨hD.x.setRowOther _ (by omega) _, hD.a.setRowOther _ (by omega) _⟩) (fun hHeld => ?_)
  clear hK K
  refine wpAnyH_ready (rs := [3]) (by kernel_rfl) (by simp) ?_
  refine AllReadyH.cons rfl (fun K hK => ?_) AllReadyH.nil
  refine step_storeRow rfl rfl 37 _ _ rfl (h + 1 + 1) #[.int .i64 0, .int .i64 0, .int .i64 0, .int .i64 0, .int .i64 0, .int .i64 0, .int .i64 0, .string ⟨#[]⟩, .string ⟨#[]⟩] #[.int .i64 x0, .int .i64 x1, .int .i64 x2, .int .i64 x3, .int .i64 x4, .int .i64 x5, .int .i64 x6, .string x7, .string x8] rfl rfl (hD.y.setRowOther _ (by omega) _) rfl (by kernel_rfl) (by simp [Value.oneCell']) ?_
  refine hK.out _ _ (show _ ∧ _ from ⟨(hD.x.setRowOther _ (by omega) _).setRowOther _ (by omega) _, (hD.a.setRowOther _ (by omega) _).setRowOther _ (by omega) _⟩) (fun hHeld => ?_)
  clear hK K
  refine wpAnyH_done (by kernel_rfl) (NoPanic.normal ?_) _
  go_wp2_with fail
  exact bodyPost_rows rfl (h + 1) (h + 1 + 1) #[.string S6, .int .i64 c6] #[.int .i64 x0, .int .i64 x1, .int .i64 x2, .int .i64 x3, .int .i64 x4, .int .i64 x5, .int .i64 x6, .string x7, .string x8] rfl rfl rfl ((hD.z.setRow _).setRowOther _ (by omega) _) ((hD.y.setRowOther _ (by omega) _).setRow _) _ _ Tryz.underlying55 rfl (by kernel_rfl) Tryz.underlying37 rfl (by kernel_rfl) ⟨rfl, below_setRow (below_setRow hD.bel (by omega) _) (by omega) _⟩
end Go.Proofs.YtogbkfakihnbdaaGreatDoor
