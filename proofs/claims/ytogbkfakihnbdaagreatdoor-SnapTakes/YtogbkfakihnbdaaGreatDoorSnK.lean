import Derived.Test.YtogbkfakihnbdaaGreatDoorSnG
/- The code's Take: its closures, readList (layer 13). -/
namespace Go.Proofs.YtogbkfakihnbdaaGreatDoor
open Go.RowKit
set_option linter.unusedSimpArgs false

/-- What the code reads as a node. -/
def readNdC (i : ByteArray × Int) : (ByteArray × Int) × NodeT :=
  ((inTextC (inTextC (inStampC (inStampC i).1).1 65536).1 65536).1,
   ((inStampC i).2, (inStampC (inStampC i).1).2, (inTextC (inStampC (inStampC i).1).1 65536).2, (inTextC (inTextC (inStampC (inStampC i).1).1 65536).1 65536).2))

/-- What the code reads as a list: as many as are told, or till nothing is left. -/
def readLC {α : Type} (rd : ByteArray × Int → (ByteArray × Int) × α) : Nat → ByteArray × Int → (ByteArray × Int) × List α
  | 0, i => (i, [])
  | n + 1, i => if i.1.size = 0 then (i, []) else ((readLC rd n (rd i).1).1, (rd i).2 :: (readLC rd n (rd i).1).2)

/-- What was read so far, the new node's block beside it, the variable that the closure holds. -/
structure RnS (w0 : World) (g hc gb ga : Nat) (cs : Array Value) (i : ByteArray × Int) (W : World) : Prop where
  inn : InAt W g i
  kept : Kept2 g none w0 W
  b : Blk W 47 gb cs
  a : Blk W 47 ga #[.int .i64 0, .int .i64 0, .int .i64 0, .int .i64 0, .string ⟨#[]⟩, .string ⟨#[]⟩]
  cap : Blk W 42 hc #[.pointer (some ⟨g, 0, none⟩)]
  low : w0.heap.size ≤ ga
  up : ga < gb
  ng : g < ga
  nc : hc < ga
  ne : hc ≠ g

theorem RnS.step {w0 : World} {g hc gb ga : Nat} {cs : Array Value} {i i' : ByteArray × Int} {W W' : World} (h : RnS w0 g hc gb ga cs i W) (h2 : InTo W g i' W') : RnS w0 g hc gb ga cs i' W' := by
  have h3 := h.ng
  have h4 := h.up
  exact ⟨h2.1, h.kept.trans h2.2 (Nx.refl _ _), h.b.kept h2.2 (by omega) (by simp), h.a.kept h2.2 (by omega) (by simp), h.cap.kept h2.2 h.ne (by simp), h.low, h.up, h.ng, h.nc, h.ne⟩

theorem RnS.set {w0 : World} {g hc gb ga : Nat} {cs : Array Value} {i : ByteArray × Int} {W : World} (h : RnS w0 g hc gb ga cs i W) (j : Nat) (u : Value) : RnS w0 g hc gb ga (cs.setIfInBounds j u) i (W.setCell ⟨gb, j, none⟩ u) := by
  have h1 := h.ng
  have h2 := h.up
  have h3 := h.low
  have h4 := h.nc
  have G := grown_set W gb j u
  exact ⟨⟨h.inn.1.grown G (fun e => by have := Option.some.inj e; omega), h.inn.2⟩, h.kept.setNew ⟨gb, j, none⟩ (by show _ ≤ gb; omega) u, h.b.setAt j u, h.a.grown G (fun e => by have := Option.some.inj e; omega), h.cap.grown G (fun e => by have := Option.some.inj e; omega), h.low, h.up, h.ng, h.nc, h.ne⟩

set_option maxHeartbeats 4000000 in
set_option maxRecDepth 100000 in
theorem take1_any (g hc : Nat) (i : ByteArray × Int) (w : World) (h : InAt w g i) (hcp : Blk w 42 hc #[.pointer (some ⟨g, 0, none⟩)]) (hne : hc ≠ g) :
    Calls Tryz.prog 14 #[.pointer (some ⟨hc, 0, none⟩)] w fun e w' => e = .returned (.agg (nodeA (readNdC i).2)) ∧ InTo w g (readNdC i).1 w' := by
  obtain ⟨i0, hi0⟩ : ∃ i0, i = i0 := ⟨_, rfl⟩
  obtain ⟨⟨i1, x0, x1⟩, e0⟩ : ∃ p, inStampC i0 = p := ⟨_, rfl⟩
  obtain ⟨⟨i2, x2, x3⟩, e1⟩ : ∃ p, inStampC i1 = p := ⟨_, rfl⟩
  obtain ⟨⟨i3, x4⟩, e2⟩ : ∃ p, inTextC i2 65536 = p := ⟨_, rfl⟩
  obtain ⟨⟨i4, x5⟩, e3⟩ : ∃ p, inTextC i3 65536 = p := ⟨_, rfl⟩
  have hr : readNdC i = (i4, ((x0, x1), (x2, x3), x4, x5)) := by
    unfold readNdC
    simp only [hi0, e0, e1, e2, e3]
  rw [hr]
  simp only [nodeA]
  rw [hi0] at h
  have C0' : ∀ W, InAt W g i0 → _ := fun W hW => istamp_any g i0 W hW
  rw [e0] at C0'
  have C0 : Hid (∀ W, InAt W g i0 → _) := C0'
  have C1' : ∀ W, InAt W g i1 → _ := fun W hW => istamp_any g i1 W hW
  rw [e1] at C1'
  have C1 : Hid (∀ W, InAt W g i1 → _) := C1'
  have C2' : ∀ W, InAt W g i2 → _ := fun W hW => itext_any g i2 65536 W hW
  rw [e2] at C2'
  have C2 : Hid (∀ W, InAt W g i2 → _) := C2'
  have C3' : ∀ W, InAt W g i3 → _ := fun W hW => itext_any g i3 65536 W hW
  rw [e3] at C3'
  have C3 : Hid (∀ W, InAt W g i3 → _) := C3'
  have HL : Hid (g < w.heap.size ∧ hc < w.heap.size ∧ hc ≠ g) := ⟨h.1.lt, hcp.lt, hne⟩
  have HI : Hid (InAt w g i0) := h
  have HC : Hid (Blk w 42 hc #[.pointer (some ⟨g, 0, none⟩)]) := hcp
  clear h hcp hne hr hi0 e0 e1 e2 e3 C0' C1' C2' C3'
  have HS0 : Hid (RnS w g hc (w.heap.size + 1) w.heap.size #[.int .i64 0, .int .i64 0, .int .i64 0, .int .i64 0, .string ⟨#[]⟩, .string ⟨#[]⟩] i0 ((w.alloc (.cells #[.int .i64 0, .int .i64 0, .int .i64 0, .int .i64 0, .string ⟨#[]⟩, .string ⟨#[]⟩] 47)).alloc (.cells #[.int .i64 0, .int .i64 0, .int .i64 0, .int .i64 0, .string ⟨#[]⟩, .string ⟨#[]⟩] 47))) := by
    have hl := HL.out
    exact ⟨(HI.out.on (below_new _ _)).on (below_new _ _), Kept2.ofBelow _ _ ((below_new w _).alloc (by rw [World.size_alloc]; omega) _), Blk.new' _ _ _ _ (by rw [World.size_alloc]), (Blk.new _ _ _).on (below_new _ _), (HC.out.on (below_new _ _)).on (below_new _ _), Nat.le_refl _, Nat.lt_succ_self _, hl.1, hl.2.1, hl.2.2⟩
  have y : ((w.alloc (.cells #[.int .i64 0, .int .i64 0, .int .i64 0, .int .i64 0, .string ⟨#[]⟩, .string ⟨#[]⟩] 47)).alloc (.cells #[.int .i64 0, .int .i64 0, .int .i64 0, .int .i64 0, .string ⟨#[]⟩, .string ⟨#[]⟩] 47)).cell? ⟨hc, 0, none⟩ = some (.pointer (some ⟨g, 0, none⟩)) := HS0.out.cap.cell 0
  go_enter Tryz.func14, Tryz.ntmps14
  go_wp2_with fail
  clear y
  obtain ⟨W0, hW0⟩ : ∃ W0, (w.alloc (.cells #[.int .i64 0, .int .i64 0, .int .i64 0, .int .i64 0, .string ⟨#[]⟩, .string ⟨#[]⟩] 47)).alloc (.cells #[.int .i64 0, .int .i64 0, .int .i64 0, .int .i64 0, .string ⟨#[]⟩, .string ⟨#[]⟩] 47) = W0 := ⟨_, rfl⟩
  obtain ⟨gb, hgb⟩ : ∃ gb, w.heap.size + 1 = gb := ⟨_, rfl⟩
  obtain ⟨ga, hga⟩ : ∃ ga, w.heap.size = ga := ⟨_, rfl⟩
  have HS : Hid (RnS w g hc gb ga #[.int .i64 0, .int .i64 0, .int .i64 0, .int .i64 0, .string ⟨#[]⟩, .string ⟨#[]⟩] i0 W0) := by show RnS _ _ _ _ _ _ _ _; rw [← hW0, ← hgb, ← hga]; exact HS0.out
  try rw [hW0]
  try rw [hgb]
  try rw [hga]
  clear hW0 hgb hga HI HL HC HS0
  refine (C0.out W0 HS.out.inn).mono ?_
  rintro e U0 ⟨rfl, hI⟩
  have HU : Hid (RnS w g hc gb ga #[.int .i64 0, .int .i64 0, .int .i64 0, .int .i64 0, .string ⟨#[]⟩, .string ⟨#[]⟩] i1 U0) := HS.out.step hI
  clear hI HS C0
  have y0 : U0.cell? ⟨gb, 0, none⟩ = some _ := (HU.out).b.cell 0
  have z0 : U0.frozen? ⟨gb, 0, none⟩ = false := (HU.out).b.free 0
  have y1 : (U0.setCell ⟨gb, 0, none⟩ (.int .i64 x0)).cell? ⟨gb, 1, none⟩ = some _ := ((HU.out).set 0 (.int .i64 x0)).b.cell 1
  have z1 : (U0.setCell ⟨gb, 0, none⟩ (.int .i64 x0)).frozen? ⟨gb, 1, none⟩ = false := ((HU.out).set 0 (.int .i64 x0)).b.free 1
  have HS : Hid (RnS w g hc gb ga #[.int .i64 x0, .int .i64 x1, .int .i64 0, .int .i64 0, .string ⟨#[]⟩, .string ⟨#[]⟩] i1 ((U0.setCell ⟨gb, 0, none⟩ (.int .i64 x0)).setCell ⟨gb, 1, none⟩ (.int .i64 x1))) := ((HU.out).set 0 (.int .i64 x0)).set 1 (.int .i64 x1)
  obtain ⟨W1, hW1⟩ : ∃ W, ((U0.setCell ⟨gb, 0, none⟩ (.int .i64 x0)).setCell ⟨gb, 1, none⟩ (.int .i64 x1)) = W := ⟨_, rfl⟩
  rw [hW1] at HS
  have a0 : W1.cell? ⟨hc, 0, none⟩ = some (.pointer (some ⟨g, 0, none⟩)) := HS.out.cap.cell 0
  go_wp2_with fail
  try rw [hW1]
  clear hW1 HU a0 y0 z0 y1 z1
  refine (C1.out W1 HS.out.inn).mono ?_
  rintro e U1 ⟨rfl, hI⟩
  have HU : Hid (RnS w g hc gb ga #[.int .i64 x0, .int .i64 x1, .int .i64 0, .int .i64 0, .string ⟨#[]⟩, .string ⟨#[]⟩] i2 U1) := HS.out.step hI
  clear hI HS C1
  have y2 : U1.cell? ⟨gb, 2, none⟩ = some _ := (HU.out).b.cell 2
  have z2 : U1.frozen? ⟨gb, 2, none⟩ = false := (HU.out).b.free 2
  have y3 : (U1.setCell ⟨gb, 2, none⟩ (.int .i64 x2)).cell? ⟨gb, 3, none⟩ = some _ := ((HU.out).set 2 (.int .i64 x2)).b.cell 3
  have z3 : (U1.setCell ⟨gb, 2, none⟩ (.int .i64 x2)).frozen? ⟨gb, 3, none⟩ = false := ((HU.out).set 2 (.int .i64 x2)).b.free 3
  have HS : Hid (RnS w g hc gb ga #[.int .i64 x0, .int .i64 x1, .int .i64 x2, .int .i64 x3, .string ⟨#[]⟩, .string ⟨#[]⟩] i2 ((U1.setCell ⟨gb, 2, none⟩ (.int .i64 x2)).setCell ⟨gb, 3, none⟩ (.int .i64 x3))) := ((HU.out).set 2 (.int .i64 x2)).set 3 (.int .i64 x3)
  obtain ⟨W2, hW2⟩ : ∃ W, ((U1.setCell ⟨gb, 2, none⟩ (.int .i64 x2)).setCell ⟨gb, 3, none⟩ (.int .i64 x3)) = W := ⟨_, rfl⟩
  rw [hW2] at HS
  have a1 : W2.cell? ⟨hc, 0, none⟩ = some (.pointer (some ⟨g, 0, none⟩)) := HS.out.cap.cell 0
  go_wp2_with fail
  try rw [hW2]
  clear hW2 HU a1 y2 z2 y3 z3
  refine (C2.out W2 HS.out.inn).mono ?_
  rintro e U2 ⟨rfl, hI⟩
  have HU : Hid (RnS w g hc gb ga #[.int .i64 x0, .int .i64 x1, .int .i64 x2, .int .i64 x3, .string ⟨#[]⟩, .string ⟨#[]⟩] i3 U2) := HS.out.step hI
  clear hI HS C2
  have y4 : U2.cell? ⟨gb, 4, none⟩ = some _ := (HU.out).b.cell 4
  have z4 : U2.frozen? ⟨gb, 4, none⟩ = false := (HU.out).b.free 4
  have HS : Hid (RnS w g hc gb ga #[.int .i64 x0, .int .i64 x1, .int .i64 x2, .int .i64 x3, .string x4, .string ⟨#[]⟩] i3 (U2.setCell ⟨gb, 4, none⟩ (.string x4))) := (HU.out).set 4 (.string x4)
  obtain ⟨W3, hW3⟩ : ∃ W, (U2.setCell ⟨gb, 4, none⟩ (.string x4)) = W := ⟨_, rfl⟩
  rw [hW3] at HS
  have a2 : W3.cell? ⟨hc, 0, none⟩ = some (.pointer (some ⟨g, 0, none⟩)) := HS.out.cap.cell 0
  go_wp2_with fail
  try rw [hW3]
  clear hW3 HU a2 y4 z4
  refine (C3.out W3 HS.out.inn).mono ?_
  rintro e U3 ⟨rfl, hI⟩
  have HU : Hid (RnS w g hc gb ga #[.int .i64 x0, .int .i64 x1, .int .i64 x2, .int .i64 x3, .string x4, .string ⟨#[]⟩] i4 U3) := HS.out.step hI
  clear hI HS C3
  have y5 : U3.cell? ⟨gb, 5, none⟩ = some _ := (HU.out).b.cell 5
  have z5 : U3.frozen? ⟨gb, 5, none⟩ = false := (HU.out).b.free 5
  have HS : Hid (RnS w g hc gb ga #[.int .i64 x0, .int .i64 x1, .int .i64 x2, .int .i64 x3, .string x4, .string x5] i4 (U3.setCell ⟨gb, 5, none⟩ (.string x5))) := (HU.out).set 5 (.string x5)
  obtain ⟨W4, hW4⟩ : ∃ W, (U3.setCell ⟨gb, 5, none⟩ (.string x5)) = W := ⟨_, rfl⟩
  rw [hW4] at HS
  have a3 : W4.cell? ⟨hc, 0, none⟩ = some (.pointer (some ⟨g, 0, none⟩)) := HS.out.cap.cell 0
  have q0 : W4.cell? ⟨gb, 0, none⟩ = some (.int .i64 x0) := HS.out.b.cell 0
  have q1 : W4.cell? ⟨gb, 1, none⟩ = some (.int .i64 x1) := HS.out.b.cell 1
  have q2 : W4.cell? ⟨gb, 2, none⟩ = some (.int .i64 x2) := HS.out.b.cell 2
  have q3 : W4.cell? ⟨gb, 3, none⟩ = some (.int .i64 x3) := HS.out.b.cell 3
  have q4 : W4.cell? ⟨gb, 4, none⟩ = some (.string x4) := HS.out.b.cell 4
  have q5 : W4.cell? ⟨gb, 5, none⟩ = some (.string x5) := HS.out.b.cell 5
  have HQ : Hid (Blk W4 47 ga #[.int .i64 0, .int .i64 0, .int .i64 0, .int .i64 0, .string ⟨#[]⟩, .string ⟨#[]⟩]) := HS.out.a
  go_wp2_with (with_reducible refine wpList_storeBlk rfl 47 _ _ rfl ga #[.int .i64 0, .int .i64 0, .int .i64 0, .int .i64 0, .string ⟨#[]⟩, .string ⟨#[]⟩] #[.int .i64 x0, .int .i64 x1, .int .i64 x2, .int .i64 x3, .string x4, .string x5] ?hx ?hy HQ.out rfl ?hi ?h1 ?_)
  try (case hx => rfl)
  try (case hy => rfl)
  try (case hi => kernel_rfl)
  try (case h1 => simp [Value.oneCell'])
  try rw [hW4]
  have hk := HS.out.kept
  have hng := HS.out.ng
  have hlo := HS.out.low
  exact bodyPost_row rfl ga #[.int .i64 x0, .int .i64 x1, .int .i64 x2, .int .i64 x3, .string x4, .string x5] rfl rfl (HS.out.a.setRow _) _ Tryz.underlying47 rfl (by kernel_rfl) ⟨rfl, ⟨HS.out.inn.1.setRowOther _ (by omega) _, HS.out.inn.2⟩, ⟨hk.os, hk.tape, hk.output, by have := hk.size; simpa [World.setRow] using this, fun k a b c => by rw [setRow_other _ _ _ _ (by omega)]; exact hk.block k a b c⟩⟩

set_option maxHeartbeats 4000000 in
set_option maxRecDepth 100000 in
theorem take2_any (g hc : Nat) (i : ByteArray × Int) (w : World) (h : InAt w g i) (hcp : Blk w 42 hc #[.pointer (some ⟨g, 0, none⟩)]) :
    Calls Tryz.prog 17 #[.pointer (some ⟨hc, 0, none⟩)] w fun e w' => e = .returned (.agg (opA (readOpC i).2)) ∧ InTo w g (readOpC i).1 w' := by
  have C' : ∀ W, InAt W g i → _ := fun W hW => readOp_any g i W hW
  obtain ⟨⟨i', x0, ⟨x1, x2⟩, ⟨x3, x4⟩, ⟨x5, x6⟩, x7, x8⟩, hx⟩ : ∃ p, readOpC i = p := ⟨_, rfl⟩
  simp only [hx, opA] at C' ⊢
  have C : Hid (∀ W, InAt W g i → _) := C'
  have HI : Hid (InAt (w.alloc (.cells #[.int .i64 0, .int .i64 0, .int .i64 0, .int .i64 0, .int .i64 0, .int .i64 0, .int .i64 0, .string ⟨#[]⟩, .string ⟨#[]⟩] 37)) g i) := h.on (below_new _ _)
  have HL : Hid (g < w.heap.size) := h.1.lt
  have y : (w.alloc (.cells #[.int .i64 0, .int .i64 0, .int .i64 0, .int .i64 0, .int .i64 0, .int .i64 0, .int .i64 0, .string ⟨#[]⟩, .string ⟨#[]⟩] 37)).cell? ⟨hc, 0, none⟩ = some (.pointer (some ⟨g, 0, none⟩)) := (hcp.on (below_new _ _)).cell 0
  have HZ : Hid (Blk (w.alloc (.cells #[.int .i64 0, .int .i64 0, .int .i64 0, .int .i64 0, .int .i64 0, .int .i64 0, .int .i64 0, .string ⟨#[]⟩, .string ⟨#[]⟩] 37)) 37 w.heap.size #[.int .i64 0, .int .i64 0, .int .i64 0, .int .i64 0, .int .i64 0, .int .i64 0, .int .i64 0, .string ⟨#[]⟩, .string ⟨#[]⟩]) := Blk.new _ _ _
  clear C' hx h hcp
  go_enter Tryz.func17, Tryz.ntmps17
  go_wp2_with fail
  refine (C.out _ HI.out).mono ?_
  rintro e w1 ⟨rfl, h1⟩
  have hl := HL.out
  have X1 : Blk w1 37 w.heap.size #[.int .i64 0, .int .i64 0, .int .i64 0, .int .i64 0, .int .i64 0, .int .i64 0, .int .i64 0, .string ⟨#[]⟩, .string ⟨#[]⟩] := HZ.out.kept h1.2 (by omega) (by simp)
  have h2 : InTo w g i' w1 := InTo.behind (below_new _ _) h1
  clear C HI HZ y h1
  go_wp2_with (with_reducible refine wpList_storeBlk rfl 37 _ _ rfl w.heap.size #[.int .i64 0, .int .i64 0, .int .i64 0, .int .i64 0, .int .i64 0, .int .i64 0, .int .i64 0, .string ⟨#[]⟩, .string ⟨#[]⟩] #[.int .i64 x0, .int .i64 x1, .int .i64 x2, .int .i64 x3, .int .i64 x4, .int .i64 x5, .int .i64 x6, .string x7, .string x8] ?hx ?hy X1 rfl ?hi ?h1 ?_)
  try (case hx => rfl)
  try (case hy => rfl)
  try (case hi => kernel_rfl)
  try (case h1 => simp [Value.oneCell'])
  have hk := h2.2
  exact bodyPost_row rfl w.heap.size #[.int .i64 x0, .int .i64 x1, .int .i64 x2, .int .i64 x3, .int .i64 x4, .int .i64 x5, .int .i64 x6, .string x7, .string x8] rfl rfl (X1.setRow _) _ Tryz.underlying37 rfl (by kernel_rfl) ⟨rfl, ⟨h2.1.1.setRowOther _ (by omega) _, h2.1.2⟩, ⟨hk.os, hk.tape, hk.output, by have := hk.size; simpa [World.setRow] using this, fun k a b c => by rw [setRow_other _ _ _ _ (by omega)]; exact hk.block k a b c⟩⟩

/-- What readList holds: what is read of, the closure's variable. -/
structure RlS (w : World) (g hc : Nat) (i : ByteArray × Int) (W : World) : Prop where
  inn : InAt W g i
  cap : Blk W 42 hc #[.pointer (some ⟨g, 0, none⟩)]
  kept : Kept2 g none w W
  lg : g < w.heap.size
  lc : hc < w.heap.size
  ne : hc ≠ g

theorem RlS.step {w : World} {g hc : Nat} {i i' : ByteArray × Int} {W W' : World} (h : RlS w g hc i W) (h2 : InTo W g i' W') : RlS w g hc i' W' :=
  ⟨h2.1, h.cap.kept h2.2 h.ne (by simp), h.kept.trans h2.2 (Nx.refl _ _), h.lg, h.lc, h.ne⟩

theorem RlS.on {w : World} {g hc : Nat} {i : ByteArray × Int} {W W' : World} (h : RlS w g hc i W) (hb : Below W.heap.size W W') : RlS w g hc i W' :=
  ⟨h.inn.on hb, h.cap.on hb, h.kept.on hb, h.lg, h.lc, h.ne⟩

/-- A row of the call's own grows. -/
theorem RlS.grow {w : World} {g hc : Nat} {i : ByteArray × Int} {W W' : World} {r : Option Nat} (h : RlS w g hc i W) (k : W.grownBy W' r) (hr : ∀ j, r = some j → w.heap.size ≤ j) : RlS w g hc i W' := by
  have h1 := h.lg
  have h2 := h.lc
  refine ⟨⟨h.inn.1.grown k (fun e => by have := hr _ e.symm; omega), h.inn.2⟩, h.cap.grown k (fun e => by have := hr _ e.symm; omega), ⟨k.os.trans h.kept.os, k.tape.trans h.kept.tape, k.output.trans h.kept.output, Nat.le_trans h.kept.size k.size, fun j hj hg hn => ?_⟩, h.lg, h.lc, h.ne⟩
  have hsz := h.kept.size
  rw [k.block j (by omega) (fun e => by have := hr j e.symm; omega)]
  exact h.kept.block j hj hg hn

theorem inNum_le (i : ByteArray × Int) : (inNumP i).2 ≤ 1099511627775 := by
  unfold inNumP
  split
  · exact Nat.zero_le _
  · omega

theorem cellsO_snoc (l : List OpT) (x : OpT) : cellsO (l ++ [x]) = cellsO l ++ (opA x).toList := by
  unfold cellsO
  rw [List.flatMap_append]
  simp

theorem own_kept2 {w w' : World} {B g c n : Nat} {e : TypeId} {v : Value} {xs : List Value} (h : w.ownsRow B e c v n xs) (k : Kept2 g none w w') (hg : g < B) : w'.ownsRow B e c v n xs :=
  owns_same h (fun j hj => k.block j (World.ownsRow.lt h j hj).2 (by have := (World.ownsRow.lt h j hj).1; omega) (by simp))

set_option maxHeartbeats 4000000 in
set_option maxRecDepth 100000 in
theorem rlistN_any (g hc : Nat) (i : ByteArray × Int) (w : World) (h : InAt w g i) (hcp : Blk w 42 hc #[.pointer (some ⟨g, 0, none⟩)]) (hne : hc ≠ g) :
    Calls Tryz.prog 13 #[.pointer (some ⟨g, 0, none⟩), .func (.func 14) #[] #[.pointer (some ⟨hc, 0, none⟩)]] w fun e w' => ∃ v, e = .returned v ∧ OwnN w' w.heap.size v (readLC readNdC (inNumP i).2 (inNumP i).1).2 ∧ InTo w g (readLC readNdC (inNumP i).2 (inNumP i).1).1 w' := by
  obtain ⟨i0, hi, hz0, hz1, hz2⟩ := info_parts Tryz.infoNode
  have C' := inum_any g i w h
  have hN := inNum_le i
  obtain ⟨⟨i1, N⟩, hi1⟩ : ∃ p, inNumP i = p := ⟨_, rfl⟩
  simp only [hi1] at C' hN ⊢
  have C : Hid (Calls _ _ _ _ _) := C'
  have HR0 : Hid (RlS w g hc i w) := ⟨h, hcp, Kept2.refl _ _ _, h.1.lt, hcp.lt, hne⟩
  obtain ⟨⟨fi, fl⟩, hf⟩ : ∃ p, readLC readNdC N i1 = p := ⟨_, rfl⟩
  rw [hf]
  have HF : Hid (readLC readNdC N i1 = (fi, fl)) := hf
  clear C' hi1 h hcp hne hf
  go_enter Tryz.func13, Tryz.ntmps13
  go_wp2_with fail
  refine C.out.mono ?_
  rintro e w1 ⟨rfl, h1⟩
  have HR1 : Hid (RlS w g hc i1 w1) := HR0.out.step h1
  clear C h1 HR0
  go_wp2_with fail
  go_loopw [5, 8] (fun x c wr => ∃ (k : Nat) (ik : ByteArray × Int) (L : List NodeT), k ≤ N ∧ c = .int .i64 k ∧ L.length = k ∧ Hid (OwnN wr w.heap.size x L) ∧ Hid (RlS w g hc ik wr) ∧ Hid ((fi, fl) = ((readLC readNdC (N - k) ik).1, L ++ (readLC readNdC (N - k) ik).2))) (fun _ c _ => N - (intOf c).toNat)
  case atStart => exact ⟨0, i1, [], Nat.zero_le _, rfl, rfl, World.ownsRow_nil _ _ _ _, HR1, by show _ = _; rw [Nat.sub_zero, HF.out]; rfl⟩
  case round =>
    clear HR1 HF
    obtain ⟨k, ik, L, hk, rfl, hLk, HO, HR, HF⟩ := hrel
    by_cases hlt : k < N
    · have b0 : (k : Int) < (N : Int) := by omega
      obtain ⟨d, hd⟩ : ∃ d, N - k = d + 1 := ⟨N - k - 1, by omega⟩
      have hd' : N - (k + 1) = d := by omega
      have hf := HF.out
      rw [hd] at hf
      unfold readLC at hf
      have CR : Hid (Calls _ _ _ _ _) := irest_any g ik wr HR.out.inn
      clear HF
      by_cases hz : ik.1.size = 0
      · rw [if_pos hz] at hf
        obtain ⟨rfl, rfl⟩ : fi = ik ∧ fl = L := ⟨congrArg Prod.fst hf, by have := congrArg Prod.snd hf; simpa using this⟩
        have b1 : (fi.1.size : Int) = 0 := by omega
        clear hf
        go_wp2_with fail
        refine CR.out.mono ?_
        rintro e w2 ⟨rfl, rfl⟩
        clear CR
        go_wp2_with fail
        go_ret
        exact ⟨_, rfl, HO.out, HR.out.inn, HR.out.kept⟩
      · rw [if_neg hz] at hf
        have b1 : ((ik.1.size : Int) == 0) = false := by rw [beq_eq_false_iff_ne]; omega
        have CT' : ∀ W, RlS w g hc ik W → _ := fun W hW => take1_any g hc ik W hW.inn hW.cap hW.ne
        obtain ⟨⟨j1, ⟨⟨x0, x1⟩, ⟨x2, x3⟩, x4, x5⟩⟩, hrd⟩ : ∃ p, readNdC ik = p := ⟨_, rfl⟩
        simp only [hrd] at hf CT'
        simp only [nodeA] at CT'
        have CT : Hid (∀ W, RlS w g hc ik W → _) := CT'
        have HF' : Hid ((fi, fl) = ((readLC readNdC (N - (k + 1)) j1).1, (L ++ [((x0, x1), (x2, x3), x4, x5)]) ++ (readLC readNdC (N - (k + 1)) j1).2)) := by show _ = _; rw [hd', hf]; simp
        clear CT' hrd hf
        go_wp2_with fail
        refine CR.out.mono ?_
        rintro e w2 ⟨rfl, rfl⟩
        clear CR
        go_wp2_with fail
        refine (CT.out _ HR.out).mono ?_
        rintro e w3 ⟨rfl, h3⟩
        have HR3 : Hid (RlS w g hc j1 w3) := HR.out.step h3
        have HO3 : Hid (OwnN w3 w.heap.size u5 L) := own_kept2 HO.out h3.2 (by have := HR.out.lg; exact this)
        have hsz := HR3.out.kept.size
        clear CT h3 HO HR
        have hown := HO3.out
        unfold OwnN at hown
        go_wp2_with (at_builtin; refine wpList_appR2 rfl (.tmp 14) (.tmp 17) 23 rfl w.heap.size 47 i0 _ 6 64 Tryz.underlying23 hi hz0 hz1 hz2 rfl (by decide) w3 u5 _ _ rfl hown #[.int .i64 x0, .int .i64 x1, .int .i64 x2, .int .i64 x3, .string x4, .string x5] rfl (nodeA_one ((x0, x1), (x2, x3), x4, x5)) rfl (by omega) (by unfold maxLen; omega) hsz ?_)
        intro v4 w4 hown4 hg4
        have HO4 : Hid (OwnN w4 w.heap.size v4 (L ++ [((x0, x1), (x2, x3), x4, x5)])) := by
          show OwnN _ _ _ _
          unfold OwnN; rw [cellsN_snoc, List.length_append, hLk]; exact hown4
        have HR4 : Hid (RlS w g hc j1 w4) := (HR3.out.on (below_new _ _)).grow hg4 (fun j hj => (World.ownsRow.lt hown j hj).1)
        clear hown4 hg4 hown HO3 HR3
        go_wp2_with fail
        refine ⟨?_, ?_⟩
        · first
          | exact ⟨k + 1, j1, L ++ [((x0, x1), (x2, x3), x4, x5)], by omega, by go_num, by rw [List.length_append, hLk]; rfl, HO4, HR4, HF'⟩
          | ((repeat apply Exists.intro); refine ⟨?_, rfl⟩; exact ⟨k + 1, j1, L ++ [((x0, x1), (x2, x3), x4, x5)], by omega, by go_num, by rw [List.length_append, hLk]; rfl, HO4, HR4, HF'⟩)
        · simp [intOf] <;> omega
    · obtain rfl : k = N := by omega
      have b0 : ¬ ((k : Int) < (k : Int)) := by omega
      have hf := HF.out
      rw [Nat.sub_self] at hf
      obtain ⟨rfl, rfl⟩ : fi = ik ∧ fl = L := ⟨congrArg Prod.fst hf, by have := congrArg Prod.snd hf; simpa [readLC] using this⟩
      go_wp2_with fail
      go_ret
      exact ⟨_, rfl, HO.out, HR.out.inn, HR.out.kept⟩

set_option maxHeartbeats 4000000 in
set_option maxRecDepth 100000 in
theorem rlistO_any (g hc : Nat) (i : ByteArray × Int) (w : World) (h : InAt w g i) (hcp : Blk w 42 hc #[.pointer (some ⟨g, 0, none⟩)]) (hne : hc ≠ g) :
    Calls Tryz.prog 16 #[.pointer (some ⟨g, 0, none⟩), .func (.func 17) #[] #[.pointer (some ⟨hc, 0, none⟩)]] w fun e w' => ∃ v, e = .returned v ∧ OwnO w' w.heap.size v (readLC readOpC (inNumP i).2 (inNumP i).1).2 ∧ InTo w g (readLC readOpC (inNumP i).2 (inNumP i).1).1 w' := by
  obtain ⟨i0, hi, hz0, hz1, hz2⟩ := info_parts Tryz.infoOp
  have C' := inum_any g i w h
  have hN := inNum_le i
  obtain ⟨⟨i1, N⟩, hi1⟩ : ∃ p, inNumP i = p := ⟨_, rfl⟩
  simp only [hi1] at C' hN ⊢
  have C : Hid (Calls _ _ _ _ _) := C'
  have HR0 : Hid (RlS w g hc i w) := ⟨h, hcp, Kept2.refl _ _ _, h.1.lt, hcp.lt, hne⟩
  obtain ⟨⟨fi, fl⟩, hf⟩ : ∃ p, readLC readOpC N i1 = p := ⟨_, rfl⟩
  rw [hf]
  have HF : Hid (readLC readOpC N i1 = (fi, fl)) := hf
  clear C' hi1 h hcp hne hf
  go_enter Tryz.func16, Tryz.ntmps16
  go_wp2_with fail
  refine C.out.mono ?_
  rintro e w1 ⟨rfl, h1⟩
  have HR1 : Hid (RlS w g hc i1 w1) := HR0.out.step h1
  clear C h1 HR0
  go_wp2_with fail
  go_loopw [5, 8] (fun x c wr => ∃ (k : Nat) (ik : ByteArray × Int) (L : List OpT), k ≤ N ∧ c = .int .i64 k ∧ L.length = k ∧ Hid (OwnO wr w.heap.size x L) ∧ Hid (RlS w g hc ik wr) ∧ Hid ((fi, fl) = ((readLC readOpC (N - k) ik).1, L ++ (readLC readOpC (N - k) ik).2))) (fun _ c _ => N - (intOf c).toNat)
  case atStart => exact ⟨0, i1, [], Nat.zero_le _, rfl, rfl, World.ownsRow_nil _ _ _ _, HR1, by show _ = _; rw [Nat.sub_zero, HF.out]; rfl⟩
  case round =>
    clear HR1 HF
    obtain ⟨k, ik, L, hk, rfl, hLk, HO, HR, HF⟩ := hrel
    by_cases hlt : k < N
    · have b0 : (k : Int) < (N : Int) := by omega
      obtain ⟨d, hd⟩ : ∃ d, N - k = d + 1 := ⟨N - k - 1, by omega⟩
      have hd' : N - (k + 1) = d := by omega
      have hf := HF.out
      rw [hd] at hf
      unfold readLC at hf
      have CR : Hid (Calls _ _ _ _ _) := irest_any g ik wr HR.out.inn
      clear HF
      by_cases hz : ik.1.size = 0
      · rw [if_pos hz] at hf
        obtain ⟨rfl, rfl⟩ : fi = ik ∧ fl = L := ⟨congrArg Prod.fst hf, by have := congrArg Prod.snd hf; simpa using this⟩
        have b1 : (fi.1.size : Int) = 0 := by omega
        clear hf
        go_wp2_with fail
        refine CR.out.mono ?_
        rintro e w2 ⟨rfl, rfl⟩
        clear CR
        go_wp2_with fail
        go_ret
        exact ⟨_, rfl, HO.out, HR.out.inn, HR.out.kept⟩
      · rw [if_neg hz] at hf
        have b1 : ((ik.1.size : Int) == 0) = false := by rw [beq_eq_false_iff_ne]; omega
        have CT' : ∀ W, RlS w g hc ik W → _ := fun W hW => take2_any g hc ik W hW.inn hW.cap
        obtain ⟨⟨j1, ⟨x0, ⟨x1, x2⟩, ⟨x3, x4⟩, ⟨x5, x6⟩, x7, x8⟩⟩, hrd⟩ : ∃ p, readOpC ik = p := ⟨_, rfl⟩
        simp only [hrd] at hf CT'
        simp only [opA] at CT'
        have CT : Hid (∀ W, RlS w g hc ik W → _) := CT'
        have HF' : Hid ((fi, fl) = ((readLC readOpC (N - (k + 1)) j1).1, (L ++ [(x0, (x1, x2), (x3, x4), (x5, x6), x7, x8)]) ++ (readLC readOpC (N - (k + 1)) j1).2)) := by show _ = _; rw [hd', hf]; simp
        clear CT' hrd hf
        go_wp2_with fail
        refine CR.out.mono ?_
        rintro e w2 ⟨rfl, rfl⟩
        clear CR
        go_wp2_with fail
        refine (CT.out _ HR.out).mono ?_
        rintro e w3 ⟨rfl, h3⟩
        have HR3 : Hid (RlS w g hc j1 w3) := HR.out.step h3
        have HO3 : Hid (OwnO w3 w.heap.size u5 L) := own_kept2 HO.out h3.2 (by have := HR.out.lg; exact this)
        have hsz := HR3.out.kept.size
        clear CT h3 HO HR
        have hown := HO3.out
        unfold OwnO at hown
        go_wp2_with (at_builtin; refine wpList_appR2 rfl (.tmp 14) (.tmp 17) 24 rfl w.heap.size 37 i0 _ 9 88 Tryz.underlying24 hi hz0 hz1 hz2 rfl (by decide) w3 u5 _ _ rfl hown #[.int .i64 x0, .int .i64 x1, .int .i64 x2, .int .i64 x3, .int .i64 x4, .int .i64 x5, .int .i64 x6, .string x7, .string x8] rfl (opA_one (x0, (x1, x2), (x3, x4), (x5, x6), x7, x8)) rfl (by omega) (by unfold maxLen; omega) hsz ?_)
        intro v4 w4 hown4 hg4
        have HO4 : Hid (OwnO w4 w.heap.size v4 (L ++ [(x0, (x1, x2), (x3, x4), (x5, x6), x7, x8)])) := by
          show OwnO _ _ _ _
          unfold OwnO; rw [cellsO_snoc, List.length_append, hLk]; exact hown4
        have HR4 : Hid (RlS w g hc j1 w4) := (HR3.out.on (below_new _ _)).grow hg4 (fun j hj => (World.ownsRow.lt hown j hj).1)
        clear hown4 hg4 hown HO3 HR3
        go_wp2_with fail
        refine ⟨?_, ?_⟩
        · first
          | exact ⟨k + 1, j1, L ++ [(x0, (x1, x2), (x3, x4), (x5, x6), x7, x8)], by omega, by go_num, by rw [List.length_append, hLk]; rfl, HO4, HR4, HF'⟩
          | ((repeat apply Exists.intro); refine ⟨?_, rfl⟩; exact ⟨k + 1, j1, L ++ [(x0, (x1, x2), (x3, x4), (x5, x6), x7, x8)], by omega, by go_num, by rw [List.length_append, hLk]; rfl, HO4, HR4, HF'⟩)
        · simp [intOf] <;> omega
    · obtain rfl : k = N := by omega
      have b0 : ¬ ((k : Int) < (k : Int)) := by omega
      have hf := HF.out
      rw [Nat.sub_self] at hf
      obtain ⟨rfl, rfl⟩ : fi = ik ∧ fl = L := ⟨congrArg Prod.fst hf, by have := congrArg Prod.snd hf; simpa [readLC] using this⟩
      go_wp2_with fail
      go_ret
      exact ⟨_, rfl, HO.out, HR.out.inn, HR.out.kept⟩

end Go.Proofs.YtogbkfakihnbdaaGreatDoor

/- The code's Take (layer 13). -/
namespace Go.Proofs.YtogbkfakihnbdaaGreatDoor
open Go.RowKit
set_option linter.unusedSimpArgs false

theorem numberP_less (i : ByteArray × Int) (n : Nat) : (numberP i n).1.1.size + n ≤ i.1.size ∨ (numberP i n).1.1.size = 0 := by
  unfold numberP
  split
  · exact .inr rfl
  · rename_i h
    refine .inl ?_
    simp only [ByteArray.size_extract]
    have : ¬ i.1.size < n := fun k => h (.inr k)
    omega

theorem inNumP_less (i : ByteArray × Int) : (inNumP i).1.1.size + 6 ≤ i.1.size ∨ (inNumP i).1.1.size = 0 := by
  unfold inNumP
  split
  · exact .inr rfl
  · exact numberP_less i 6

theorem inStampC_less (i : ByteArray × Int) : (inStampC i).1.1.size + 7 ≤ i.1.size ∨ (inStampC i).1.1.size = 0 := by
  have h0 : (stampI i).1.size ≤ i.1.size := by
    unfold stampI
    split
    · exact Nat.zero_le _
    · exact Nat.le_refl _
  have h1 := inNumP_less (stampI i)
  have h2 := numberP_less (inNumP (stampI i)).1 1
  have h3 := numberP_size (inNumP (stampI i)).1 1
  show (numberP (inNumP (stampI i)).1 1).1.1.size + 7 ≤ _ ∨ (numberP (inNumP (stampI i)).1 1).1.1.size = 0
  omega

theorem takeI_size (i : ByteArray × Int) (n : Nat) : (takeI i n).1.size ≤ i.1.size := by
  unfold takeI
  split
  · exact Nat.zero_le _
  · simp only [ByteArray.size_extract]; omega

theorem inTextC_less (i : ByteArray × Int) (most : Int) : (inTextC i most).1.1.size ≤ i.1.size := by
  have h := numberP_size i 2
  unfold inTextC
  split
  · exact Nat.zero_le _
  · exact Nat.le_trans (takeI_size _ _) h

theorem readNdC_less (i : ByteArray × Int) : (readNdC i).1.1.size + 7 ≤ i.1.size ∨ (readNdC i).1.1.size = 0 := by
  have h1 := inStampC_less i
  have h2 := inStampC_less (inStampC i).1
  have h3 := inTextC_less (inStampC (inStampC i).1).1 65536
  have h4 := inTextC_less (inTextC (inStampC (inStampC i).1).1 65536).1 65536
  show (inTextC (inTextC (inStampC (inStampC i).1).1 65536).1 65536).1.1.size + 7 ≤ _ ∨ (inTextC (inTextC (inStampC (inStampC i).1).1 65536).1 65536).1.1.size = 0
  omega

theorem readOpC_less (i : ByteArray × Int) : (readOpC i).1.1.size + 7 ≤ i.1.size ∨ (readOpC i).1.1.size = 0 := by
  unfold readOpC
  simp only
  have h0 := numberP_size i 1
  generalize (numberP i 1).1 = j0 at *
  have h1 := inStampC_less j0
  generalize (inStampC j0).1 = j1 at *
  have h2 := inStampC_less j1
  generalize (inStampC j1).1 = j2 at *
  have h3 := inStampC_less j2
  generalize (inStampC j2).1 = j3 at *
  have h4 := inTextC_less j3 65536
  generalize (inTextC j3 65536).1 = j4 at *
  have h5 := inTextC_less j4 65536
  omega

theorem readLC_len {α : Type} (rd : ByteArray × Int → (ByteArray × Int) × α) (hc : ∀ i, (rd i).1.1.size + 7 ≤ i.1.size ∨ (rd i).1.1.size = 0) : ∀ (n : Nat) (i : ByteArray × Int), (readLC rd n i).2.length * 7 ≤ i.1.size + 6 := by
  intro n
  induction n with
  | zero => intro i; unfold readLC; simp
  | succ n ih =>
    intro i
    unfold readLC
    split
    · simp
    · rename_i h
      simp only [List.length_cons]
      have h1 := ih (rd i).1
      rcases hc i with h2 | h2
      · omega
      · rcases Nat.eq_zero_or_pos n with h0 | h0
        · subst h0; unfold readLC; simp; omega
        · obtain ⟨m, rfl⟩ : ∃ m, n = m + 1 := ⟨n - 1, by omega⟩
          unfold readLC
          rw [if_pos h2]
          simp
          omega

theorem readLC_all {α : Type} (rd : ByteArray × Int → (ByteArray × Int) × α) (P : α → Prop) (hp : ∀ i, P (rd i).2) : ∀ (n : Nat) (i : ByteArray × Int), ∀ x ∈ (readLC rd n i).2, P x := by
  intro n
  induction n with
  | zero => intro i x hx; unfold readLC at hx; exact absurd hx List.not_mem_nil
  | succ n ih =>
    intro i x hx
    unfold readLC at hx
    split at hx
    · exact absurd hx List.not_mem_nil
    · rcases List.mem_cons.1 hx with rfl | hx
      · exact hp i
      · exact ih _ x hx

theorem readLC_size {α : Type} (rd : ByteArray × Int → (ByteArray × Int) × α) (hc : ∀ i, (rd i).1.1.size ≤ i.1.size) : ∀ (n : Nat) (i : ByteArray × Int), (readLC rd n i).1.1.size ≤ i.1.size := by
  intro n
  induction n with
  | zero => intro i; unfold readLC; exact Nat.le_refl _
  | succ n ih =>
    intro i
    unfold readLC
    split
    · exact Nat.le_refl _
    · exact Nat.le_trans (ih _) (hc i)

/-- What the code reads as a tree. -/
def readSC (s : ByteArray) : TreeT :=
  ((readLC readNdC (inNumP (inStampC (s, 0)).1).2 (inNumP (inStampC (s, 0)).1).1).2,
   (readLC readOpC (inNumP (readLC readNdC (inNumP (inStampC (s, 0)).1).2 (inNumP (inStampC (s, 0)).1).1).1).2 (inNumP (readLC readNdC (inNumP (inStampC (s, 0)).1).2 (inNumP (inStampC (s, 0)).1).1).1).1).2,
   (inStampC (s, 0)).2)

theorem readSC_few (s : ByteArray) (hs : s.size ≤ 65536) : (readSC s).1.length ≤ 9364 ∧ (readSC s).2.1.length ≤ 9364 := by
  have n7 : ∀ i, (readNdC i).1.1.size ≤ i.1.size := fun i => by rcases readNdC_less i with h | h <;> omega
  have h0 : (inStampC (s, 0)).1.1.size ≤ s.size := by
    have h : (inStampC (s, 0)).1.1.size + 7 ≤ s.size ∨ (inStampC (s, 0)).1.1.size = 0 := inStampC_less (s, 0)
    omega
  have h1 := inNumP_size (inStampC (s, 0)).1
  have h2 := readLC_len readNdC readNdC_less (inNumP (inStampC (s, 0)).1).2 (inNumP (inStampC (s, 0)).1).1
  have h3 := readLC_size readNdC n7 (inNumP (inStampC (s, 0)).1).2 (inNumP (inStampC (s, 0)).1).1
  have h4 := inNumP_size (readLC readNdC (inNumP (inStampC (s, 0)).1).2 (inNumP (inStampC (s, 0)).1).1).1
  have h5 := readLC_len readOpC readOpC_less (inNumP (readLC readNdC (inNumP (inStampC (s, 0)).1).2 (inNumP (inStampC (s, 0)).1).1).1).2 (inNumP (readLC readNdC (inNumP (inStampC (s, 0)).1).2 (inNumP (inStampC (s, 0)).1).1).1).1
  refine ⟨?_, ?_⟩
  · show (readLC readNdC _ _).2.length ≤ _; omega
  · show (readLC readOpC _ _).2.length ≤ _; omega

theorem readNdC_sizes (i : ByteArray × Int) : (readNdC i).2.2.2.1.size ≤ 1048576 ∧ (readNdC i).2.2.2.2.size ≤ 9223372036854775807 := by
  unfold readNdC
  simp only
  exact ⟨inTextC_size _ _, Nat.le_trans (inTextC_size _ _) (by decide)⟩

theorem readSC_sizes (s : ByteArray) : (∀ k, k < (readSC s).1.length → (nL (readSC s).1 k).2.2.1.size ≤ 1048576 ∧ (nL (readSC s).1 k).2.2.2.size ≤ 9223372036854775807) ∧ (∀ k, k < (readSC s).2.1.length → (oL (readSC s).2.1 k).2.2.2.2.1.size ≤ 1048576 ∧ (oL (readSC s).2.1 k).2.2.2.2.2.size ≤ 9223372036854775807) := by
  refine ⟨fun k hk => ?_, fun k hk => ?_⟩
  · exact readLC_all readNdC (fun x => x.2.2.1.size ≤ 1048576 ∧ x.2.2.2.size ≤ 9223372036854775807) readNdC_sizes _ _ _ (nL_mem _ k hk)
  · have h : oL (readSC s).2.1 k ∈ (readSC s).2.1 := by rw [oL_get _ k hk]; exact List.getElem_mem hk
    exact readLC_all readOpC (fun x => x.2.2.2.2.1.size ≤ 1048576 ∧ x.2.2.2.2.2.size ≤ 9223372036854775807) readOpC_sizes _ _ _ h

theorem NodesAt.rowK {w : World} {a : Option Addr} {n : Nat} {l : List NodeT} {t : TypeId} {g : Nat} {cs : Array Value} (h : NodesAt w a n l) (hb : Blk w t g cs) (hc : cs.size = 4) (cs' : Array Value) : NodesAt (w.setRow g cs') a n l := by
  obtain ⟨hl, hr⟩ := h
  refine ⟨hl, ?_⟩
  rcases hr with h0 | ⟨b, off, ha, hcl⟩
  · exact .inl h0
  · refine .inr ⟨b, off, ha, fun i hi k hk => ?_⟩
    obtain ⟨x, h1, h2⟩ := hcl i hi k hk
    refine ⟨x, h1, ?_⟩
    by_cases e2 : b = g
    · subst e2
      obtain ⟨x5, h3, h4⟩ := hcl i hi 5 (by decide)
      rw [hb.cell, Array.getElem?_eq_none (by omega)] at h4
      cases h4
    · rw [World.cell?_of_block (w := w) (setRow_other w g b cs' e2)]; exact h2

theorem OpsAt.rowK {w : World} {a : Option Addr} {n : Nat} {l : List OpT} {t : TypeId} {g : Nat} {cs : Array Value} (h : OpsAt w a n l) (hb : Blk w t g cs) (hc : cs.size = 4) (cs' : Array Value) : OpsAt (w.setRow g cs') a n l := by
  obtain ⟨hl, hr⟩ := h
  refine ⟨hl, ?_⟩
  rcases hr with h0 | ⟨b, off, ha, hcl⟩
  · exact .inl h0
  · refine .inr ⟨b, off, ha, fun i hi k hk => ?_⟩
    obtain ⟨x, h1, h2⟩ := hcl i hi k hk
    refine ⟨x, h1, ?_⟩
    by_cases e2 : b = g
    · subst e2
      obtain ⟨x5, h3, h4⟩ := hcl i hi 8 (by decide)
      rw [hb.cell, Array.getElem?_eq_none (by omega)] at h4
      cases h4
    · rw [World.cell?_of_block (w := w) (setRow_other w g b cs' e2)]; exact h2

theorem own_setCell {w : World} {B hx c n j : Nat} {e : TypeId} {v u : Value} {xs : List Value} (h : w.ownsRow B e c v n xs) (hg : hx < B) : (w.setCell ⟨hx, j, none⟩ u).ownsRow B e c v n xs :=
  owns_same h (fun k hk => (grown_set w hx j u).block k (World.ownsRow.lt h k hk).2 (fun e => by have := (World.ownsRow.lt h k hk).1; have := Option.some.inj e; omega))

/-- What Take answers: the tree that was read, if it is put as the same bytes. -/
def TakeOut (w' : World) (l : List NodeT) (ops : List OpT) (b1 b2 : Int) (P s : ByteArray) (Er : Int) (e : Ending) : Prop :=
  ∃ a1 c1 a2 c2, NodesAt w' a1 l.length l ∧ OpsAt w' a2 ops.length ops ∧ e = .returned (.tuple #[.agg (if Er ≠ 0 ∨ P ≠ s then #[.slice none 0 0, .slice none 0 0, .int .i64 0, .int .i64 0] else #[.slice a1 l.length c1, .slice a2 ops.length c2, .int .i64 b1, .int .i64 b2]), .int .i64 (if Er ≠ 0 ∨ P ≠ s then 91 else 0)])

set_option maxHeartbeats 8000000 in
set_option maxRecDepth 100000 in
theorem take_any (M : OpT → Bool) (hM : ∀ o, M o = true ↔ MayO o) (s : ByteArray) (w : World) (hs : s.size ≤ 65536) (hG : Glob8 w) (l : List NodeT) (ops : List OpT) (b1 b2 : Int) (hx : readSC s = (l, ops, (b1, b2))) (D E : Bool) (HD : Hid (D = true ↔ (l.length ≤ 512 ∧ RiseN l ∧ (∀ k, k < l.length → FixH (b1, b2) (nL l k)) ∧ FixC l))) (HE : Hid (E = true ↔ RiseO ops)) (P : ByteArray) (Er : Int) (hP : putSP M D E (l, ops, (b1, b2)) = (P, Er)) :
    Calls Tryz.prog 5 #[.string s] w fun e w' => Below w.heap.size w w' ∧ TakeOut w' l ops b1 b2 P s Er e := by
  have hmf : ∀ (fn : Fn) (first cap : Array Value) (w : World), (Instr.makeFunc fn first cap).run Tryz.prog w = .ok (.func fn first cap) w := fun _ _ _ _ => rfl
  have hfew := readSC_few s hs
  have hsz := readSC_sizes s
  rw [hx] at hfew hsz
  simp only at hfew hsz
  have CP : Hid (∀ W a1 a2 c1 c2, Below w.heap.size w W → NodesAt W a1 l.length l → OpsAt W a2 ops.length ops → Calls Tryz.prog 8 #[.agg #[.slice a1 l.length c1, .slice a2 ops.length c2, .int .i64 b1, .int .i64 b2]] W fun e w' => e = .returned (.tuple #[.string P, .int .i64 Er]) ∧ Below W.heap.size W w') := fun W a1 a2 c1 c2 hW h1 h2 => by
    have h := put_any M hM l ops b1 b2 a1 a2 c1 c2 W D E (by omega) (by omega) HD HE hsz.1 hsz.2 h1 h2 (hG.below hW)
    rw [hP] at h
    exact h
  have C1' : ∀ W g, InAt W g (s, 0) → _ := fun W g hW => istamp_any g (s, 0) W hW
  obtain ⟨⟨i1, bb1, bb2⟩, h1⟩ : ∃ p, inStampC (s, 0) = p := ⟨_, rfl⟩
  have C2' : ∀ W g hc, InAt W g i1 → Blk W 42 hc #[.pointer (some ⟨g, 0, none⟩)] → hc ≠ g → _ := fun W g hc hW hB hn => rlistN_any g hc i1 W hW hB hn
  obtain ⟨⟨i2, l'⟩, h2⟩ : ∃ p, readLC readNdC (inNumP i1).2 (inNumP i1).1 = p := ⟨_, rfl⟩
  have C3' : ∀ W g hc, InAt W g i2 → Blk W 42 hc #[.pointer (some ⟨g, 0, none⟩)] → hc ≠ g → _ := fun W g hc hW hB hn => rlistO_any g hc i2 W hW hB hn
  obtain ⟨⟨i3, ops'⟩, h3⟩ : ∃ p, readLC readOpC (inNumP i2).2 (inNumP i2).1 = p := ⟨_, rfl⟩
  have hx' : (l', ops', (bb1, bb2)) = (l, ops, (b1, b2)) := by
    rw [← hx]
    unfold readSC
    simp only [h1, h2, h3]
  obtain ⟨rfl, hx2⟩ : l' = l ∧ (ops', (bb1, bb2)) = (ops, (b1, b2)) := ⟨congrArg Prod.fst hx', congrArg Prod.snd hx'⟩
  obtain ⟨rfl, hx3⟩ : ops' = ops ∧ (bb1, bb2) = (b1, b2) := ⟨congrArg Prod.fst hx2, congrArg Prod.snd hx2⟩
  obtain ⟨rfl, rfl⟩ : bb1 = b1 ∧ bb2 = b2 := ⟨congrArg Prod.fst hx3, congrArg Prod.snd hx3⟩
  simp only [h1] at C1'
  simp only [h2] at C2'
  simp only [h3] at C3'
  have C1 : Hid (∀ W g, InAt W g (s, 0) → _) := C1'
  have C2 : Hid (∀ W g hc, InAt W g i1 → Blk W 42 hc #[.pointer (some ⟨g, 0, none⟩)] → hc ≠ g → _) := C2'
  have C3 : Hid (∀ W g hc, InAt W g i2 → Blk W 42 hc #[.pointer (some ⟨g, 0, none⟩)] → hc ≠ g → _) := C3'
  have bs : ¬ ((s.size : Int) > 65536) := by omega
  have HI : Hid (s.size ≤ 1048576) := by show _ ≤ _; omega
  clear C1' C2' C3' h1 h2 h3 hx hx' hx2 hx3 hfew hsz HD HE hP hM hG
  go_enter Tryz.func5, Tryz.ntmps5
  go_wp2_with fail
  obtain ⟨w0, hw0⟩ : ∃ w0, w.alloc (.cells #[.slice none 0 0, .slice none 0 0, .int .i64 0, .int .i64 0] 28) = w0 := ⟨_, rfl⟩
  obtain ⟨h, hh⟩ : ∃ h, w.heap.size = h := ⟨_, rfl⟩
  have HB0 : Hid (Below w.heap.size w w0) := by show Below _ _ _; rw [← hw0]; exact below_new _ _
  have HZ0 : Hid (Blk w0 28 h #[.slice none 0 0, .slice none 0 0, .int .i64 0, .int .i64 0]) := by show Blk _ _ _ _; rw [← hw0, ← hh]; exact Blk.new _ _ _
  have HL : Hid (w.heap.size ≤ h) := by show _ ≤ _; omega
  try rw [hw0]
  try rw [hh]
  clear hw0 hh
  refine (newIn_any s w0 HI.out).mono ?_
  rintro e w1 ⟨rfl, hI1, hb1⟩
  have HS1 : Hid (TkS w h w0.heap.size w1.heap.size (w1.heap.size + 1) (s, 0) #[.slice none 0 0, .slice none 0 0, .int .i64 0, .int .i64 0] ((w1.alloc (.cells #[.pointer (some ⟨w0.heap.size, 0, none⟩)] 42)).alloc (.cells #[.slice none 0 0, .slice none 0 0, .int .i64 0, .int .i64 0] 28))) := by
    have hl1 := hI1.1.lt
    have hl2 := HZ0.out.lt
    exact ⟨(hI1.on (below_new _ _)).on (below_new _ _), (Blk.new _ _ _).on (below_new _ _), Blk.new' _ _ _ _ (by rw [World.size_alloc]), ((HZ0.out.on hb1).on (below_new _ _)).on (below_new _ _), below_step HB0.out (Nat.le_refl _) (below_step hb1 (Nat.le_refl _) ((below_new _ _).alloc (by rw [World.size_alloc]; omega) _)), HL.out, hl2, hl1, Nat.lt_succ_self _⟩
  have y : ((w1.alloc (.cells #[.pointer (some ⟨w0.heap.size, 0, none⟩)] 42)).alloc (.cells #[.slice none 0 0, .slice none 0 0, .int .i64 0, .int .i64 0] 28)).cell? ⟨w1.heap.size, 0, none⟩ = some (.pointer (some ⟨w0.heap.size, 0, none⟩)) := HS1.out.cap.cell 0
  clear hI1 hb1 HB0 HZ0 HI
  go_wp2_with fail
  clear y
  obtain ⟨W2, hW2⟩ : ∃ W2, ((w1.alloc (.cells #[.pointer (some ⟨w0.heap.size, 0, none⟩)] 42)).alloc (.cells #[.slice none 0 0, .slice none 0 0, .int .i64 0, .int .i64 0] 28)) = W2 := ⟨_, rfl⟩
  rw [hW2] at HS1
  try rw [hW2]
  clear hW2
  obtain ⟨g, hg⟩ : ∃ g, w0.heap.size = g := ⟨_, rfl⟩
  obtain ⟨hx, hhx⟩ : ∃ hx, w1.heap.size + 1 = hx := ⟨_, rfl⟩
  obtain ⟨hc, hhc⟩ : ∃ hc, w1.heap.size = hc := ⟨_, rfl⟩
  rw [hg, hhx, hhc] at HS1
  try rw [hg]
  try rw [hhx]
  try rw [hhc]
  clear hg hhx hhc
  refine (C1.out W2 g HS1.out.inn).mono ?_
  rintro e U1 ⟨rfl, hI⟩
  have HU : Hid (TkS w h g hc hx i1 #[.slice none 0 0, .slice none 0 0, .int .i64 0, .int .i64 0] U1) := HS1.out.step hI
  clear hI HS1 C1
  have y2 : U1.cell? ⟨hx, 2, none⟩ = some _ := HU.out.x.cell 2
  have z2 : U1.frozen? ⟨hx, 2, none⟩ = false := HU.out.x.free 2
  have y3 : (U1.setCell ⟨hx, 2, none⟩ (.int .i64 bb1)).cell? ⟨hx, 3, none⟩ = some _ := (HU.out.set 2 (.int .i64 bb1)).x.cell 3
  have z3 : (U1.setCell ⟨hx, 2, none⟩ (.int .i64 bb1)).frozen? ⟨hx, 3, none⟩ = false := (HU.out.set 2 (.int .i64 bb1)).x.free 3
  have HS2 : Hid (TkS w h g hc hx i1 #[.slice none 0 0, .slice none 0 0, .int .i64 bb1, .int .i64 bb2] ((U1.setCell ⟨hx, 2, none⟩ (.int .i64 bb1)).setCell ⟨hx, 3, none⟩ (.int .i64 bb2))) := (HU.out.set 2 (.int .i64 bb1)).set 3 (.int .i64 bb2)
  obtain ⟨W3, hW3⟩ : ∃ W, (U1.setCell ⟨hx, 2, none⟩ (.int .i64 bb1)).setCell ⟨hx, 3, none⟩ (.int .i64 bb2) = W := ⟨_, rfl⟩
  rw [hW3] at HS2
  have a3 : W3.cell? ⟨hc, 0, none⟩ = some (.pointer (some ⟨g, 0, none⟩)) := HS2.out.cap.cell 0
  go_wp2_with fail
  try rw [hW3]
  clear hW3 HU y2 z2 y3 z3 a3
  have HL3 : Hid (g < W3.heap.size ∧ hx < W3.heap.size) := ⟨HS2.out.inn.1.lt, HS2.out.x.lt⟩
  refine (C2.out W3 g hc HS2.out.inn HS2.out.cap (by have := HS2.out.gc; omega)).mono ?_
  rintro e U2 ⟨v1, rfl, hO, hI⟩
  obtain ⟨n1, hn1⟩ : ∃ n1, l'.length = n1 := ⟨_, rfl⟩
  obtain ⟨a1, c1, rfl, _⟩ := OwnN.nodes hO
  have HN2 : Hid (OwnN U2 W3.heap.size (.slice a1 l'.length c1) l') := hO
  have HU : Hid (TkS w h g hc hx i2 #[.slice none 0 0, .slice none 0 0, .int .i64 bb1, .int .i64 bb2] U2) := HS2.out.step hI
  rw [hn1] at HN2 ⊢
  clear hI HS2 C2 hO
  have y0 : U2.cell? ⟨hx, 0, none⟩ = some _ := HU.out.x.cell 0
  have z0 : U2.frozen? ⟨hx, 0, none⟩ = false := HU.out.x.free 0
  have HS3 : Hid (TkS w h g hc hx i2 #[.slice a1 n1 c1, .slice none 0 0, .int .i64 bb1, .int .i64 bb2] (U2.setCell ⟨hx, 0, none⟩ (.slice a1 n1 c1))) := HU.out.set 0 (.slice a1 n1 c1)
  have HN3 : Hid (OwnN (U2.setCell ⟨hx, 0, none⟩ (.slice a1 n1 c1)) W3.heap.size (.slice a1 n1 c1) l') := own_setCell HN2.out HL3.out.2
  obtain ⟨W4, hW4⟩ : ∃ W, U2.setCell ⟨hx, 0, none⟩ (.slice a1 n1 c1) = W := ⟨_, rfl⟩
  rw [hW4] at HS3 HN3
  have a4 : W4.cell? ⟨hc, 0, none⟩ = some (.pointer (some ⟨g, 0, none⟩)) := HS3.out.cap.cell 0
  go_wp2_with fail
  try rw [hW4]
  clear hW4 HU y0 z0 a4 HN2
  have HL4 : Hid (hx < W4.heap.size) := HS3.out.x.lt
  refine (C3.out W4 g hc HS3.out.inn HS3.out.cap (by have := HS3.out.gc; omega)).mono ?_
  rintro e U3 ⟨v2, rfl, hO, hI⟩
  obtain ⟨n2, hn2⟩ : ∃ n2, ops'.length = n2 := ⟨_, rfl⟩
  obtain ⟨a2, c2, rfl, _, _⟩ := OwnO.ops hO
  have HO4 : Hid (OwnO U3 W4.heap.size (.slice a2 ops'.length c2) ops') := hO
  have HU : Hid (TkS w h g hc hx i3 #[.slice a1 n1 c1, .slice none 0 0, .int .i64 bb1, .int .i64 bb2] U3) := HS3.out.step hI
  have HN4 : Hid (OwnN U3 W3.heap.size (.slice a1 n1 c1) l') := own_kept2 HN3.out hI.2 HL3.out.1
  rw [hn2] at HO4 ⊢
  clear hI HS3 C3 hO HN3
  have y1 : U3.cell? ⟨hx, 1, none⟩ = some _ := HU.out.x.cell 1
  have z1 : U3.frozen? ⟨hx, 1, none⟩ = false := HU.out.x.free 1
  have HS4 : Hid (TkS w h g hc hx i3 #[.slice a1 n1 c1, .slice a2 n2 c2, .int .i64 bb1, .int .i64 bb2] (U3.setCell ⟨hx, 1, none⟩ (.slice a2 n2 c2))) := HU.out.set 1 (.slice a2 n2 c2)
  have HN5 : Hid (OwnN (U3.setCell ⟨hx, 1, none⟩ (.slice a2 n2 c2)) W3.heap.size (.slice a1 n1 c1) l') := own_setCell HN4.out HL3.out.2
  have HO5 : Hid (OwnO (U3.setCell ⟨hx, 1, none⟩ (.slice a2 n2 c2)) W4.heap.size (.slice a2 n2 c2) ops') := own_setCell HO4.out HL4.out
  obtain ⟨W5, hW5⟩ : ∃ W, U3.setCell ⟨hx, 1, none⟩ (.slice a2 n2 c2) = W := ⟨_, rfl⟩
  rw [hW5] at HS4 HN5 HO5
  have d0 : W5.cell? ⟨hx, 0, none⟩ = some (.slice a1 n1 c1) := HS4.out.x.cell 0
  have d1 : W5.cell? ⟨hx, 1, none⟩ = some (.slice a2 n2 c2) := HS4.out.x.cell 1
  have d2 : W5.cell? ⟨hx, 2, none⟩ = some (.int .i64 bb1) := HS4.out.x.cell 2
  have d3 : W5.cell? ⟨hx, 3, none⟩ = some (.int .i64 bb2) := HS4.out.x.cell 3
  go_wp2_with fail
  try rw [hW5]
  clear hW5 HU y1 z1 d0 d1 d2 d3 HN4 HO4
  have HNr : Hid (NodesAt W5 a1 n1 l') := by
    obtain ⟨a, c, he, hr⟩ := OwnN.nodes HN5.out
    cases he
    show NodesAt _ _ _ _
    rw [← hn1]; exact hr
  have HOr : Hid (OpsAt W5 a2 n2 ops') := by
    obtain ⟨a, c, he, hr, _⟩ := OwnO.ops HO5.out
    cases he
    show OpsAt _ _ _ _
    rw [← hn2]; exact hr
  have CA : Hid (∀ W, Below W5.heap.size W5 W → Calls Tryz.prog 8 #[.agg #[.slice a1 n1 c1, .slice a2 n2 c2, .int .i64 bb1, .int .i64 bb2]] W fun e w' => e = .returned (.tuple #[.string P, .int .i64 Er]) ∧ Below W.heap.size W w') := fun W hW => by
    have h := CP.out W a1 a2 c1 c2 (below_step HS4.out.bel (Nat.le_refl _) hW) (by rw [hn1]; exact HNr.out.below hW) (by rw [hn2]; exact HOr.out.below hW)
    rw [hn1, hn2] at h
    exact h
  have CS' := asPutS_any a1 a2 n1 c1 n2 c2 bb1 bb2 P s Er W5 (fun W hW => CA.out W hW)
  obtain ⟨Q, hQ⟩ : ∃ Q : Array Value, (if Er ≠ 0 ∨ P ≠ s then #[.slice none 0 0, .slice none 0 0, .int .i64 0, .int .i64 0] else #[.slice a1 n1 c1, .slice a2 n2 c2, .int .i64 bb1, .int .i64 bb2]) = Q := ⟨_, rfl⟩
  obtain ⟨F, hF⟩ : ∃ F : Int, (if Er ≠ 0 ∨ P ≠ s then 91 else 0) = F := ⟨_, rfl⟩
  have HQ : Hid ((if Er ≠ 0 ∨ P ≠ s then #[.slice none 0 0, .slice none 0 0, .int .i64 0, .int .i64 0] else #[.slice a1 n1 c1, .slice a2 n2 c2, .int .i64 bb1, .int .i64 bb2]) = Q) := hQ
  have HF : Hid ((if Er ≠ 0 ∨ P ≠ s then 91 else 0) = F) := hF
  rw [hQ, hF] at CS'
  obtain ⟨q0, q1, q2, q3, hq4, hq1⟩ : ∃ q0 q1 q2 q3, Q = #[q0, q1, q2, q3] ∧ Q.all (·.oneCell') = true := by
    rw [← hQ]
    split
    · exact ⟨_, _, _, _, rfl, by simp [Value.oneCell']⟩
    · exact ⟨_, _, _, _, rfl, by simp [Value.oneCell']⟩
  subst hq4
  have HQ1 : Hid ((#[q0, q1, q2, q3] : Array Value).all (·.oneCell') = true) := hq1
  have CS : Hid (Calls _ _ _ _ _) := CS'
  clear CS' hQ hF hq1 CP CA HN5 HO5
  refine CS.out.mono ?_
  rintro e w6 ⟨rfl, hb6⟩
  have HS6 := HS4.out.on hb6
  have X1 := HS6.z
  have hB6 := HS6.bel
  have hL6 := HS6.lh
  have hN6 := HNr.out.below hb6
  have hO6 := HOr.out.below hb6
  clear CS hb6 HS4 HS6 HNr HOr
  go_wp2_with (with_reducible refine wpList_storeBlk rfl 28 _ _ rfl h #[.slice none 0 0, .slice none 0 0, .int .i64 0, .int .i64 0] #[q0, q1, q2, q3] ?hx ?hy X1 rfl ?hi ?h1 ?_)
  try (case hx => rfl)
  try (case hy => rfl)
  try (case hi => kernel_rfl)
  try (case h1 => exact HQ1.out)
  exact bodyPost_rowTmp rfl h _ _ rfl rfl rfl (X1.setRow _) _ Tryz.underlying28 rfl (by kernel_rfl) ⟨below_setRow hB6 hL6 _, a1, c1, a2, c2, by rw [hn1]; exact NodesAt.rowK hN6 X1 rfl _, by rw [hn2]; exact OpsAt.rowK hO6 X1 rfl _, by rw [hn1, hn2, HQ.out, HF.out]; rfl⟩
end Go.Proofs.YtogbkfakihnbdaaGreatDoor
