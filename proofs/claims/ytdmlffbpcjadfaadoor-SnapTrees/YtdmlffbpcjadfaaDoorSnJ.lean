import Derived.Test.YtdmlffbpcjadfaaDoorSnG
/- The code's Take: its closures, readList (layer 13). -/
namespace Go.Proofs.YtdmlffbpcjadfaaDoor
open Go.RowKit
set_option linter.unusedSimpArgs false

/-- What the code reads as a node. -/
def readNdC (i : ByteArray × Int) : (ByteArray × Int) × NodeT :=
  ((inTextC (inTextC (inStampC (inStampC i).1).1 65536).1 65536).1,
   ((inStampC i).2, (inStampC (inStampC i).1).2, (inTextC (inStampC (inStampC i).1).1 65536).2, (inTextC (inTextC (inStampC (inStampC i).1).1 65536).1 65536).2))

/-- What the code reads as a list: as many as are told, or till nothing is left. -/
def readLC {α : Type} (rd : ByteArray × Int → (ByteArray × Int) × α) : Nat → ByteArray × Int → (ByteArray × Int) × List α
  | 0, i => (i, [])
  | n + 1, i => if i.1.size = 0 then (i, []) else ((readLC rd n (rd i).1).1, (rd i).2 :: (readLC rd n (rd i).1).2)

/-- What was read so far, the new node's block beside it, the variable that the closure holds. -/
structure RnS (w0 : World) (g hc gb ga : Nat) (cs : Array Value) (i : ByteArray × Int) (W : World) : Prop where
  inn : InAt W g i
  kept : Kept2 g none w0 W
  b : Blk W 62 gb cs
  a : Blk W 62 ga #[.int .i64 0, .int .i64 0, .int .i64 0, .int .i64 0, .string ⟨#[]⟩, .string ⟨#[]⟩]
  cap : Blk W 69 hc #[.pointer (some ⟨g, 0, none⟩)]
  low : w0.heap.size ≤ ga
  up : ga < gb
  ng : g < ga
  nc : hc < ga
  ne : hc ≠ g

theorem RnS.step {w0 : World} {g hc gb ga : Nat} {cs : Array Value} {i i' : ByteArray × Int} {W W' : World} (h : RnS w0 g hc gb ga cs i W) (h2 : InTo W g i' W') : RnS w0 g hc gb ga cs i' W' := by
  have h3 := h.ng
  have h4 := h.up
  exact ⟨h2.1, h.kept.trans h2.2 (Nx.refl _ _), h.b.kept h2.2 (by omega) (by simp), h.a.kept h2.2 (by omega) (by simp), h.cap.kept h2.2 h.ne (by simp), h.low, h.up, h.ng, h.nc, h.ne⟩

theorem RnS.set {w0 : World} {g hc gb ga : Nat} {cs : Array Value} {i : ByteArray × Int} {W : World} (h : RnS w0 g hc gb ga cs i W) (j : Nat) (u : Value) : RnS w0 g hc gb ga (cs.setIfInBounds j u) i (W.setCell ⟨gb, j, none⟩ u) := by
  have h1 := h.ng
  have h2 := h.up
  have h3 := h.low
  have h4 := h.nc
  have G := grown_set W gb j u
  exact ⟨⟨h.inn.1.grown G (fun e => by have := Option.some.inj e; omega), h.inn.2⟩, h.kept.setNew ⟨gb, j, none⟩ (by show _ ≤ gb; omega) u, h.b.setAt j u, h.a.grown G (fun e => by have := Option.some.inj e; omega), h.cap.grown G (fun e => by have := Option.some.inj e; omega), h.low, h.up, h.ng, h.nc, h.ne⟩

set_option maxHeartbeats 4000000 in
set_option maxRecDepth 100000 in
theorem take1_any (g hc : Nat) (i : ByteArray × Int) (w : World) (h : InAt w g i) (hcp : Blk w 69 hc #[.pointer (some ⟨g, 0, none⟩)]) (hne : hc ≠ g) :
    Calls Tryd.prog 32 #[.pointer (some ⟨hc, 0, none⟩)] w fun e w' => e = .returned (.agg (nodeA (readNdC i).2)) ∧ InTo w g (readNdC i).1 w' := by
  obtain ⟨i0, hi0⟩ : ∃ i0, i = i0 := ⟨_, rfl⟩
  obtain ⟨⟨i1, x0, x1⟩, e0⟩ : ∃ p, inStampC i0 = p := ⟨_, rfl⟩
  obtain ⟨⟨i2, x2, x3⟩, e1⟩ : ∃ p, inStampC i1 = p := ⟨_, rfl⟩
  obtain ⟨⟨i3, x4⟩, e2⟩ : ∃ p, inTextC i2 65536 = p := ⟨_, rfl⟩
  obtain ⟨⟨i4, x5⟩, e3⟩ : ∃ p, inTextC i3 65536 = p := ⟨_, rfl⟩
  have hr : readNdC i = (i4, ((x0, x1), (x2, x3), x4, x5)) := by
    unfold readNdC
    simp only [hi0, e0, e1, e2, e3]
  rw [hr]
  simp only [nodeA]
  rw [hi0] at h
  have C0' : ∀ W, InAt W g i0 → _ := fun W hW => istamp_any g i0 W hW
  rw [e0] at C0'
  have C0 : Hid (∀ W, InAt W g i0 → _) := C0'
  have C1' : ∀ W, InAt W g i1 → _ := fun W hW => istamp_any g i1 W hW
  rw [e1] at C1'
  have C1 : Hid (∀ W, InAt W g i1 → _) := C1'
  have C2' : ∀ W, InAt W g i2 → _ := fun W hW => itext_any g i2 65536 W hW
  rw [e2] at C2'
  have C2 : Hid (∀ W, InAt W g i2 → _) := C2'
  have C3' : ∀ W, InAt W g i3 → _ := fun W hW => itext_any g i3 65536 W hW
  rw [e3] at C3'
  have C3 : Hid (∀ W, InAt W g i3 → _) := C3'
  have HL : Hid (g < w.heap.size ∧ hc < w.heap.size ∧ hc ≠ g) := ⟨h.1.lt, hcp.lt, hne⟩
  have HI : Hid (InAt w g i0) := h
  have HC : Hid (Blk w 69 hc #[.pointer (some ⟨g, 0, none⟩)]) := hcp
  clear h hcp hne hr hi0 e0 e1 e2 e3 C0' C1' C2' C3'
  have HS0 : Hid (RnS w g hc (w.heap.size + 1) w.heap.size #[.int .i64 0, .int .i64 0, .int .i64 0, .int .i64 0, .string ⟨#[]⟩, .string ⟨#[]⟩] i0 ((w.alloc (.cells #[.int .i64 0, .int .i64 0, .int .i64 0, .int .i64 0, .string ⟨#[]⟩, .string ⟨#[]⟩] 62)).alloc (.cells #[.int .i64 0, .int .i64 0, .int .i64 0, .int .i64 0, .string ⟨#[]⟩, .string ⟨#[]⟩] 62))) := by
    have hl := HL.out
    exact ⟨(HI.out.on (below_new _ _)).on (below_new _ _), Kept2.ofBelow _ _ ((below_new w _).alloc (by rw [World.size_alloc]; omega) _), Blk.new' _ _ _ _ (by rw [World.size_alloc]), (Blk.new _ _ _).on (below_new _ _), (HC.out.on (below_new _ _)).on (below_new _ _), Nat.le_refl _, Nat.lt_succ_self _, hl.1, hl.2.1, hl.2.2⟩
  have y : ((w.alloc (.cells #[.int .i64 0, .int .i64 0, .int .i64 0, .int .i64 0, .string ⟨#[]⟩, .string ⟨#[]⟩] 62)).alloc (.cells #[.int .i64 0, .int .i64 0, .int .i64 0, .int .i64 0, .string ⟨#[]⟩, .string ⟨#[]⟩] 62)).cell? ⟨hc, 0, none⟩ = some (.pointer (some ⟨g, 0, none⟩)) := HS0.out.cap.cell 0
  go_enter Tryd.func32, Tryd.ntmps32
  go_wp2_with fail
  clear y
  obtain ⟨W0, hW0⟩ : ∃ W0, (w.alloc (.cells #[.int .i64 0, .int .i64 0, .int .i64 0, .int .i64 0, .string ⟨#[]⟩, .string ⟨#[]⟩] 62)).alloc (.cells #[.int .i64 0, .int .i64 0, .int .i64 0, .int .i64 0, .string ⟨#[]⟩, .string ⟨#[]⟩] 62) = W0 := ⟨_, rfl⟩
  obtain ⟨gb, hgb⟩ : ∃ gb, w.heap.size + 1 = gb := ⟨_, rfl⟩
  obtain ⟨ga, hga⟩ : ∃ ga, w.heap.size = ga := ⟨_, rfl⟩
  have HS : Hid (RnS w g hc gb ga #[.int .i64 0, .int .i64 0, .int .i64 0, .int .i64 0, .string ⟨#[]⟩, .string ⟨#[]⟩] i0 W0) := by show RnS _ _ _ _ _ _ _ _; rw [← hW0, ← hgb, ← hga]; exact HS0.out
  try rw [hW0]
  try rw [hgb]
  try rw [hga]
  clear hW0 hgb hga HI HL HC HS0
  refine (C0.out W0 HS.out.inn).mono ?_
  rintro e U0 ⟨rfl, hI⟩
  have HU : Hid (RnS w g hc gb ga #[.int .i64 0, .int .i64 0, .int .i64 0, .int .i64 0, .string ⟨#[]⟩, .string ⟨#[]⟩] i1 U0) := HS.out.step hI
  clear hI HS C0
  have y0 : U0.cell? ⟨gb, 0, none⟩ = some _ := (HU.out).b.cell 0
  have z0 : U0.frozen? ⟨gb, 0, none⟩ = false := (HU.out).b.free 0
  have y1 : (U0.setCell ⟨gb, 0, none⟩ (.int .i64 x0)).cell? ⟨gb, 1, none⟩ = some _ := ((HU.out).set 0 (.int .i64 x0)).b.cell 1
  have z1 : (U0.setCell ⟨gb, 0, none⟩ (.int .i64 x0)).frozen? ⟨gb, 1, none⟩ = false := ((HU.out).set 0 (.int .i64 x0)).b.free 1
  have HS : Hid (RnS w g hc gb ga #[.int .i64 x0, .int .i64 x1, .int .i64 0, .int .i64 0, .string ⟨#[]⟩, .string ⟨#[]⟩] i1 ((U0.setCell ⟨gb, 0, none⟩ (.int .i64 x0)).setCell ⟨gb, 1, none⟩ (.int .i64 x1))) := ((HU.out).set 0 (.int .i64 x0)).set 1 (.int .i64 x1)
  obtain ⟨W1, hW1⟩ : ∃ W, ((U0.setCell ⟨gb, 0, none⟩ (.int .i64 x0)).setCell ⟨gb, 1, none⟩ (.int .i64 x1)) = W := ⟨_, rfl⟩
  rw [hW1] at HS
  have a0 : W1.cell? ⟨hc, 0, none⟩ = some (.pointer (some ⟨g, 0, none⟩)) := HS.out.cap.cell 0
  go_wp2_with fail
  try rw [hW1]
  clear hW1 HU a0 y0 z0 y1 z1
  refine (C1.out W1 HS.out.inn).mono ?_
  rintro e U1 ⟨rfl, hI⟩
  have HU : Hid (RnS w g hc gb ga #[.int .i64 x0, .int .i64 x1, .int .i64 0, .int .i64 0, .string ⟨#[]⟩, .string ⟨#[]⟩] i2 U1) := HS.out.step hI
  clear hI HS C1
  have y2 : U1.cell? ⟨gb, 2, none⟩ = some _ := (HU.out).b.cell 2
  have z2 : U1.frozen? ⟨gb, 2, none⟩ = false := (HU.out).b.free 2
  have y3 : (U1.setCell ⟨gb, 2, none⟩ (.int .i64 x2)).cell? ⟨gb, 3, none⟩ = some _ := ((HU.out).set 2 (.int .i64 x2)).b.cell 3
  have z3 : (U1.setCell ⟨gb, 2, none⟩ (.int .i64 x2)).frozen? ⟨gb, 3, none⟩ = false := ((HU.out).set 2 (.int .i64 x2)).b.free 3
  have HS : Hid (RnS w g hc gb ga #[.int .i64 x0, .int .i64 x1, .int .i64 x2, .int .i64 x3, .string ⟨#[]⟩, .string ⟨#[]⟩] i2 ((U1.setCell ⟨gb, 2, none⟩ (.int .i64 x2)).setCell ⟨gb, 3, none⟩ (.int .i64 x3))) := ((HU.out).set 2 (.int .i64 x2)).set 3 (.int .i64 x3)
  obtain ⟨W2, hW2⟩ : ∃ W, ((U1.setCell ⟨gb, 2, none⟩ (.int .i64 x2)).setCell ⟨gb, 3, none⟩ (.int .i64 x3)) = W := ⟨_, rfl⟩
  rw [hW2] at HS
  have a1 : W2.cell? ⟨hc, 0, none⟩ = some (.pointer (some ⟨g, 0, none⟩)) := HS.out.cap.cell 0
  go_wp2_with fail
  try rw [hW2]
  clear hW2 HU a1 y2 z2 y3 z3
  refine (C2.out W2 HS.out.inn).mono ?_
  rintro e U2 ⟨rfl, hI⟩
  have HU : Hid (RnS w g hc gb ga #[.int .i64 x0, .int .i64 x1, .int .i64 x2, .int .i64 x3, .string ⟨#[]⟩, .string ⟨#[]⟩] i3 U2) := HS.out.step hI
  clear hI HS C2
  have y4 : U2.cell? ⟨gb, 4, none⟩ = some _ := (HU.out).b.cell 4
  have z4 : U2.frozen? ⟨gb, 4, none⟩ = false := (HU.out).b.free 4
  have HS : Hid (RnS w g hc gb ga #[.int .i64 x0, .int .i64 x1, .int .i64 x2, .int .i64 x3, .string x4, .string ⟨#[]⟩] i3 (U2.setCell ⟨gb, 4, none⟩ (.string x4))) := (HU.out).set 4 (.string x4)
  obtain ⟨W3, hW3⟩ : ∃ W, (U2.setCell ⟨gb, 4, none⟩ (.string x4)) = W := ⟨_, rfl⟩
  rw [hW3] at HS
  have a2 : W3.cell? ⟨hc, 0, none⟩ = some (.pointer (some ⟨g, 0, none⟩)) := HS.out.cap.cell 0
  go_wp2_with fail
  try rw [hW3]
  clear hW3 HU a2 y4 z4
  refine (C3.out W3 HS.out.inn).mono ?_
  rintro e U3 ⟨rfl, hI⟩
  have HU : Hid (RnS w g hc gb ga #[.int .i64 x0, .int .i64 x1, .int .i64 x2, .int .i64 x3, .string x4, .string ⟨#[]⟩] i4 U3) := HS.out.step hI
  clear hI HS C3
  have y5 : U3.cell? ⟨gb, 5, none⟩ = some _ := (HU.out).b.cell 5
  have z5 : U3.frozen? ⟨gb, 5, none⟩ = false := (HU.out).b.free 5
  have HS : Hid (RnS w g hc gb ga #[.int .i64 x0, .int .i64 x1, .int .i64 x2, .int .i64 x3, .string x4, .string x5] i4 (U3.setCell ⟨gb, 5, none⟩ (.string x5))) := (HU.out).set 5 (.string x5)
  obtain ⟨W4, hW4⟩ : ∃ W, (U3.setCell ⟨gb, 5, none⟩ (.string x5)) = W := ⟨_, rfl⟩
  rw [hW4] at HS
  have a3 : W4.cell? ⟨hc, 0, none⟩ = some (.pointer (some ⟨g, 0, none⟩)) := HS.out.cap.cell 0
  have q0 : W4.cell? ⟨gb, 0, none⟩ = some (.int .i64 x0) := HS.out.b.cell 0
  have q1 : W4.cell? ⟨gb, 1, none⟩ = some (.int .i64 x1) := HS.out.b.cell 1
  have q2 : W4.cell? ⟨gb, 2, none⟩ = some (.int .i64 x2) := HS.out.b.cell 2
  have q3 : W4.cell? ⟨gb, 3, none⟩ = some (.int .i64 x3) := HS.out.b.cell 3
  have q4 : W4.cell? ⟨gb, 4, none⟩ = some (.string x4) := HS.out.b.cell 4
  have q5 : W4.cell? ⟨gb, 5, none⟩ = some (.string x5) := HS.out.b.cell 5
  have HQ : Hid (Blk W4 62 ga #[.int .i64 0, .int .i64 0, .int .i64 0, .int .i64 0, .string ⟨#[]⟩, .string ⟨#[]⟩]) := HS.out.a
  go_wp2_with (with_reducible refine wpList_storeBlk rfl 62 _ _ rfl ga #[.int .i64 0, .int .i64 0, .int .i64 0, .int .i64 0, .string ⟨#[]⟩, .string ⟨#[]⟩] #[.int .i64 x0, .int .i64 x1, .int .i64 x2, .int .i64 x3, .string x4, .string x5] ?hx ?hy HQ.out rfl ?hi ?h1 ?_)
  try (case hx => rfl)
  try (case hy => rfl)
  try (case hi => kernel_rfl)
  try (case h1 => simp [Value.oneCell'])
  try rw [hW4]
  have hk := HS.out.kept
  have hng := HS.out.ng
  have hlo := HS.out.low
  exact bodyPost_row rfl ga #[.int .i64 x0, .int .i64 x1, .int .i64 x2, .int .i64 x3, .string x4, .string x5] rfl rfl (HS.out.a.setRow _) _ Tryd.underlying62 rfl (by kernel_rfl) ⟨rfl, ⟨HS.out.inn.1.setRowOther _ (by omega) _, HS.out.inn.2⟩, ⟨hk.os, hk.tape, hk.output, by have := hk.size; simpa [World.setRow] using this, fun k a b c => by rw [setRow_other _ _ _ _ (by omega)]; exact hk.block k a b c⟩⟩

set_option maxHeartbeats 4000000 in
set_option maxRecDepth 100000 in
theorem take2_any (g hc : Nat) (i : ByteArray × Int) (w : World) (h : InAt w g i) (hcp : Blk w 69 hc #[.pointer (some ⟨g, 0, none⟩)]) :
    Calls Tryd.prog 35 #[.pointer (some ⟨hc, 0, none⟩)] w fun e w' => e = .returned (.agg (opA (readOpC i).2)) ∧ InTo w g (readOpC i).1 w' := by
  have C' : ∀ W, InAt W g i → _ := fun W hW => readOp_any g i W hW
  obtain ⟨⟨i', x0, ⟨x1, x2⟩, ⟨x3, x4⟩, ⟨x5, x6⟩, x7, x8⟩, hx⟩ : ∃ p, readOpC i = p := ⟨_, rfl⟩
  simp only [hx, opA] at C' ⊢
  have C : Hid (∀ W, InAt W g i → _) := C'
  have HI : Hid (InAt (w.alloc (.cells #[.int .i64 0, .int .i64 0, .int .i64 0, .int .i64 0, .int .i64 0, .int .i64 0, .int .i64 0, .string ⟨#[]⟩, .string ⟨#[]⟩] 30)) g i) := h.on (below_new _ _)
  have HL : Hid (g < w.heap.size) := h.1.lt
  have y : (w.alloc (.cells #[.int .i64 0, .int .i64 0, .int .i64 0, .int .i64 0, .int .i64 0, .int .i64 0, .int .i64 0, .string ⟨#[]⟩, .string ⟨#[]⟩] 30)).cell? ⟨hc, 0, none⟩ = some (.pointer (some ⟨g, 0, none⟩)) := (hcp.on (below_new _ _)).cell 0
  have HZ : Hid (Blk (w.alloc (.cells #[.int .i64 0, .int .i64 0, .int .i64 0, .int .i64 0, .int .i64 0, .int .i64 0, .int .i64 0, .string ⟨#[]⟩, .string ⟨#[]⟩] 30)) 30 w.heap.size #[.int .i64 0, .int .i64 0, .int .i64 0, .int .i64 0, .int .i64 0, .int .i64 0, .int .i64 0, .string ⟨#[]⟩, .string ⟨#[]⟩]) := Blk.new _ _ _
  clear C' hx h hcp
  go_enter Tryd.func35, Tryd.ntmps35
  go_wp2_with fail
  refine (C.out _ HI.out).mono ?_
  rintro e w1 ⟨rfl, h1⟩
  have hl := HL.out
  have X1 : Blk w1 30 w.heap.size #[.int .i64 0, .int .i64 0, .int .i64 0, .int .i64 0, .int .i64 0, .int .i64 0, .int .i64 0, .string ⟨#[]⟩, .string ⟨#[]⟩] := HZ.out.kept h1.2 (by omega) (by simp)
  have h2 : InTo w g i' w1 := InTo.behind (below_new _ _) h1
  clear C HI HZ y h1
  go_wp2_with (with_reducible refine wpList_storeBlk rfl 30 _ _ rfl w.heap.size #[.int .i64 0, .int .i64 0, .int .i64 0, .int .i64 0, .int .i64 0, .int .i64 0, .int .i64 0, .string ⟨#[]⟩, .string ⟨#[]⟩] #[.int .i64 x0, .int .i64 x1, .int .i64 x2, .int .i64 x3, .int .i64 x4, .int .i64 x5, .int .i64 x6, .string x7, .string x8] ?hx ?hy X1 rfl ?hi ?h1 ?_)
  try (case hx => rfl)
  try (case hy => rfl)
  try (case hi => kernel_rfl)
  try (case h1 => simp [Value.oneCell'])
  have hk := h2.2
  exact bodyPost_row rfl w.heap.size #[.int .i64 x0, .int .i64 x1, .int .i64 x2, .int .i64 x3, .int .i64 x4, .int .i64 x5, .int .i64 x6, .string x7, .string x8] rfl rfl (X1.setRow _) _ Tryd.underlying30 rfl (by kernel_rfl) ⟨rfl, ⟨h2.1.1.setRowOther _ (by omega) _, h2.1.2⟩, ⟨hk.os, hk.tape, hk.output, by have := hk.size; simpa [World.setRow] using this, fun k a b c => by rw [setRow_other _ _ _ _ (by omega)]; exact hk.block k a b c⟩⟩

/-- What readList holds: what is read of, the closure's variable. -/
structure RlS (w : World) (g hc : Nat) (i : ByteArray × Int) (W : World) : Prop where
  inn : InAt W g i
  cap : Blk W 69 hc #[.pointer (some ⟨g, 0, none⟩)]
  kept : Kept2 g none w W
  lg : g < w.heap.size
  lc : hc < w.heap.size
  ne : hc ≠ g

theorem RlS.step {w : World} {g hc : Nat} {i i' : ByteArray × Int} {W W' : World} (h : RlS w g hc i W) (h2 : InTo W g i' W') : RlS w g hc i' W' :=
  ⟨h2.1, h.cap.kept h2.2 h.ne (by simp), h.kept.trans h2.2 (Nx.refl _ _), h.lg, h.lc, h.ne⟩

theorem RlS.on {w : World} {g hc : Nat} {i : ByteArray × Int} {W W' : World} (h : RlS w g hc i W) (hb : Below W.heap.size W W') : RlS w g hc i W' :=
  ⟨h.inn.on hb, h.cap.on hb, h.kept.on hb, h.lg, h.lc, h.ne⟩

/-- A row of the call's own grows. -/
theorem RlS.grow {w : World} {g hc : Nat} {i : ByteArray × Int} {W W' : World} {r : Option Nat} (h : RlS w g hc i W) (k : W.grownBy W' r) (hr : ∀ j, r = some j → w.heap.size ≤ j) : RlS w g hc i W' := by
  have h1 := h.lg
  have h2 := h.lc
  refine ⟨⟨h.inn.1.grown k (fun e => by have := hr _ e.symm; omega), h.inn.2⟩, h.cap.grown k (fun e => by have := hr _ e.symm; omega), ⟨k.os.trans h.kept.os, k.tape.trans h.kept.tape, k.output.trans h.kept.output, Nat.le_trans h.kept.size k.size, fun j hj hg hn => ?_⟩, h.lg, h.lc, h.ne⟩
  have hsz := h.kept.size
  rw [k.block j (by omega) (fun e => by have := hr j e.symm; omega)]
  exact h.kept.block j hj hg hn

theorem inNum_le (i : ByteArray × Int) : (inNumP i).2 ≤ 1099511627775 := by
  unfold inNumP
  split
  · exact Nat.zero_le _
  · omega

theorem cellsO_snoc (l : List OpT) (x : OpT) : cellsO (l ++ [x]) = cellsO l ++ (opA x).toList := by
  unfold cellsO
  rw [List.flatMap_append]
  simp

theorem own_kept2 {w w' : World} {B g c n : Nat} {e : TypeId} {v : Value} {xs : List Value} (h : w.ownsRow B e c v n xs) (k : Kept2 g none w w') (hg : g < B) : w'.ownsRow B e c v n xs :=
  owns_same h (fun j hj => k.block j (World.ownsRow.lt h j hj).2 (by have := (World.ownsRow.lt h j hj).1; omega) (by simp))

set_option maxHeartbeats 4000000 in
set_option maxRecDepth 100000 in
theorem rlistN_any (g hc : Nat) (i : ByteArray × Int) (w : World) (h : InAt w g i) (hcp : Blk w 69 hc #[.pointer (some ⟨g, 0, none⟩)]) (hne : hc ≠ g) :
    Calls Tryd.prog 31 #[.pointer (some ⟨g, 0, none⟩), .func (.func 32) #[] #[.pointer (some ⟨hc, 0, none⟩)]] w fun e w' => ∃ v, e = .returned v ∧ OwnN w' w.heap.size v (readLC readNdC (inNumP i).2 (inNumP i).1).2 ∧ InTo w g (readLC readNdC (inNumP i).2 (inNumP i).1).1 w' := by
  obtain ⟨i0, hi, hz0, hz1, hz2⟩ := info_parts Tryd.infoNode
  have C' := inum_any g i w h
  have hN := inNum_le i
  obtain ⟨⟨i1, N⟩, hi1⟩ : ∃ p, inNumP i = p := ⟨_, rfl⟩
  simp only [hi1] at C' hN ⊢
  have C : Hid (Calls _ _ _ _ _) := C'
  have HR0 : Hid (RlS w g hc i w) := ⟨h, hcp, Kept2.refl _ _ _, h.1.lt, hcp.lt, hne⟩
  obtain ⟨⟨fi, fl⟩, hf⟩ : ∃ p, readLC readNdC N i1 = p := ⟨_, rfl⟩
  rw [hf]
  have HF : Hid (readLC readNdC N i1 = (fi, fl)) := hf
  clear C' hi1 h hcp hne hf
  go_enter Tryd.func31, Tryd.ntmps31
  go_wp2_with fail
  refine C.out.mono ?_
  rintro e w1 ⟨rfl, h1⟩
  have HR1 : Hid (RlS w g hc i1 w1) := HR0.out.step h1
  clear C h1 HR0
  go_wp2_with fail
  go_loopw [5, 8] (fun x c wr => ∃ (k : Nat) (ik : ByteArray × Int) (L : List NodeT), k ≤ N ∧ c = .int .i64 k ∧ L.length = k ∧ Hid (OwnN wr w.heap.size x L) ∧ Hid (RlS w g hc ik wr) ∧ Hid ((fi, fl) = ((readLC readNdC (N - k) ik).1, L ++ (readLC readNdC (N - k) ik).2))) (fun _ c _ => N - (intOf c).toNat)
  case atStart => exact ⟨0, i1, [], Nat.zero_le _, rfl, rfl, World.ownsRow_nil _ _ _ _, HR1, by show _ = _; rw [Nat.sub_zero, HF.out]; rfl⟩
  case round =>
    clear HR1 HF
    obtain ⟨k, ik, L, hk, rfl, hLk, HO, HR, HF⟩ := hrel
    by_cases hlt : k < N
    · have b0 : (k : Int) < (N : Int) := by omega
      obtain ⟨d, hd⟩ : ∃ d, N - k = d + 1 := ⟨N - k - 1, by omega⟩
      have hd' : N - (k + 1) = d := by omega
      have hf := HF.out
      rw [hd] at hf
      unfold readLC at hf
      have CR : Hid (Calls _ _ _ _ _) := irest_any g ik wr HR.out.inn
      clear HF
      by_cases hz : ik.1.size = 0
      · rw [if_pos hz] at hf
        obtain ⟨rfl, rfl⟩ : fi = ik ∧ fl = L := ⟨congrArg Prod.fst hf, by have := congrArg Prod.snd hf; simpa using this⟩
        have b1 : (fi.1.size : Int) = 0 := by omega
        clear hf
        go_wp2_with fail
        refine CR.out.mono ?_
        rintro e w2 ⟨rfl, rfl⟩
        clear CR
        go_wp2_with fail
        go_ret
        exact ⟨_, rfl, HO.out, HR.out.inn, HR.out.kept⟩
      · rw [if_neg hz] at hf
        have b1 : ((ik.1.size : Int) == 0) = false := by rw [beq_eq_false_iff_ne]; omega
        have CT' : ∀ W, RlS w g hc ik W → _ := fun W hW => take1_any g hc ik W hW.inn hW.cap hW.ne
        obtain ⟨⟨j1, ⟨⟨x0, x1⟩, ⟨x2, x3⟩, x4, x5⟩⟩, hrd⟩ : ∃ p, readNdC ik = p := ⟨_, rfl⟩
        simp only [hrd] at hf CT'
        simp only [nodeA] at CT'
        have CT : Hid (∀ W, RlS w g hc ik W → _) := CT'
        have HF' : Hid ((fi, fl) = ((readLC readNdC (N - (k + 1)) j1).1, (L ++ [((x0, x1), (x2, x3), x4, x5)]) ++ (readLC readNdC (N - (k + 1)) j1).2)) := by show _ = _; rw [hd', hf]; simp
        clear CT' hrd hf
        go_wp2_with fail
        refine CR.out.mono ?_
        rintro e w2 ⟨rfl, rfl⟩
        clear CR
        go_wp2_with fail
        refine (CT.out _ HR.out).mono ?_
        rintro e w3 ⟨rfl, h3⟩
        have HR3 : Hid (RlS w g hc j1 w3) := HR.out.step h3
        have HO3 : Hid (OwnN w3 w.heap.size u5 L) := own_kept2 HO.out h3.2 (by have := HR.out.lg; exact this)
        have hsz := HR3.out.kept.size
        clear CT h3 HO HR
        have hown := HO3.out
        unfold OwnN at hown
        go_wp2_with (at_builtin; refine wpList_appR2 rfl (.tmp 14) (.tmp 17) 25 rfl w.heap.size 62 i0 _ 6 64 Tryd.underlying25 hi hz0 hz1 hz2 rfl (by decide) w3 u5 _ _ rfl hown #[.int .i64 x0, .int .i64 x1, .int .i64 x2, .int .i64 x3, .string x4, .string x5] rfl (nodeA_one ((x0, x1), (x2, x3), x4, x5)) rfl (by omega) (by unfold maxLen; omega) hsz ?_)
        intro v4 w4 hown4 hg4
        have HO4 : Hid (OwnN w4 w.heap.size v4 (L ++ [((x0, x1), (x2, x3), x4, x5)])) := by
          show OwnN _ _ _ _
          unfold OwnN; rw [cellsN_snoc, List.length_append, hLk]; exact hown4
        have HR4 : Hid (RlS w g hc j1 w4) := (HR3.out.on (below_new _ _)).grow hg4 (fun j hj => (World.ownsRow.lt hown j hj).1)
        clear hown4 hg4 hown HO3 HR3
        go_wp2_with fail
        refine ⟨?_, ?_⟩
        · first
          | exact ⟨k + 1, j1, L ++ [((x0, x1), (x2, x3), x4, x5)], by omega, by go_num, by rw [List.length_append, hLk]; rfl, HO4, HR4, HF'⟩
          | ((repeat apply Exists.intro); refine ⟨?_, rfl⟩; exact ⟨k + 1, j1, L ++ [((x0, x1), (x2, x3), x4, x5)], by omega, by go_num, by rw [List.length_append, hLk]; rfl, HO4, HR4, HF'⟩)
        · simp [intOf] <;> omega
    · obtain rfl : k = N := by omega
      have b0 : ¬ ((k : Int) < (k : Int)) := by omega
      have hf := HF.out
      rw [Nat.sub_self] at hf
      obtain ⟨rfl, rfl⟩ : fi = ik ∧ fl = L := ⟨congrArg Prod.fst hf, by have := congrArg Prod.snd hf; simpa [readLC] using this⟩
      go_wp2_with fail
      go_ret
      exact ⟨_, rfl, HO.out, HR.out.inn, HR.out.kept⟩

set_option maxHeartbeats 4000000 in
set_option maxRecDepth 100000 in
theorem rlistO_any (g hc : Nat) (i : ByteArray × Int) (w : World) (h : InAt w g i) (hcp : Blk w 69 hc #[.pointer (some ⟨g, 0, none⟩)]) (hne : hc ≠ g) :
    Calls Tryd.prog 34 #[.pointer (some ⟨g, 0, none⟩), .func (.func 35) #[] #[.pointer (some ⟨hc, 0, none⟩)]] w fun e w' => ∃ v, e = .returned v ∧ OwnO w' w.heap.size v (readLC readOpC (inNumP i).2 (inNumP i).1).2 ∧ InTo w g (readLC readOpC (inNumP i).2 (inNumP i).1).1 w' := by
  obtain ⟨i0, hi, hz0, hz1, hz2⟩ := info_parts Tryd.infoOp
  have C' := inum_any g i w h
  have hN := inNum_le i
  obtain ⟨⟨i1, N⟩, hi1⟩ : ∃ p, inNumP i = p := ⟨_, rfl⟩
  simp only [hi1] at C' hN ⊢
  have C : Hid (Calls _ _ _ _ _) := C'
  have HR0 : Hid (RlS w g hc i w) := ⟨h, hcp, Kept2.refl _ _ _, h.1.lt, hcp.lt, hne⟩
  obtain ⟨⟨fi, fl⟩, hf⟩ : ∃ p, readLC readOpC N i1 = p := ⟨_, rfl⟩
  rw [hf]
  have HF : Hid (readLC readOpC N i1 = (fi, fl)) := hf
  clear C' hi1 h hcp hne hf
  go_enter Tryd.func34, Tryd.ntmps34
  go_wp2_with fail
  refine C.out.mono ?_
  rintro e w1 ⟨rfl, h1⟩
  have HR1 : Hid (RlS w g hc i1 w1) := HR0.out.step h1
  clear C h1 HR0
  go_wp2_with fail
  go_loopw [5, 8] (fun x c wr => ∃ (k : Nat) (ik : ByteArray × Int) (L : List OpT), k ≤ N ∧ c = .int .i64 k ∧ L.length = k ∧ Hid (OwnO wr w.heap.size x L) ∧ Hid (RlS w g hc ik wr) ∧ Hid ((fi, fl) = ((readLC readOpC (N - k) ik).1, L ++ (readLC readOpC (N - k) ik).2))) (fun _ c _ => N - (intOf c).toNat)
  case atStart => exact ⟨0, i1, [], Nat.zero_le _, rfl, rfl, World.ownsRow_nil _ _ _ _, HR1, by show _ = _; rw [Nat.sub_zero, HF.out]; rfl⟩
  case round =>
    clear HR1 HF
    obtain ⟨k, ik, L, hk, rfl, hLk, HO, HR, HF⟩ := hrel
    by_cases hlt : k < N
    · have b0 : (k : Int) < (N : Int) := by omega
      obtain ⟨d, hd⟩ : ∃ d, N - k = d + 1 := ⟨N - k - 1, by omega⟩
      have hd' : N - (k + 1) = d := by omega
      have hf := HF.out
      rw [hd] at hf
      unfold readLC at hf
      have CR : Hid (Calls _ _ _ _ _) := irest_any g ik wr HR.out.inn
      clear HF
      by_cases hz : ik.1.size = 0
      · rw [if_pos hz] at hf
        obtain ⟨rfl, rfl⟩ : fi = ik ∧ fl = L := ⟨congrArg Prod.fst hf, by have := congrArg Prod.snd hf; simpa using this⟩
        have b1 : (fi.1.size : Int) = 0 := by omega
        clear hf
        go_wp2_with fail
        refine CR.out.mono ?_
        rintro e w2 ⟨rfl, rfl⟩
        clear CR
        go_wp2_with fail
        go_ret
        exact ⟨_, rfl, HO.out, HR.out.inn, HR.out.kept⟩
      · rw [if_neg hz] at hf
        have b1 : ((ik.1.size : Int) == 0) = false := by rw [beq_eq_false_iff_ne]; omega
        have CT' : ∀ W, RlS w g hc ik W → _ := fun W hW => take2_any g hc ik W hW.inn hW.cap
        obtain ⟨⟨j1, ⟨x0, ⟨x1, x2⟩, ⟨x3, x4⟩, ⟨x5, x6⟩, x7, x8⟩⟩, hrd⟩ : ∃ p, readOpC ik = p := ⟨_, rfl⟩
        simp only [hrd] at hf CT'
        simp only [opA] at CT'
        have CT : Hid (∀ W, RlS w g hc ik W → _) := CT'
        have HF' : Hid ((fi, fl) = ((readLC readOpC (N - (k + 1)) j1).1, (L ++ [(x0, (x1, x2), (x3, x4), (x5, x6), x7, x8)]) ++ (readLC readOpC (N - (k + 1)) j1).2)) := by show _ = _; rw [hd', hf]; simp
        clear CT' hrd hf
        go_wp2_with fail
        refine CR.out.mono ?_
        rintro e w2 ⟨rfl, rfl⟩
        clear CR
        go_wp2_with fail
        refine (CT.out _ HR.out).mono ?_
        rintro e w3 ⟨rfl, h3⟩
        have HR3 : Hid (RlS w g hc j1 w3) := HR.out.step h3
        have HO3 : Hid (OwnO w3 w.heap.size u5 L) := own_kept2 HO.out h3.2 (by have := HR.out.lg; exact this)
        have hsz := HR3.out.kept.size
        clear CT h3 HO HR
        have hown := HO3.out
        unfold OwnO at hown
        go_wp2_with (at_builtin; refine wpList_appR2 rfl (.tmp 14) (.tmp 17) 22 rfl w.heap.size 30 i0 _ 9 88 Tryd.underlying22 hi hz0 hz1 hz2 rfl (by decide) w3 u5 _ _ rfl hown #[.int .i64 x0, .int .i64 x1, .int .i64 x2, .int .i64 x3, .int .i64 x4, .int .i64 x5, .int .i64 x6, .string x7, .string x8] rfl (opA_one (x0, (x1, x2), (x3, x4), (x5, x6), x7, x8)) rfl (by omega) (by unfold maxLen; omega) hsz ?_)
        intro v4 w4 hown4 hg4
        have HO4 : Hid (OwnO w4 w.heap.size v4 (L ++ [(x0, (x1, x2), (x3, x4), (x5, x6), x7, x8)])) := by
          show OwnO _ _ _ _
          unfold OwnO; rw [cellsO_snoc, List.length_append, hLk]; exact hown4
        have HR4 : Hid (RlS w g hc j1 w4) := (HR3.out.on (below_new _ _)).grow hg4 (fun j hj => (World.ownsRow.lt hown j hj).1)
        clear hown4 hg4 hown HO3 HR3
        go_wp2_with fail
        refine ⟨?_, ?_⟩
        · first
          | exact ⟨k + 1, j1, L ++ [(x0, (x1, x2), (x3, x4), (x5, x6), x7, x8)], by omega, by go_num, by rw [List.length_append, hLk]; rfl, HO4, HR4, HF'⟩
          | ((repeat apply Exists.intro); refine ⟨?_, rfl⟩; exact ⟨k + 1, j1, L ++ [(x0, (x1, x2), (x3, x4), (x5, x6), x7, x8)], by omega, by go_num, by rw [List.length_append, hLk]; rfl, HO4, HR4, HF'⟩)
        · simp [intOf] <;> omega
    · obtain rfl : k = N := by omega
      have b0 : ¬ ((k : Int) < (k : Int)) := by omega
      have hf := HF.out
      rw [Nat.sub_self] at hf
      obtain ⟨rfl, rfl⟩ : fi = ik ∧ fl = L := ⟨congrArg Prod.fst hf, by have := congrArg Prod.snd hf; simpa [readLC] using this⟩
      go_wp2_with fail
      go_ret
      exact ⟨_, rfl, HO.out, HR.out.inn, HR.out.kept⟩

end Go.Proofs.YtdmlffbpcjadfaaDoor
