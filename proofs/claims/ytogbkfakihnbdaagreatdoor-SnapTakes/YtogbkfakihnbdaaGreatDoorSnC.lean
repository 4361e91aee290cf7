import Derived.Test.YtogbkfakihnbdaaGreatDoorSnA
/- The code's readOp, asPut of operations, TakeOp (layer 13). -/
namespace Go.Proofs.YtogbkfakihnbdaaGreatDoor
open Go.RowKit
set_option linter.unusedSimpArgs false

/-- What was read so far, the new operation's block beside it. -/
structure RdS (w0 : World) (g : Nat) (gb ga : Nat) (cs ca : Array Value) (i : ByteArray × Int) (W : World) : Prop where
  inn : InAt W g i
  kept : Kept2 g none w0 W
  b : Blk W 37 gb cs
  a : Blk W 37 ga ca
  low : w0.heap.size ≤ ga
  up : ga < gb
  ne : g < ga

theorem RdS.step {w0 : World} {g gb ga : Nat} {cs ca : Array Value} {i i' : ByteArray × Int} {W W' : World} (h : RdS w0 g gb ga cs ca i W) (h2 : InTo W g i' W') : RdS w0 g gb ga cs ca i' W' :=
  ⟨h2.1, h.kept.trans h2.2 (Nx.refl _ _), h.b.kept h2.2 (by have := h.ne; have := h.up; omega) (by simp), h.a.kept h2.2 (by have := h.ne; omega) (by simp), h.low, h.up, h.ne⟩

theorem RdS.set {w0 : World} {g gb ga : Nat} {cs ca : Array Value} {i : ByteArray × Int} {W : World} (h : RdS w0 g gb ga cs ca i W) (j : Nat) (u : Value) : RdS w0 g gb ga (cs.setIfInBounds j u) ca i (W.setCell ⟨gb, j, none⟩ u) := by
  have h1 := h.ne
  have h2 := h.up
  have h3 := h.low
  exact ⟨⟨h.inn.1.grown (grown_set W gb j u) (fun e => by cases e; omega), h.inn.2⟩, h.kept.setNew ⟨gb, j, none⟩ (by show _ ≤ gb; omega) u, h.b.setAt j u, h.a.grown (grown_set W gb j u) (fun e => by cases e; omega), h.low, h.up, h.ne⟩

set_option maxHeartbeats 4000000 in
set_option maxRecDepth 100000 in
theorem readOp_any (g : Nat) (i : ByteArray × Int) (w : World) (h : InAt w g i) :
    Calls Tryz.prog 18 #[.pointer (some ⟨g, 0, none⟩)] w fun e w' => e = .returned (.agg (opA (readOpC i).2)) ∧ InTo w g (readOpC i).1 w' := by
  obtain ⟨i0, hi0⟩ : ∃ i0, i = i0 := ⟨_, rfl⟩
  obtain ⟨⟨i1, X0⟩, e0⟩ : ∃ p, numberP i0 1 = p := ⟨_, rfl⟩
  obtain ⟨x0, hx0⟩ : ∃ x0 : Int, (X0 : Int) = x0 := ⟨_, rfl⟩
  obtain ⟨⟨i2, x1, x2⟩, e1⟩ : ∃ p, inStampC i1 = p := ⟨_, rfl⟩
  obtain ⟨⟨i3, x3, x4⟩, e2⟩ : ∃ p, inStampC i2 = p := ⟨_, rfl⟩
  obtain ⟨⟨i4, x5, x6⟩, e3⟩ : ∃ p, inStampC i3 = p := ⟨_, rfl⟩
  obtain ⟨⟨i5, x7⟩, e4⟩ : ∃ p, inTextC i4 65536 = p := ⟨_, rfl⟩
  obtain ⟨⟨i6, x8⟩, e5⟩ : ∃ p, inTextC i5 65536 = p := ⟨_, rfl⟩
  have hr : readOpC i = (i6, (x0, (x1, x2), (x3, x4), (x5, x6), x7, x8)) := by
    unfold readOpC
    simp only [hi0, e0, e1, e2, e3, e4, e5, hx0]
  rw [hr]
  simp only [opA]
  rw [hi0] at h
  have C0' : ∀ W, InAt W g i0 → _ := fun W hW => ibyte_any g i0 W hW
  rw [e0] at C0'
  simp only [hx0] at C0'
  have C0 : Hid (∀ W, InAt W g i0 → _) := C0'
  have C1' : ∀ W, InAt W g i1 → _ := fun W hW => istamp_any g i1 W hW
  rw [e1] at C1'
  have C1 : Hid (∀ W, InAt W g i1 → _) := C1'
  have C2' : ∀ W, InAt W g i2 → _ := fun W hW => istamp_any g i2 W hW
  rw [e2] at C2'
  have C2 : Hid (∀ W, InAt W g i2 → _) := C2'
  have C3' : ∀ W, InAt W g i3 → _ := fun W hW => istamp_any g i3 W hW
  rw [e3] at C3'
  have C3 : Hid (∀ W, InAt W g i3 → _) := C3'
  have C4' : ∀ W, InAt W g i4 → _ := fun W hW => itext_any g i4 65536 W hW
  rw [e4] at C4'
  have C4 : Hid (∀ W, InAt W g i4 → _) := C4'
  have C5' : ∀ W, InAt W g i5 → _ := fun W hW => itext_any g i5 65536 W hW
  rw [e5] at C5'
  have C5 : Hid (∀ W, InAt W g i5 → _) := C5'
  have HL : Hid (g < w.heap.size) := h.1.lt
  have HI : Hid (InAt w g i0) := h
  clear h hr hi0 hx0 e0 e1 e2 e3 e4 e5 C0' C1' C2' C3' C4' C5'
  go_enter Tryz.func18, Tryz.ntmps18
  go_wp2_with fail
  obtain ⟨ga, hga⟩ : ∃ ga, w.heap.size = ga := ⟨_, rfl⟩
  obtain ⟨gb, hgb⟩ : ∃ gb, w.heap.size + 1 = gb := ⟨_, rfl⟩
  obtain ⟨W0, hW0⟩ : ∃ W0, (w.alloc (.cells #[.int .i64 0, .int .i64 0, .int .i64 0, .int .i64 0, .int .i64 0, .int .i64 0, .int .i64 0, .string ⟨#[]⟩, .string ⟨#[]⟩] 37)).alloc (.cells #[.int .i64 0, .int .i64 0, .int .i64 0, .int .i64 0, .int .i64 0, .int .i64 0, .int .i64 0, .string ⟨#[]⟩, .string ⟨#[]⟩] 37) = W0 := ⟨_, rfl⟩
  have HS : Hid (RdS w g gb ga #[.int .i64 0, .int .i64 0, .int .i64 0, .int .i64 0, .int .i64 0, .int .i64 0, .int .i64 0, .string ⟨#[]⟩, .string ⟨#[]⟩] #[.int .i64 0, .int .i64 0, .int .i64 0, .int .i64 0, .int .i64 0, .int .i64 0, .int .i64 0, .string ⟨#[]⟩, .string ⟨#[]⟩] i0 W0) := by
    show RdS _ _ _ _ _ _ _ _
    have hz := World.size_alloc w (.cells #[.int .i64 0, .int .i64 0, .int .i64 0, .int .i64 0, .int .i64 0, .int .i64 0, .int .i64 0, .string ⟨#[]⟩, .string ⟨#[]⟩] 37)
    have hl := HL.out
    rw [← hW0]
    refine ⟨(HI.out.on (below_new _ _)).on (below_new _ _), Kept2.ofBelow _ _ ((below_new w _).alloc (by rw [World.size_alloc]; omega) _), Blk.new' _ _ _ _ (by rw [World.size_alloc]; exact hgb), (Blk.new' _ _ _ _ hga).on (below_new _ _), by omega, by omega, by omega⟩
  try rw [hW0]
  try rw [hgb]
  try rw [hga]
  clear hW0 hgb hga HI HL
  refine (C0.out W0 HS.out.inn).mono ?_
  rintro e U0 ⟨rfl, hI⟩
  have HU : Hid (RdS w g gb ga #[.int .i64 0, .int .i64 0, .int .i64 0, .int .i64 0, .int .i64 0, .int .i64 0, .int .i64 0, .string ⟨#[]⟩, .string ⟨#[]⟩] #[.int .i64 0, .int .i64 0, .int .i64 0, .int .i64 0, .int .i64 0, .int .i64 0, .int .i64 0, .string ⟨#[]⟩, .string ⟨#[]⟩] i1 U0) := HS.out.step hI
  clear hI HS C0
  have y0 : U0.cell? ⟨gb, 0, none⟩ = some _ := (HU.out).b.cell 0
  have z0 : U0.frozen? ⟨gb, 0, none⟩ = false := (HU.out).b.free 0
  have HS : Hid (RdS w g gb ga #[.int .i64 x0, .int .i64 0, .int .i64 0, .int .i64 0, .int .i64 0, .int .i64 0, .int .i64 0, .string ⟨#[]⟩, .string ⟨#[]⟩] #[.int .i64 0, .int .i64 0, .int .i64 0, .int .i64 0, .int .i64 0, .int .i64 0, .int .i64 0, .string ⟨#[]⟩, .string ⟨#[]⟩] i1 (U0.setCell ⟨gb, 0, none⟩ (.int .i64 x0))) := (HU.out).set 0 (.int .i64 x0)
  obtain ⟨W1, hW1⟩ : ∃ W, (U0.setCell ⟨gb, 0, none⟩ (.int .i64 x0)) = W := ⟨_, rfl⟩
  rw [hW1] at HS
  go_wp2_with fail
  try rw [hW1]
  clear hW1 HU y0 z0
  refine (C1.out W1 HS.out.inn).mono ?_
  rintro e U1 ⟨rfl, hI⟩
  have HU : Hid (RdS w g gb ga #[.int .i64 x0, .int .i64 0, .int .i64 0, .int .i64 0, .int .i64 0, .int .i64 0, .int .i64 0, .string ⟨#[]⟩, .string ⟨#[]⟩] #[.int .i64 0, .int .i64 0, .int .i64 0, .int .i64 0, .int .i64 0, .int .i64 0, .int .i64 0, .string ⟨#[]⟩, .string ⟨#[]⟩] i2 U1) := HS.out.step hI
  clear hI HS C1
  have y1 : U1.cell? ⟨gb, 1, none⟩ = some _ := (HU.out).b.cell 1
  have z1 : U1.frozen? ⟨gb, 1, none⟩ = false := (HU.out).b.free 1
  have y2 : (U1.setCell ⟨gb, 1, none⟩ (.int .i64 x1)).cell? ⟨gb, 2, none⟩ = some _ := ((HU.out).set 1 (.int .i64 x1)).b.cell 2
  have z2 : (U1.setCell ⟨gb, 1, none⟩ (.int .i64 x1)).frozen? ⟨gb, 2, none⟩ = false := ((HU.out).set 1 (.int .i64 x1)).b.free 2
  have HS : Hid (RdS w g gb ga #[.int .i64 x0, .int .i64 x1, .int .i64 x2, .int .i64 0, .int .i64 0, .int .i64 0, .int .i64 0, .string ⟨#[]⟩, .string ⟨#[]⟩] #[.int .i64 0, .int .i64 0, .int .i64 0, .int .i64 0, .int .i64 0, .int .i64 0, .int .i64 0, .string ⟨#[]⟩, .string ⟨#[]⟩] i2 ((U1.setCell ⟨gb, 1, none⟩ (.int .i64 x1)).setCell ⟨gb, 2, none⟩ (.int .i64 x2))) := ((HU.out).set 1 (.int .i64 x1)).set 2 (.int .i64 x2)
  obtain ⟨W2, hW2⟩ : ∃ W, ((U1.setCell ⟨gb, 1, none⟩ (.int .i64 x1)).setCell ⟨gb, 2, none⟩ (.int .i64 x2)) = W := ⟨_, rfl⟩
  rw [hW2] at HS
  go_wp2_with fail
  try rw [hW2]
  clear hW2 HU y1 z1 y2 z2
  refine (C2.out W2 HS.out.inn).mono ?_
  rintro e U2 ⟨rfl, hI⟩
  have HU : Hid (RdS w g gb ga #[.int .i64 x0, .int .i64 x1, .int .i64 x2, .int .i64 0, .int .i64 0, .int .i64 0, .int .i64 0, .string ⟨#[]⟩, .string ⟨#[]⟩] #[.int .i64 0, .int .i64 0, .int .i64 0, .int .i64 0, .int .i64 0, .int .i64 0, .int .i64 0, .string ⟨#[]⟩, .string ⟨#[]⟩] i3 U2) := HS.out.step hI
  clear hI HS C2
  have y3 : U2.cell? ⟨gb, 3, none⟩ = some _ := (HU.out).b.cell 3
  have z3 : U2.frozen? ⟨gb, 3, none⟩ = false := (HU.out).b.free 3
  have y4 : (U2.setCell ⟨gb, 3, none⟩ (.int .i64 x3)).cell? ⟨gb, 4, none⟩ = some _ := ((HU.out).set 3 (.int .i64 x3)).b.cell 4
  have z4 : (U2.setCell ⟨gb, 3, none⟩ (.int .i64 x3)).frozen? ⟨gb, 4, none⟩ = false := ((HU.out).set 3 (.int .i64 x3)).b.free 4
  have HS : Hid (RdS w g gb ga #[.int .i64 x0, .int .i64 x1, .int .i64 x2, .int .i64 x3, .int .i64 x4, .int .i64 0, .int .i64 0, .string ⟨#[]⟩, .string ⟨#[]⟩] #[.int .i64 0, .int .i64 0, .int .i64 0, .int .i64 0, .int .i64 0, .int .i64 0, .int .i64 0, .string ⟨#[]⟩, .string ⟨#[]⟩] i3 ((U2.setCell ⟨gb, 3, none⟩ (.int .i64 x3)).setCell ⟨gb, 4, none⟩ (.int .i64 x4))) := ((HU.out).set 3 (.int .i64 x3)).set 4 (.int .i64 x4)
  obtain ⟨W3, hW3⟩ : ∃ W, ((U2.setCell ⟨gb, 3, none⟩ (.int .i64 x3)).setCell ⟨gb, 4, none⟩ (.int .i64 x4)) = W := ⟨_, rfl⟩
  rw [hW3] at HS
  go_wp2_with fail
  try rw [hW3]
  clear hW3 HU y3 z3 y4 z4
  refine (C3.out W3 HS.out.inn).mono ?_
  rintro e U3 ⟨rfl, hI⟩
  have HU : Hid (RdS w g gb ga #[.int .i64 x0, .int .i64 x1, .int .i64 x2, .int .i64 x3, .int .i64 x4, .int .i64 0, .int .i64 0, .string ⟨#[]⟩, .string ⟨#[]⟩] #[.int .i64 0, .int .i64 0, .int .i64 0, .int .i64 0, .int .i64 0, .int .i64 0, .int .i64 0, .string ⟨#[]⟩, .string ⟨#[]⟩] i4 U3) := HS.out.step hI
  clear hI HS C3
  have y5 : U3.cell? ⟨gb, 5, none⟩ = some _ := (HU.out).b.cell 5
  have z5 : U3.frozen? ⟨gb, 5, none⟩ = false := (HU.out).b.free 5
  have y6 : (U3.setCell ⟨gb, 5, none⟩ (.int .i64 x5)).cell? ⟨gb, 6, none⟩ = some _ := ((HU.out).set 5 (.int .i64 x5)).b.cell 6
  have z6 : (U3.setCell ⟨gb, 5, none⟩ (.int .i64 x5)).frozen? ⟨gb, 6, none⟩ = false := ((HU.out).set 5 (.int .i64 x5)).b.free 6
  have HS : Hid (RdS w g gb ga #[.int .i64 x0, .int .i64 x1, .int .i64 x2, .int .i64 x3, .int .i64 x4, .int .i64 x5, .int .i64 x6, .string ⟨#[]⟩, .string ⟨#[]⟩] #[.int .i64 0, .int .i64 0, .int .i64 0, .int .i64 0, .int .i64 0, .int .i64 0, .int .i64 0, .string ⟨#[]⟩, .string ⟨#[]⟩] i4 ((U3.setCell ⟨gb, 5, none⟩ (.int .i64 x5)).setCell ⟨gb, 6, none⟩ (.int .i64 x6))) := ((HU.out).set 5 (.int .i64 x5)).set 6 (.int .i64 x6)
  obtain ⟨W4, hW4⟩ : ∃ W, ((U3.setCell ⟨gb, 5, none⟩ (.int .i64 x5)).setCell ⟨gb, 6, none⟩ (.int .i64 x6)) = W := ⟨_, rfl⟩
  rw [hW4] at HS
  go_wp2_with fail
  try rw [hW4]
  clear hW4 HU y5 z5 y6 z6
  refine (C4.out W4 HS.out.inn).mono ?_
  rintro e U4 ⟨rfl, hI⟩
  have HU : Hid (RdS w g gb ga #[.int .i64 x0, .int .i64 x1, .int .i64 x2, .int .i64 x3, .int .i64 x4, .int .i64 x5, .int .i64 x6, .string ⟨#[]⟩, .string ⟨#[]⟩] #[.int .i64 0, .int .i64 0, .int .i64 0, .int .i64 0, .int .i64 0, .int .i64 0, .int .i64 0, .string ⟨#[]⟩, .string ⟨#[]⟩] i5 U4) := HS.out.step hI
  clear hI HS C4
  have y7 : U4.cell? ⟨gb, 7, none⟩ = some _ := (HU.out).b.cell 7
  have z7 : U4.frozen? ⟨gb, 7, none⟩ = false := (HU.out).b.free 7
  have HS : Hid (RdS w g gb ga #[.int .i64 x0, .int .i64 x1, .int .i64 x2, .int .i64 x3, .int .i64 x4, .int .i64 x5, .int .i64 x6, .string x7, .string ⟨#[]⟩] #[.int .i64 0, .int .i64 0, .int .i64 0, .int .i64 0, .int .i64 0, .int .i64 0, .int .i64 0, .string ⟨#[]⟩, .string ⟨#[]⟩] i5 (U4.setCell ⟨gb, 7, none⟩ (.string x7))) := (HU.out).set 7 (.string x7)
  obtain ⟨W5, hW5⟩ : ∃ W, (U4.setCell ⟨gb, 7, none⟩ (.string x7)) = W := ⟨_, rfl⟩
  rw [hW5] at HS
  go_wp2_with fail
  try rw [hW5]
  clear hW5 HU y7 z7
  refine (C5.out W5 HS.out.inn).mono ?_
  rintro e U5 ⟨rfl, hI⟩
  have HU : Hid (RdS w g gb ga #[.int .i64 x0, .int .i64 x1, .int .i64 x2, .int .i64 x3, .int .i64 x4, .int .i64 x5, .int .i64 x6, .string x7, .string ⟨#[]⟩] #[.int .i64 0, .int .i64 0, .int .i64 0, .int .i64 0, .int .i64 0, .int .i64 0, .int .i64 0, .string ⟨#[]⟩, .string ⟨#[]⟩] i6 U5) := HS.out.step hI
  clear hI HS C5
  have y8 : U5.cell? ⟨gb, 8, none⟩ = some _ := (HU.out).b.cell 8
  have z8 : U5.frozen? ⟨gb, 8, none⟩ = false := (HU.out).b.free 8
  have HS : Hid (RdS w g gb ga #[.int .i64 x0, .int .i64 x1, .int .i64 x2, .int .i64 x3, .int .i64 x4, .int .i64 x5, .int .i64 x6, .string x7, .string x8] #[.int .i64 0, .int .i64 0, .int .i64 0, .int .i64 0, .int .i64 0, .int .i64 0, .int .i64 0, .string ⟨#[]⟩, .string ⟨#[]⟩] i6 (U5.setCell ⟨gb, 8, none⟩ (.string x8))) := (HU.out).set 8 (.string x8)
  obtain ⟨W6, hW6⟩ : ∃ W, (U5.setCell ⟨gb, 8, none⟩ (.string x8)) = W := ⟨_, rfl⟩
  rw [hW6] at HS
  have q0 : W6.cell? ⟨gb, 0, none⟩ = some (.int .i64 x0) := HS.out.b.cell 0
  have q1 : W6.cell? ⟨gb, 1, none⟩ = some (.int .i64 x1) := HS.out.b.cell 1
  have q2 : W6.cell? ⟨gb, 2, none⟩ = some (.int .i64 x2) := HS.out.b.cell 2
  have q3 : W6.cell? ⟨gb, 3, none⟩ = some (.int .i64 x3) := HS.out.b.cell 3
  have q4 : W6.cell? ⟨gb, 4, none⟩ = some (.int .i64 x4) := HS.out.b.cell 4
  have q5 : W6.cell? ⟨gb, 5, none⟩ = some (.int .i64 x5) := HS.out.b.cell 5
  have q6 : W6.cell? ⟨gb, 6, none⟩ = some (.int .i64 x6) := HS.out.b.cell 6
  have q7 : W6.cell? ⟨gb, 7, none⟩ = some (.string x7) := HS.out.b.cell 7
  have q8 : W6.cell? ⟨gb, 8, none⟩ = some (.string x8) := HS.out.b.cell 8
  have HQ : Hid (Blk W6 37 ga #[.int .i64 0, .int .i64 0, .int .i64 0, .int .i64 0, .int .i64 0, .int .i64 0, .int .i64 0, .string ⟨#[]⟩, .string ⟨#[]⟩]) := HS.out.a
  go_wp2_with (with_reducible refine wpList_storeBlk rfl 37 _ _ rfl ga #[.int .i64 0, .int .i64 0, .int .i64 0, .int .i64 0, .int .i64 0, .int .i64 0, .int .i64 0, .string ⟨#[]⟩, .string ⟨#[]⟩] #[.int .i64 x0, .int .i64 x1, .int .i64 x2, .int .i64 x3, .int .i64 x4, .int .i64 x5, .int .i64 x6, .string x7, .string x8] ?hx ?hy HQ.out rfl ?hi ?h1 ?_)
  try (case hx => rfl)
  try (case hy => rfl)
  try (case hi => kernel_rfl)
  try (case h1 => simp [Value.oneCell'])
  try rw [hW6]
  have hk := HS.out.kept
  have hne := HS.out.ne
  have hup := HS.out.up
  have hlo := HS.out.low
  exact bodyPost_row rfl ga #[.int .i64 x0, .int .i64 x1, .int .i64 x2, .int .i64 x3, .int .i64 x4, .int .i64 x5, .int .i64 x6, .string x7, .string x8] rfl rfl (HS.out.a.setRow _) _ Tryz.underlying37 rfl (by kernel_rfl) ⟨rfl, ⟨HS.out.inn.1.setRowOther _ (by omega) _, HS.out.inn.2⟩, ⟨hk.os, hk.tape, hk.output, by have := hk.size; simpa [World.setRow] using this, fun k a b c => by rw [setRow_other _ _ _ _ (by omega)]; exact hk.block k a b c⟩⟩
end Go.Proofs.YtogbkfakihnbdaaGreatDoor

/- The code's asPut of operations, TakeOp (layer 13). -/
namespace Go.Proofs.YtogbkfakihnbdaaGreatDoor
open Go.RowKit
set_option linter.unusedSimpArgs false

/-- What was read, if it is put as just those bytes. -/
def asP (M : OpT → Bool) (x : OpT) (s : ByteArray) : OpT × Int := if (putOpP M x).2 ≠ 0 ∨ (putOpP M x).1 ≠ s then (op0, 91) else (x, 0)

theorem inTextC_size (i : ByteArray × Int) (most : Int) : (inTextC i most).2.size ≤ 1048576 := by
  unfold inTextC
  split
  · exact Nat.zero_le _
  · exact Nat.le_trans (takeS_size _ _) (by have := number2_lt i; omega)

theorem readOpC_sizes (i : ByteArray × Int) : (readOpC i).2.2.2.2.2.1.size ≤ 1048576 ∧ (readOpC i).2.2.2.2.2.2.size ≤ 9223372036854775807 := by
  unfold readOpC
  simp only
  exact ⟨inTextC_size _ _, Nat.le_trans (inTextC_size _ _) (by decide)⟩

theorem text_ne {a b : ByteArray} (h : ¬ a = b) : (a.toList == b.toList) = false := by
  cases e : (a.toList == b.toList) with
  | false => rfl
  | true =>
    refine absurd ?_ h
    have := eq_of_beq e
    rw [toList_data, toList_data] at this
    exact ByteArray.ext (Array.toList_inj.1 this)

set_option maxHeartbeats 4000000 in
set_option maxRecDepth 100000 in
theorem asPutOp_any (M : OpT → Bool) (hM : ∀ o, M o = true ↔ MayO o) (x : OpT) (s : ByteArray) (w : World) (hG : Glob8 w) (h7 : x.2.2.2.2.1.size ≤ 1048576) (h8 : x.2.2.2.2.2.size ≤ 9223372036854775807) :
    Calls Tryz.prog 40 #[.func (.func 9) #[] #[], .agg (opA x), .string s] w fun e w' => e = .returned (.tuple #[.agg (opA (asP M x s).1), .int .i64 (asP M x s).2]) ∧ Below w.heap.size w w' := by
  have CP' : ∀ W, Below w.heap.size w W → _ := fun W hW => putOp_any M hM x W (hG.below hW) h7 h8
  obtain ⟨⟨B, E⟩, hp⟩ : ∃ p, putOpP M x = p := ⟨_, rfl⟩
  unfold asP
  rw [hp] at CP' ⊢
  obtain ⟨k0, ⟨k1, k2⟩, ⟨k3, k4⟩, ⟨k5, k6⟩, s7, s8⟩ := x
  simp only [opA] at CP' ⊢
  have CP : Hid (∀ W, Below w.heap.size w W → _) := CP'
  clear CP' hp hG h7 h8
  by_cases hE : E = 0
  · subst hE
    by_cases hB : B = s
    · subst hB
      rw [if_neg (by simp)]
      simp only [opA]
      go_enter Tryz.func40, Tryz.ntmps40
      go_wp2_with fail
      obtain ⟨h0, hh0⟩ : ∃ h0, w.heap.size = h0 := ⟨_, rfl⟩
      obtain ⟨w0, hw0⟩ : ∃ w0, (w.alloc (.cells #[.int .i64 k0, .int .i64 k1, .int .i64 k2, .int .i64 k3, .int .i64 k4, .int .i64 k5, .int .i64 k6, .string s7, .string s8] 37)).alloc (.cells #[.int .i64 0, .int .i64 0, .int .i64 0, .int .i64 0, .int .i64 0, .int .i64 0, .int .i64 0, .string ⟨#[]⟩, .string ⟨#[]⟩] 37) = w0 := ⟨_, rfl⟩
      have HB0 : Hid (Below w.heap.size w w0) := by show Below _ _ _; rw [← hw0]; exact (below_new _ _).alloc (by rw [World.size_alloc]; omega) _
      have HX0 : Hid (Blk w0 37 h0 #[.int .i64 k0, .int .i64 k1, .int .i64 k2, .int .i64 k3, .int .i64 k4, .int .i64 k5, .int .i64 k6, .string s7, .string s8]) := by show Blk _ _ _ _; rw [← hw0]; exact (Blk.new' _ _ _ _ hh0).on (below_new _ _)
      have HZ0 : Hid (Blk w0 37 (h0 + 1) #[.int .i64 0, .int .i64 0, .int .i64 0, .int .i64 0, .int .i64 0, .int .i64 0, .int .i64 0, .string ⟨#[]⟩, .string ⟨#[]⟩]) := by show Blk _ _ _ _; rw [← hw0]; exact Blk.new' _ _ _ _ (by rw [World.size_alloc]; omega)
      have HL : Hid (w.heap.size ≤ h0) := by show _ ≤ _; omega
      try rw [hw0]
      try rw [hh0]
      clear hw0 hh0
      refine (CP.out w0 HB0.out).mono ?_
      rintro e w1 ⟨rfl, hb1⟩
      have HB1 : Hid (Below w.heap.size w w1) := below_step HB0.out (Nat.le_refl _) hb1
      have HX1 : Hid (Blk w1 37 h0 #[.int .i64 k0, .int .i64 k1, .int .i64 k2, .int .i64 k3, .int .i64 k4, .int .i64 k5, .int .i64 k6, .string s7, .string s8]) := HX0.out.on hb1
      have HZ1 : Hid (Blk w1 37 (h0 + 1) #[.int .i64 0, .int .i64 0, .int .i64 0, .int .i64 0, .int .i64 0, .int .i64 0, .int .i64 0, .string ⟨#[]⟩, .string ⟨#[]⟩]) := HZ0.out.on hb1
      clear hb1 HB0 HX0 HZ0 CP
      have q0 : w1.cell? ⟨h0, 0, none⟩ = some (.int .i64 k0) := HX1.out.cell 0
      have q1 : w1.cell? ⟨h0, 1, none⟩ = some (.int .i64 k1) := HX1.out.cell 1
      have q2 : w1.cell? ⟨h0, 2, none⟩ = some (.int .i64 k2) := HX1.out.cell 2
      have q3 : w1.cell? ⟨h0, 3, none⟩ = some (.int .i64 k3) := HX1.out.cell 3
      have q4 : w1.cell? ⟨h0, 4, none⟩ = some (.int .i64 k4) := HX1.out.cell 4
      have q5 : w1.cell? ⟨h0, 5, none⟩ = some (.int .i64 k5) := HX1.out.cell 5
      have q6 : w1.cell? ⟨h0, 6, none⟩ = some (.int .i64 k6) := HX1.out.cell 6
      have q7 : w1.cell? ⟨h0, 7, none⟩ = some (.string s7) := HX1.out.cell 7
      have q8 : w1.cell? ⟨h0, 8, none⟩ = some (.string s8) := HX1.out.cell 8
      go_wp2_with (with_reducible refine wpList_storeBlk rfl 37 _ _ rfl (h0 + 1) #[.int .i64 0, .int .i64 0, .int .i64 0, .int .i64 0, .int .i64 0, .int .i64 0, .int .i64 0, .string ⟨#[]⟩, .string ⟨#[]⟩] #[.int .i64 k0, .int .i64 k1, .int .i64 k2, .int .i64 k3, .int .i64 k4, .int .i64 k5, .int .i64 k6, .string s7, .string s8] ?hx ?hy HZ1.out rfl ?hi ?h1 ?_)
      try (case hx => rfl)
      try (case hy => rfl)
      try (case hi => kernel_rfl)
      try (case h1 => simp [Value.oneCell'])
      exact bodyPost_rowTmp rfl (h0 + 1) _ _ rfl rfl rfl (HZ1.out.setRow _) _ Tryz.underlying37 rfl (by kernel_rfl) ⟨rfl, below_setRow HB1.out (by have := HL.out; omega) _⟩
    · rw [if_pos (.inr hB)]
      simp only [op0, opA]
      have hB' := text_ne hB
      go_enter Tryz.func40, Tryz.ntmps40
      go_wp2_with fail
      obtain ⟨h0, hh0⟩ : ∃ h0, w.heap.size = h0 := ⟨_, rfl⟩
      obtain ⟨w0, hw0⟩ : ∃ w0, (w.alloc (.cells #[.int .i64 k0, .int .i64 k1, .int .i64 k2, .int .i64 k3, .int .i64 k4, .int .i64 k5, .int .i64 k6, .string s7, .string s8] 37)).alloc (.cells #[.int .i64 0, .int .i64 0, .int .i64 0, .int .i64 0, .int .i64 0, .int .i64 0, .int .i64 0, .string ⟨#[]⟩, .string ⟨#[]⟩] 37) = w0 := ⟨_, rfl⟩
      have HB0 : Hid (Below w.heap.size w w0) := by show Below _ _ _; rw [← hw0]; exact (below_new _ _).alloc (by rw [World.size_alloc]; omega) _
      have HX0 : Hid (Blk w0 37 h0 #[.int .i64 k0, .int .i64 k1, .int .i64 k2, .int .i64 k3, .int .i64 k4, .int .i64 k5, .int .i64 k6, .string s7, .string s8]) := by show Blk _ _ _ _; rw [← hw0]; exact (Blk.new' _ _ _ _ hh0).on (below_new _ _)
      have HZ0 : Hid (Blk w0 37 (h0 + 1) #[.int .i64 0, .int .i64 0, .int .i64 0, .int .i64 0, .int .i64 0, .int .i64 0, .int .i64 0, .string ⟨#[]⟩, .string ⟨#[]⟩]) := by show Blk _ _ _ _; rw [← hw0]; exact Blk.new' _ _ _ _ (by rw [World.size_alloc]; omega)
      have HL : Hid (w.heap.size ≤ h0) := by show _ ≤ _; omega
      try rw [hw0]
      try rw [hh0]
      clear hw0 hh0
      refine (CP.out w0 HB0.out).mono ?_
      rintro e w1 ⟨rfl, hb1⟩
      have HB1 : Hid (Below w.heap.size w w1) := below_step HB0.out (Nat.le_refl _) hb1
      have HX1 : Hid (Blk w1 37 h0 #[.int .i64 k0, .int .i64 k1, .int .i64 k2, .int .i64 k3, .int .i64 k4, .int .i64 k5, .int .i64 k6, .string s7, .string s8]) := HX0.out.on hb1
      have HZ1 : Hid (Blk w1 37 (h0 + 1) #[.int .i64 0, .int .i64 0, .int .i64 0, .int .i64 0, .int .i64 0, .int .i64 0, .int .i64 0, .string ⟨#[]⟩, .string ⟨#[]⟩]) := HZ0.out.on hb1
      clear hb1 HB0 HX0 HZ0 CP
      have HZ2 : Hid (Blk (w1.alloc (.cells #[.int .i64 0, .int .i64 0, .int .i64 0, .int .i64 0, .int .i64 0, .int .i64 0, .int .i64 0, .string ⟨#[]⟩, .string ⟨#[]⟩] 37)) 37 (h0 + 1) #[.int .i64 0, .int .i64 0, .int .i64 0, .int .i64 0, .int .i64 0, .int .i64 0, .int .i64 0, .string ⟨#[]⟩, .string ⟨#[]⟩]) := HZ1.out.on (below_new _ _)
      have hB2 : Below w.heap.size w (w1.alloc (.cells #[.int .i64 0, .int .i64 0, .int .i64 0, .int .i64 0, .int .i64 0, .int .i64 0, .int .i64 0, .string ⟨#[]⟩, .string ⟨#[]⟩] 37)) := HB1.out.alloc HB1.out.size _
      go_wp2_with (with_reducible refine wpList_storeBlk rfl 37 _ _ rfl (h0 + 1) #[.int .i64 0, .int .i64 0, .int .i64 0, .int .i64 0, .int .i64 0, .int .i64 0, .int .i64 0, .string ⟨#[]⟩, .string ⟨#[]⟩] #[.int .i64 0, .int .i64 0, .int .i64 0, .int .i64 0, .int .i64 0, .int .i64 0, .int .i64 0, .string ⟨#[]⟩, .string ⟨#[]⟩] ?hx ?hy HZ2.out rfl ?hi ?h1 ?_)
      try (case hx => rfl)
      try (case hy => rfl)
      try (case hi => kernel_rfl)
      try (case h1 => simp [Value.oneCell'])
      exact bodyPost_rowTmp rfl (h0 + 1) _ _ rfl rfl rfl (HZ2.out.setRow _) _ Tryz.underlying37 rfl (by kernel_rfl) ⟨rfl, below_setRow hB2 (by have := HL.out; omega) _⟩
  · rw [if_pos (.inl hE)]
    simp only [op0, opA]
    have hE' : (E == 0) = false := by simp [hE]
    go_enter Tryz.func40, Tryz.ntmps40
    go_wp2_with fail
    obtain ⟨h0, hh0⟩ : ∃ h0, w.heap.size = h0 := ⟨_, rfl⟩
    obtain ⟨w0, hw0⟩ : ∃ w0, (w.alloc (.cells #[.int .i64 k0, .int .i64 k1, .int .i64 k2, .int .i64 k3, .int .i64 k4, .int .i64 k5, .int .i64 k6, .string s7, .string s8] 37)).alloc (.cells #[.int .i64 0, .int .i64 0, .int .i64 0, .int .i64 0, .int .i64 0, .int .i64 0, .int .i64 0, .string ⟨#[]⟩, .string ⟨#[]⟩] 37) = w0 := ⟨_, rfl⟩
    have HB0 : Hid (Below w.heap.size w w0) := by show Below _ _ _; rw [← hw0]; exact (below_new _ _).alloc (by rw [World.size_alloc]; omega) _
    have HX0 : Hid (Blk w0 37 h0 #[.int .i64 k0, .int .i64 k1, .int .i64 k2, .int .i64 k3, .int .i64 k4, .int .i64 k5, .int .i64 k6, .string s7, .string s8]) := by show Blk _ _ _ _; rw [← hw0]; exact (Blk.new' _ _ _ _ hh0).on (below_new _ _)
    have HZ0 : Hid (Blk w0 37 (h0 + 1) #[.int .i64 0, .int .i64 0, .int .i64 0, .int .i64 0, .int .i64 0, .int .i64 0, .int .i64 0, .string ⟨#[]⟩, .string ⟨#[]⟩]) := by show Blk _ _ _ _; rw [← hw0]; exact Blk.new' _ _ _ _ (by rw [World.size_alloc]; omega)
    have HL : Hid (w.heap.size ≤ h0) := by show _ ≤ _; omega
    try rw [hw0]
    try rw [hh0]
    clear hw0 hh0
    refine (CP.out w0 HB0.out).mono ?_
    rintro e w1 ⟨rfl, hb1⟩
    have HB1 : Hid (Below w.heap.size w w1) := below_step HB0.out (Nat.le_refl _) hb1
    have HX1 : Hid (Blk w1 37 h0 #[.int .i64 k0, .int .i64 k1, .int .i64 k2, .int .i64 k3, .int .i64 k4, .int .i64 k5, .int .i64 k6, .string s7, .string s8]) := HX0.out.on hb1
    have HZ1 : Hid (Blk w1 37 (h0 + 1) #[.int .i64 0, .int .i64 0, .int .i64 0, .int .i64 0, .int .i64 0, .int .i64 0, .int .i64 0, .string ⟨#[]⟩, .string ⟨#[]⟩]) := HZ0.out.on hb1
    clear hb1 HB0 HX0 HZ0 CP
    have HZ2 : Hid (Blk (w1.alloc (.cells #[.int .i64 0, .int .i64 0, .int .i64 0, .int .i64 0, .int .i64 0, .int .i64 0, .int .i64 0, .string ⟨#[]⟩, .string ⟨#[]⟩] 37)) 37 (h0 + 1) #[.int .i64 0, .int .i64 0, .int .i64 0, .int .i64 0, .int .i64 0, .int .i64 0, .int .i64 0, .string ⟨#[]⟩, .string ⟨#[]⟩]) := HZ1.out.on (below_new _ _)
    have hB2 : Below w.heap.size w (w1.alloc (.cells #[.int .i64 0, .int .i64 0, .int .i64 0, .int .i64 0, .int .i64 0, .int .i64 0, .int .i64 0, .string ⟨#[]⟩, .string ⟨#[]⟩] 37)) := HB1.out.alloc HB1.out.size _
    go_wp2_with (with_reducible refine wpList_storeBlk rfl 37 _ _ rfl (h0 + 1) #[.int .i64 0, .int .i64 0, .int .i64 0, .int .i64 0, .int .i64 0, .int .i64 0, .int .i64 0, .string ⟨#[]⟩, .string ⟨#[]⟩] #[.int .i64 0, .int .i64 0, .int .i64 0, .int .i64 0, .int .i64 0, .int .i64 0, .int .i64 0, .string ⟨#[]⟩, .string ⟨#[]⟩] ?hx ?hy HZ2.out rfl ?hi ?h1 ?_)
    try (case hx => rfl)
    try (case hy => rfl)
    try (case hi => kernel_rfl)
    try (case h1 => simp [Value.oneCell'])
    exact bodyPost_rowTmp rfl (h0 + 1) _ _ rfl rfl rfl (HZ2.out.setRow _) _ Tryz.underlying37 rfl (by kernel_rfl) ⟨rfl, below_setRow hB2 (by have := HL.out; omega) _⟩

set_option maxHeartbeats 4000000 in
set_option maxRecDepth 100000 in
theorem takeOp_any (M : OpT → Bool) (hM : ∀ o, M o = true ↔ MayO o) (s : ByteArray) (w : World) (hG : Glob8 w) (hs : s.size ≤ 1048576) :
    Calls Tryz.prog 10 #[.string s] w fun e w' => e = .returned (.tuple #[.agg (opA (takeOpC M s).1), .int .i64 (takeOpC M s).2]) ∧ Below w.heap.size w w' := by
  have hz := readOpC_sizes (s, 0)
  have CA' : ∀ W, Below w.heap.size w W → _ := fun W hW => asPutOp_any M hM (readOpC (s, 0)).2 s W (hG.below hW) hz.1 hz.2
  have CR' : ∀ W g, InAt W g (s, 0) → _ := fun W g hW => readOp_any g (s, 0) W hW
  obtain ⟨X, hX⟩ : ∃ X, takeOpC M s = X := ⟨_, rfl⟩
  have hX' : asP M (readOpC (s, 0)).2 s = X := hX
  rw [hX]
  simp only [hX'] at CA'
  obtain ⟨⟨i1, x⟩, hx⟩ : ∃ p, readOpC (s, 0) = p := ⟨_, rfl⟩
  simp only [hx] at CA' CR'
  obtain ⟨⟨k0, ⟨k1, k2⟩, ⟨k3, k4⟩, ⟨k5, k6⟩, s7, s8⟩, E⟩ := X
  simp only [opA] at CA' ⊢
  have CA : Hid (∀ W, Below w.heap.size w W → _) := CA'
  have CR : Hid (∀ W g, InAt W g (s, 0) → _) := CR'
  clear CA' CR' hX hX' hx hG hz
  have HB0 : Hid (Below w.heap.size w (w.alloc (.cells #[.int .i64 0, .int .i64 0, .int .i64 0, .int .i64 0, .int .i64 0, .int .i64 0, .int .i64 0, .string ⟨#[]⟩, .string ⟨#[]⟩] 37))) := below_new _ _
  have HZ0 : Hid (Blk (w.alloc (.cells #[.int .i64 0, .int .i64 0, .int .i64 0, .int .i64 0, .int .i64 0, .int .i64 0, .int .i64 0, .string ⟨#[]⟩, .string ⟨#[]⟩] 37)) 37 w.heap.size #[.int .i64 0, .int .i64 0, .int .i64 0, .int .i64 0, .int .i64 0, .int .i64 0, .int .i64 0, .string ⟨#[]⟩, .string ⟨#[]⟩]) := Blk.new _ _ _
  go_enter Tryz.func10, Tryz.ntmps10
  go_wp2_with fail
  refine (newIn_any s _ hs).mono ?_
  rintro e w1 ⟨rfl, hI1, hb1⟩
  have HB1 : Hid (Below w.heap.size w w1) := below_step HB0.out (Nat.le_refl _) hb1
  have HZ1 : Hid (Blk w1 37 w.heap.size #[.int .i64 0, .int .i64 0, .int .i64 0, .int .i64 0, .int .i64 0, .int .i64 0, .int .i64 0, .string ⟨#[]⟩, .string ⟨#[]⟩]) := HZ0.out.on hb1
  obtain ⟨g, hg⟩ : ∃ g, (w.alloc (.cells #[.int .i64 0, .int .i64 0, .int .i64 0, .int .i64 0, .int .i64 0, .int .i64 0, .int .i64 0, .string ⟨#[]⟩, .string ⟨#[]⟩] 37)).heap.size = g := ⟨_, rfl⟩
  rw [World.size_alloc] at hg
  have HI1 : Hid (InAt w1 g (s, 0)) := by show InAt _ _ _; rw [← hg, ← World.size_alloc w]; exact hI1
  have HG : Hid (w.heap.size < g) := by show _ < _; omega
  try rw [World.size_alloc]
  try rw [hg]
  clear hI1 hb1 HB0 HZ0 hg
  go_wp2_with fail
  refine (CR.out w1 g HI1.out).mono ?_
  rintro e w2 ⟨rfl, hI2⟩
  have HB2 : Hid (Below w.heap.size w w2) := HB1.out.trans (hI2.2.below w.heap.size HB1.out.size (Nat.le_of_lt HG.out) (fun _ h => by cases h))
  have HZ2 : Hid (Blk w2 37 w.heap.size #[.int .i64 0, .int .i64 0, .int .i64 0, .int .i64 0, .int .i64 0, .int .i64 0, .int .i64 0, .string ⟨#[]⟩, .string ⟨#[]⟩]) := HZ1.out.kept hI2.2 (Nat.ne_of_lt HG.out) (by simp)
  clear hI2 HB1 HZ1 HI1 CR
  go_wp2_with fail
  refine (CA.out w2 HB2.out).mono ?_
  rintro e w3 ⟨rfl, hb3⟩
  have HB3 : Hid (Below w.heap.size w w3) := below_step HB2.out (Nat.le_refl _) hb3
  have HZ3 : Hid (Blk w3 37 w.heap.size #[.int .i64 0, .int .i64 0, .int .i64 0, .int .i64 0, .int .i64 0, .int .i64 0, .int .i64 0, .string ⟨#[]⟩, .string ⟨#[]⟩]) := HZ2.out.on hb3
  clear hb3 HB2 HZ2 CA
  go_wp2_with (with_reducible refine wpList_storeBlk rfl 37 _ _ rfl w.heap.size #[.int .i64 0, .int .i64 0, .int .i64 0, .int .i64 0, .int .i64 0, .int .i64 0, .int .i64 0, .string ⟨#[]⟩, .string ⟨#[]⟩] #[.int .i64 k0, .int .i64 k1, .int .i64 k2, .int .i64 k3, .int .i64 k4, .int .i64 k5, .int .i64 k6, .string s7, .string s8] ?hx ?hy HZ3.out rfl ?hi ?h1 ?_)
  try (case hx => rfl)
  try (case hy => rfl)
  try (case hi => kernel_rfl)
  try (case h1 => simp [Value.oneCell'])
  exact bodyPost_rowTmp rfl w.heap.size _ _ rfl rfl rfl (HZ3.out.setRow _) _ Tryz.underlying37 rfl (by kernel_rfl) ⟨rfl, below_setRow HB3.out (Nat.le_refl _) _⟩
end Go.Proofs.YtogbkfakihnbdaaGreatDoor
