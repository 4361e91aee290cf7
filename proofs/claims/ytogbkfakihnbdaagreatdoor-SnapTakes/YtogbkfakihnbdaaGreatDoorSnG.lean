import Derived.Test.YtogbkfakihnbdaaGreatDoorSnF
/- The code's Take of a tree without nodes and operations (layer 13). -/
namespace Go.Proofs.YtogbkfakihnbdaaGreatDoor
open Go.RowKit
set_option linter.unusedSimpArgs false

/-- What Take reads of, the variable that its closures hold, what is read, the answer's cell. -/
structure TkS (w : World) (h g hc hx : Nat) (i : ByteArray × Int) (cs : Array Value) (W : World) : Prop where
  inn : InAt W g i
  cap : Blk W 42 hc #[.pointer (some ⟨g, 0, none⟩)]
  x : Blk W 28 hx cs
  z : Blk W 28 h #[.slice none 0 0, .slice none 0 0, .int .i64 0, .int .i64 0]
  bel : Below w.heap.size w W
  lh : w.heap.size ≤ h
  hg : h < g
  gc : g < hc
  cx : hc < hx

theorem TkS.step {w : World} {h g hc hx : Nat} {i i' : ByteArray × Int} {cs : Array Value} {W W' : World} (k : TkS w h g hc hx i cs W) (h2 : InTo W g i' W') : TkS w h g hc hx i' cs W' := by
  have h1 := k.hg
  have h3 := k.gc
  have h4 := k.cx
  have h5 := k.lh
  exact ⟨h2.1, k.cap.kept h2.2 (by omega) (by simp), k.x.kept h2.2 (by omega) (by simp), k.z.kept h2.2 (by omega) (by simp), k.bel.trans (h2.2.below _ k.bel.size (by omega) (fun _ e => by cases e)), k.lh, k.hg, k.gc, k.cx⟩

theorem TkS.set {w : World} {h g hc hx : Nat} {i : ByteArray × Int} {cs : Array Value} {W : World} (k : TkS w h g hc hx i cs W) (j : Nat) (u : Value) : TkS w h g hc hx i (cs.setIfInBounds j u) (W.setCell ⟨hx, j, none⟩ u) := by
  have h1 := k.hg
  have h3 := k.gc
  have h4 := k.cx
  have h5 := k.lh
  have G := grown_set W hx j u
  exact ⟨⟨k.inn.1.grown G (fun e => by have := Option.some.inj e; omega), k.inn.2⟩, k.cap.grown G (fun e => by have := Option.some.inj e; omega), k.x.setAt j u, k.z.grown G (fun e => by have := Option.some.inj e; omega), k.bel.setCell (p := ⟨hx, j, none⟩) (by show _ ≤ hx; omega) u, k.lh, k.hg, k.gc, k.cx⟩

theorem TkS.on {w : World} {h g hc hx : Nat} {i : ByteArray × Int} {cs : Array Value} {W W' : World} (k : TkS w h g hc hx i cs W) (hb : Below W.heap.size W W') : TkS w h g hc hx i cs W' :=
  ⟨k.inn.on hb, k.cap.on hb, k.x.on hb, k.z.on hb, below_step k.bel (Nat.le_refl _) hb, k.lh, k.hg, k.gc, k.cx⟩

set_option maxHeartbeats 8000000 in
set_option maxRecDepth 100000 in
theorem take0_any (s : ByteArray) (w : World) (hs : s.size ≤ 65536) (i1 i2 i3 : ByteArray × Int) (b1 b2 : Int) (P : ByteArray) (E : Int) (h1 : inStampC (s, 0) = (i1, (b1, b2))) (h2 : inNumP i1 = (i2, 0)) (h3 : inNumP i2 = (i3, 0))
    (CP : Hid (∀ W, Below w.heap.size w W → Calls Tryz.prog 8 #[.agg #[.slice none 0 0, .slice none 0 0, .int .i64 b1, .int .i64 b2]] W fun e w' => e = .returned (.tuple #[.string P, .int .i64 E]) ∧ Below W.heap.size W w')) :
    Calls Tryz.prog 5 #[.string s] w fun e w' => e = .returned (.tuple #[.agg (if E ≠ 0 ∨ P ≠ s then #[.slice none 0 0, .slice none 0 0, .int .i64 0, .int .i64 0] else #[.slice none 0 0, .slice none 0 0, .int .i64 b1, .int .i64 b2]), .int .i64 (if E ≠ 0 ∨ P ≠ s then 91 else 0)]) ∧ Below w.heap.size w w' := by
  have hmf : ∀ (fn : Fn) (first cap : Array Value) (w : World), (Instr.makeFunc fn first cap).run Tryz.prog w = .ok (.func fn first cap) w := fun _ _ _ _ => rfl
  have C1' : ∀ W g, InAt W g (s, 0) → _ := fun W g hW => istamp_any g (s, 0) W hW
  simp only [h1] at C1'
  have C1 : Hid (∀ W g, InAt W g (s, 0) → _) := C1'
  have C2 : Hid (∀ W g hc, InAt W g i1 → _) := fun W g hc hW => rlistN_none g hc i1 i2 W hW h2
  have C3 : Hid (∀ W g hc, InAt W g i2 → _) := fun W g hc hW => rlistO_none g hc i2 i3 W hW h3
  have CA : Hid (∀ W, Below w.heap.size w W → _) := fun W hW => asPutS_any none none 0 0 0 0 b1 b2 P s E W (fun W' hW' => CP.out W' (below_step hW (Nat.le_refl _) hW'))
  obtain ⟨Q, hQ⟩ : ∃ Q : Array Value, (if E ≠ 0 ∨ P ≠ s then #[.slice none 0 0, .slice none 0 0, .int .i64 0, .int .i64 0] else #[.slice none 0 0, .slice none 0 0, .int .i64 b1, .int .i64 b2]) = Q := ⟨_, rfl⟩
  obtain ⟨F, hF⟩ : ∃ F : Int, (if E ≠ 0 ∨ P ≠ s then 91 else 0) = F := ⟨_, rfl⟩
  simp only [hQ, hF] at CA ⊢
  obtain ⟨q0, q1, q2, q3, hq4, hq1⟩ : ∃ q0 q1 q2 q3, Q = #[q0, q1, q2, q3] ∧ Q.all (·.oneCell') = true := by
    rw [← hQ]
    split
    · exact ⟨_, _, _, _, rfl, by simp [Value.oneCell']⟩
    · exact ⟨_, _, _, _, rfl, by simp [Value.oneCell']⟩
  subst hq4
  have HQ1 : Hid ((#[q0, q1, q2, q3] : Array Value).all (·.oneCell') = true) := hq1
  have bs : ¬ ((s.size : Int) > 65536) := by omega
  clear C1' h1 h2 h3 CP hQ hF hq1
  have HI : Hid (s.size ≤ 1048576) := by show _ ≤ _; omega
  go_enter Tryz.func5, Tryz.ntmps5
  go_wp2_with fail
  obtain ⟨w0, hw0⟩ : ∃ w0, w.alloc (.cells #[.slice none 0 0, .slice none 0 0, .int .i64 0, .int .i64 0] 28) = w0 := ⟨_, rfl⟩
  obtain ⟨h, hh⟩ : ∃ h, w.heap.size = h := ⟨_, rfl⟩
  have HB0 : Hid (Below w.heap.size w w0) := by show Below _ _ _; rw [← hw0]; exact below_new _ _
  have HZ0 : Hid (Blk w0 28 h #[.slice none 0 0, .slice none 0 0, .int .i64 0, .int .i64 0]) := by show Blk _ _ _ _; rw [← hw0, ← hh]; exact Blk.new _ _ _
  have HL : Hid (w.heap.size ≤ h) := by show _ ≤ _; omega
  try rw [hw0]
  try rw [hh]
  clear hw0 hh
  refine (newIn_any s w0 HI.out).mono ?_
  rintro e w1 ⟨rfl, hI1, hb1⟩
  have HS1 : Hid (TkS w h w0.heap.size w1.heap.size (w1.heap.size + 1) (s, 0) #[.slice none 0 0, .slice none 0 0, .int .i64 0, .int .i64 0] ((w1.alloc (.cells #[.pointer (some ⟨w0.heap.size, 0, none⟩)] 42)).alloc (.cells #[.slice none 0 0, .slice none 0 0, .int .i64 0, .int .i64 0] 28))) := by
    have hl1 := hI1.1.lt
    have hl2 := HZ0.out.lt
    exact ⟨(hI1.on (below_new _ _)).on (below_new _ _), (Blk.new _ _ _).on (below_new _ _), Blk.new' _ _ _ _ (by rw [World.size_alloc]), ((HZ0.out.on hb1).on (below_new _ _)).on (below_new _ _), below_step HB0.out (Nat.le_refl _) (below_step hb1 (Nat.le_refl _) ((below_new _ _).alloc (by rw [World.size_alloc]; omega) _)), HL.out, hl2, hl1, Nat.lt_succ_self _⟩
  have y : ((w1.alloc (.cells #[.pointer (some ⟨w0.heap.size, 0, none⟩)] 42)).alloc (.cells #[.slice none 0 0, .slice none 0 0, .int .i64 0, .int .i64 0] 28)).cell? ⟨w1.heap.size, 0, none⟩ = some (.pointer (some ⟨w0.heap.size, 0, none⟩)) := HS1.out.cap.cell 0
  clear hI1 hb1 HB0 HZ0 HI
  go_wp2_with fail
  clear y
  obtain ⟨W2, hW2⟩ : ∃ W2, ((w1.alloc (.cells #[.pointer (some ⟨w0.heap.size, 0, none⟩)] 42)).alloc (.cells #[.slice none 0 0, .slice none 0 0, .int .i64 0, .int .i64 0] 28)) = W2 := ⟨_, rfl⟩
  rw [hW2] at HS1
  try rw [hW2]
  clear hW2
  obtain ⟨g, hg⟩ : ∃ g, w0.heap.size = g := ⟨_, rfl⟩
  obtain ⟨hx, hhx⟩ : ∃ hx, w1.heap.size + 1 = hx := ⟨_, rfl⟩
  obtain ⟨hc, hhc⟩ : ∃ hc, w1.heap.size = hc := ⟨_, rfl⟩
  rw [hg, hhx, hhc] at HS1
  try rw [hg]
  try rw [hhx]
  try rw [hhc]
  clear hg hhx hhc
  refine (C1.out W2 g HS1.out.inn).mono ?_
  rintro e U1 ⟨rfl, hI⟩
  have HU : Hid (TkS w h g hc hx i1 #[.slice none 0 0, .slice none 0 0, .int .i64 0, .int .i64 0] U1) := HS1.out.step hI
  clear hI HS1 C1
  have y2 : U1.cell? ⟨hx, 2, none⟩ = some _ := HU.out.x.cell 2
  have z2 : U1.frozen? ⟨hx, 2, none⟩ = false := HU.out.x.free 2
  have y3 : (U1.setCell ⟨hx, 2, none⟩ (.int .i64 b1)).cell? ⟨hx, 3, none⟩ = some _ := (HU.out.set 2 (.int .i64 b1)).x.cell 3
  have z3 : (U1.setCell ⟨hx, 2, none⟩ (.int .i64 b1)).frozen? ⟨hx, 3, none⟩ = false := (HU.out.set 2 (.int .i64 b1)).x.free 3
  have HS2 : Hid (TkS w h g hc hx i1 #[.slice none 0 0, .slice none 0 0, .int .i64 b1, .int .i64 b2] ((U1.setCell ⟨hx, 2, none⟩ (.int .i64 b1)).setCell ⟨hx, 3, none⟩ (.int .i64 b2))) := (HU.out.set 2 (.int .i64 b1)).set 3 (.int .i64 b2)
  obtain ⟨W3, hW3⟩ : ∃ W, (U1.setCell ⟨hx, 2, none⟩ (.int .i64 b1)).setCell ⟨hx, 3, none⟩ (.int .i64 b2) = W := ⟨_, rfl⟩
  rw [hW3] at HS2
  have a3 : W3.cell? ⟨hc, 0, none⟩ = some (.pointer (some ⟨g, 0, none⟩)) := HS2.out.cap.cell 0
  go_wp2_with fail
  try rw [hW3]
  clear hW3 HU y2 z2 y3 z3 a3
  refine (C2.out W3 g hc HS2.out.inn).mono ?_
  rintro e U2 ⟨rfl, hI⟩
  have HU : Hid (TkS w h g hc hx i2 #[.slice none 0 0, .slice none 0 0, .int .i64 b1, .int .i64 b2] U2) := HS2.out.step hI
  clear hI HS2 C2
  have y0 : U2.cell? ⟨hx, 0, none⟩ = some _ := HU.out.x.cell 0
  have z0 : U2.frozen? ⟨hx, 0, none⟩ = false := HU.out.x.free 0
  have HS3 : Hid (TkS w h g hc hx i2 #[.slice none 0 0, .slice none 0 0, .int .i64 b1, .int .i64 b2] (U2.setCell ⟨hx, 0, none⟩ (.slice none 0 0))) := HU.out.set 0 (.slice none 0 0)
  obtain ⟨W4, hW4⟩ : ∃ W, U2.setCell ⟨hx, 0, none⟩ (.slice none 0 0) = W := ⟨_, rfl⟩
  rw [hW4] at HS3
  have a4 : W4.cell? ⟨hc, 0, none⟩ = some (.pointer (some ⟨g, 0, none⟩)) := HS3.out.cap.cell 0
  go_wp2_with fail
  try rw [hW4]
  clear hW4 HU y0 z0 a4
  refine (C3.out W4 g hc HS3.out.inn).mono ?_
  rintro e U3 ⟨rfl, hI⟩
  have HU : Hid (TkS w h g hc hx i3 #[.slice none 0 0, .slice none 0 0, .int .i64 b1, .int .i64 b2] U3) := HS3.out.step hI
  clear hI HS3 C3
  have y1 : U3.cell? ⟨hx, 1, none⟩ = some _ := HU.out.x.cell 1
  have z1 : U3.frozen? ⟨hx, 1, none⟩ = false := HU.out.x.free 1
  have HS4 : Hid (TkS w h g hc hx i3 #[.slice none 0 0, .slice none 0 0, .int .i64 b1, .int .i64 b2] (U3.setCell ⟨hx, 1, none⟩ (.slice none 0 0))) := HU.out.set 1 (.slice none 0 0)
  obtain ⟨W5, hW5⟩ : ∃ W, U3.setCell ⟨hx, 1, none⟩ (.slice none 0 0) = W := ⟨_, rfl⟩
  rw [hW5] at HS4
  have d0 : W5.cell? ⟨hx, 0, none⟩ = some (.slice none 0 0) := HS4.out.x.cell 0
  have d1 : W5.cell? ⟨hx, 1, none⟩ = some (.slice none 0 0) := HS4.out.x.cell 1
  have d2 : W5.cell? ⟨hx, 2, none⟩ = some (.int .i64 b1) := HS4.out.x.cell 2
  have d3 : W5.cell? ⟨hx, 3, none⟩ = some (.int .i64 b2) := HS4.out.x.cell 3
  go_wp2_with fail
  try rw [hW5]
  clear hW5 HU y1 z1 d0 d1 d2 d3
  refine (CA.out W5 HS4.out.bel).mono ?_
  rintro e w6 ⟨rfl, hb6⟩
  have HS6 := HS4.out.on hb6
  have X1 := HS6.z
  have hB6 := HS6.bel
  have hL6 := HS6.lh
  clear CA hb6 HS4 HS6
  go_wp2_with (with_reducible refine wpList_storeBlk rfl 28 _ _ rfl h #[.slice none 0 0, .slice none 0 0, .int .i64 0, .int .i64 0] #[q0, q1, q2, q3] ?hx ?hy X1 rfl ?hi ?h1 ?_)
  try (case hx => rfl)
  try (case hy => rfl)
  try (case hi => kernel_rfl)
  try (case h1 => exact HQ1.out)
  exact bodyPost_rowTmp rfl h _ _ rfl rfl rfl (X1.setRow _) _ Tryz.underlying28 rfl (by kernel_rfl) ⟨rfl, below_setRow hB6 hL6 _⟩
end Go.Proofs.YtogbkfakihnbdaaGreatDoor
