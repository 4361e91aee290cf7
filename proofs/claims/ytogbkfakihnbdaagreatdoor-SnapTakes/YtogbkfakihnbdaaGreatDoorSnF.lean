import Derived.Test.YtogbkfakihnbdaaGreatDoorSnE
import Derived.Test.YtogbkfakihnbdaaGreatDoorSnC
/- The code's asPut of trees, Take of an empty tree (layer 13). -/
namespace Go.Proofs.YtogbkfakihnbdaaGreatDoor
open Go.RowKit
set_option linter.unusedSimpArgs false

set_option maxHeartbeats 4000000 in
set_option maxRecDepth 100000 in
theorem asPutS_any (a1 a2 : Option Addr) (n1 c1 n2 c2 : Nat) (b1 b2 : Int) (B s : ByteArray) (E : Int) (w : World) (CP' : ∀ W, Below w.heap.size w W → Calls Tryz.prog 8 #[.agg #[.slice a1 n1 c1, .slice a2 n2 c2, .int .i64 b1, .int .i64 b2]] W fun e w' => e = .returned (.tuple #[.string B, .int .i64 E]) ∧ Below W.heap.size W w') :
    Calls Tryz.prog 19 #[.func (.func 8) #[] #[], .agg #[.slice a1 n1 c1, .slice a2 n2 c2, .int .i64 b1, .int .i64 b2], .string s] w fun e w' => e = .returned (.tuple #[.agg (if E ≠ 0 ∨ B ≠ s then #[.slice none 0 0, .slice none 0 0, .int .i64 0, .int .i64 0] else #[.slice a1 n1 c1, .slice a2 n2 c2, .int .i64 b1, .int .i64 b2]), .int .i64 (if E ≠ 0 ∨ B ≠ s then 91 else 0)]) ∧ Below w.heap.size w w' := by
  have CP : Hid (∀ W, Below w.heap.size w W → _) := CP'
  clear CP'
  by_cases hE : E = 0
  · subst hE
    by_cases hB : B = s
    · subst hB
      rw [if_neg (by simp), if_neg (by simp)]
      go_enter Tryz.func19, Tryz.ntmps19
      go_wp2_with fail
      obtain ⟨h0, hh0⟩ : ∃ h0, w.heap.size = h0 := ⟨_, rfl⟩
      obtain ⟨w0, hw0⟩ : ∃ w0, (w.alloc (.cells #[.slice a1 n1 c1, .slice a2 n2 c2, .int .i64 b1, .int .i64 b2] 28)).alloc (.cells #[.slice none 0 0, .slice none 0 0, .int .i64 0, .int .i64 0] 28) = w0 := ⟨_, rfl⟩
      have HB0 : Hid (Below w.heap.size w w0) := by show Below _ _ _; rw [← hw0]; exact (below_new _ _).alloc (by rw [World.size_alloc]; omega) _
      have HX0 : Hid (Blk w0 28 h0 #[.slice a1 n1 c1, .slice a2 n2 c2, .int .i64 b1, .int .i64 b2]) := by show Blk _ _ _ _; rw [← hw0]; exact (Blk.new' _ _ _ _ hh0).on (below_new _ _)
      have HZ0 : Hid (Blk w0 28 (h0 + 1) #[.slice none 0 0, .slice none 0 0, .int .i64 0, .int .i64 0]) := by show Blk _ _ _ _; rw [← hw0]; exact Blk.new' _ _ _ _ (by rw [World.size_alloc]; omega)
      have HL : Hid (w.heap.size ≤ h0) := by show _ ≤ _; omega
      try rw [hw0]
      try rw [hh0]
      clear hw0 hh0
      refine (CP.out w0 HB0.out).mono ?_
      rintro e w1 ⟨rfl, hb1⟩
      have HB1 : Hid (Below w.heap.size w w1) := below_step HB0.out (Nat.le_refl _) hb1
      have HX1 : Hid (Blk w1 28 h0 #[.slice a1 n1 c1, .slice a2 n2 c2, .int .i64 b1, .int .i64 b2]) := HX0.out.on hb1
      have HZ1 : Hid (Blk w1 28 (h0 + 1) #[.slice none 0 0, .slice none 0 0, .int .i64 0, .int .i64 0]) := HZ0.out.on hb1
      clear hb1 HB0 HX0 HZ0 CP
      have q0 : w1.cell? ⟨h0, 0, none⟩ = some (.slice a1 n1 c1) := HX1.out.cell 0
      have q1 : w1.cell? ⟨h0, 1, none⟩ = some (.slice a2 n2 c2) := HX1.out.cell 1
      have q2 : w1.cell? ⟨h0, 2, none⟩ = some (.int .i64 b1) := HX1.out.cell 2
      have q3 : w1.cell? ⟨h0, 3, none⟩ = some (.int .i64 b2) := HX1.out.cell 3
      go_wp2_with (with_reducible refine wpList_storeBlk rfl 28 _ _ rfl (h0 + 1) #[.slice none 0 0, .slice none 0 0, .int .i64 0, .int .i64 0] #[.slice a1 n1 c1, .slice a2 n2 c2, .int .i64 b1, .int .i64 b2] ?hx ?hy HZ1.out rfl ?hi ?h1 ?_)
      try (case hx => rfl)
      try (case hy => rfl)
      try (case hi => kernel_rfl)
      try (case h1 => simp [Value.oneCell'])
      exact bodyPost_rowTmp rfl (h0 + 1) _ _ rfl rfl rfl (HZ1.out.setRow _) _ Tryz.underlying28 rfl (by kernel_rfl) ⟨rfl, below_setRow HB1.out (by have := HL.out; omega) _⟩
    · rw [if_pos (.inr hB), if_pos (.inr hB)]
      have hB' := text_ne hB
      go_enter Tryz.func19, Tryz.ntmps19
      go_wp2_with fail
      obtain ⟨h0, hh0⟩ : ∃ h0, w.heap.size = h0 := ⟨_, rfl⟩
      obtain ⟨w0, hw0⟩ : ∃ w0, (w.alloc (.cells #[.slice a1 n1 c1, .slice a2 n2 c2, .int .i64 b1, .int .i64 b2] 28)).alloc (.cells #[.slice none 0 0, .slice none 0 0, .int .i64 0, .int .i64 0] 28) = w0 := ⟨_, rfl⟩
      have HB0 : Hid (Below w.heap.size w w0) := by show Below _ _ _; rw [← hw0]; exact (below_new _ _).alloc (by rw [World.size_alloc]; omega) _
      have HX0 : Hid (Blk w0 28 h0 #[.slice a1 n1 c1, .slice a2 n2 c2, .int .i64 b1, .int .i64 b2]) := by show Blk _ _ _ _; rw [← hw0]; exact (Blk.new' _ _ _ _ hh0).on (below_new _ _)
      have HZ0 : Hid (Blk w0 28 (h0 + 1) #[.slice none 0 0, .slice none 0 0, .int .i64 0, .int .i64 0]) := by show Blk _ _ _ _; rw [← hw0]; exact Blk.new' _ _ _ _ (by rw [World.size_alloc]; omega)
      have HL : Hid (w.heap.size ≤ h0) := by show _ ≤ _; omega
      try rw [hw0]
      try rw [hh0]
      clear hw0 hh0
      refine (CP.out w0 HB0.out).mono ?_
      rintro e w1 ⟨rfl, hb1⟩
      have HB1 : Hid (Below w.heap.size w w1) := below_step HB0.out (Nat.le_refl _) hb1
      have HX1 : Hid (Blk w1 28 h0 #[.slice a1 n1 c1, .slice a2 n2 c2, .int .i64 b1, .int .i64 b2]) := HX0.out.on hb1
      have HZ1 : Hid (Blk w1 28 (h0 + 1) #[.slice none 0 0, .slice none 0 0, .int .i64 0, .int .i64 0]) := HZ0.out.on hb1
      clear hb1 HB0 HX0 HZ0 CP
      have HZ2 : Hid (Blk (w1.alloc (.cells #[.slice none 0 0, .slice none 0 0, .int .i64 0, .int .i64 0] 28)) 28 (h0 + 1) #[.slice none 0 0, .slice none 0 0, .int .i64 0, .int .i64 0]) := HZ1.out.on (below_new _ _)
      have hB2 : Below w.heap.size w (w1.alloc (.cells #[.slice none 0 0, .slice none 0 0, .int .i64 0, .int .i64 0] 28)) := HB1.out.alloc HB1.out.size _
      go_wp2_with (with_reducible refine wpList_storeBlk rfl 28 _ _ rfl (h0 + 1) #[.slice none 0 0, .slice none 0 0, .int .i64 0, .int .i64 0] #[.slice none 0 0, .slice none 0 0, .int .i64 0, .int .i64 0] ?hx ?hy HZ2.out rfl ?hi ?h1 ?_)
      try (case hx => rfl)
      try (case hy => rfl)
      try (case hi => kernel_rfl)
      try (case h1 => simp [Value.oneCell'])
      exact bodyPost_rowTmp rfl (h0 + 1) _ _ rfl rfl rfl (HZ2.out.setRow _) _ Tryz.underlying28 rfl (by kernel_rfl) ⟨rfl, below_setRow hB2 (by have := HL.out; omega) _⟩
  · rw [if_pos (.inl hE), if_pos (.inl hE)]
    have hE' : (E == 0) = false := by simp [hE]
    go_enter Tryz.func19, Tryz.ntmps19
    go_wp2_with fail
    obtain ⟨h0, hh0⟩ : ∃ h0, w.heap.size = h0 := ⟨_, rfl⟩
    obtain ⟨w0, hw0⟩ : ∃ w0, (w.alloc (.cells #[.slice a1 n1 c1, .slice a2 n2 c2, .int .i64 b1, .int .i64 b2] 28)).alloc (.cells #[.slice none 0 0, .slice none 0 0, .int .i64 0, .int .i64 0] 28) = w0 := ⟨_, rfl⟩
    have HB0 : Hid (Below w.heap.size w w0) := by show Below _ _ _; rw [← hw0]; exact (below_new _ _).alloc (by rw [World.size_alloc]; omega) _
    have HX0 : Hid (Blk w0 28 h0 #[.slice a1 n1 c1, .slice a2 n2 c2, .int .i64 b1, .int .i64 b2]) := by show Blk _ _ _ _; rw [← hw0]; exact (Blk.new' _ _ _ _ hh0).on (below_new _ _)
    have HZ0 : Hid (Blk w0 28 (h0 + 1) #[.slice none 0 0, .slice none 0 0, .int .i64 0, .int .i64 0]) := by show Blk _ _ _ _; rw [← hw0]; exact Blk.new' _ _ _ _ (by rw [World.size_alloc]; omega)
    have HL : Hid (w.heap.size ≤ h0) := by show _ ≤ _; omega
    try rw [hw0]
    try rw [hh0]
    clear hw0 hh0
    refine (CP.out w0 HB0.out).mono ?_
    rintro e w1 ⟨rfl, hb1⟩
    have HB1 : Hid (Below w.heap.size w w1) := below_step HB0.out (Nat.le_refl _) hb1
    have HX1 : Hid (Blk w1 28 h0 #[.slice a1 n1 c1, .slice a2 n2 c2, .int .i64 b1, .int .i64 b2]) := HX0.out.on hb1
    have HZ1 : Hid (Blk w1 28 (h0 + 1) #[.slice none 0 0, .slice none 0 0, .int .i64 0, .int .i64 0]) := HZ0.out.on hb1
    clear hb1 HB0 HX0 HZ0 CP
    have HZ2 : Hid (Blk (w1.alloc (.cells #[.slice none 0 0, .slice none 0 0, .int .i64 0, .int .i64 0] 28)) 28 (h0 + 1) #[.slice none 0 0, .slice none 0 0, .int .i64 0, .int .i64 0]) := HZ1.out.on (below_new _ _)
    have hB2 : Below w.heap.size w (w1.alloc (.cells #[.slice none 0 0, .slice none 0 0, .int .i64 0, .int .i64 0] 28)) := HB1.out.alloc HB1.out.size _
    go_wp2_with (with_reducible refine wpList_storeBlk rfl 28 _ _ rfl (h0 + 1) #[.slice none 0 0, .slice none 0 0, .int .i64 0, .int .i64 0] #[.slice none 0 0, .slice none 0 0, .int .i64 0, .int .i64 0] ?hx ?hy HZ2.out rfl ?hi ?h1 ?_)
    try (case hx => rfl)
    try (case hy => rfl)
    try (case hi => kernel_rfl)
    try (case h1 => simp [Value.oneCell'])
    exact bodyPost_rowTmp rfl (h0 + 1) _ _ rfl rfl rfl (HZ2.out.setRow _) _ Tryz.underlying28 rfl (by kernel_rfl) ⟨rfl, below_setRow hB2 (by have := HL.out; omega) _⟩

set_option maxHeartbeats 2000000 in
set_option maxRecDepth 100000 in
theorem rlistN_none (g hc : Nat) (i i' : ByteArray × Int) (w : World) (h : InAt w g i) (h0 : inNumP i = (i', 0)) :
    Calls Tryz.prog 13 #[.pointer (some ⟨g, 0, none⟩), .func (.func 14) #[] #[.pointer (some ⟨hc, 0, none⟩)]] w fun e w' => e = .returned (.slice none 0 0) ∧ InTo w g i' w' := by
  have C' := inum_any g i w h
  rw [h0] at C'
  have C : Hid (Calls _ _ _ _ _) := C'
  clear h h0 C'
  go_enter Tryz.func13, Tryz.ntmps13
  go_wp2_with fail
  refine C.out.mono ?_
  rintro e w1 ⟨rfl, h1⟩
  have H1 : Hid (InTo w g i' w1) := h1
  clear C h1
  go_wp2_with fail
  go_loopw [5, 8] (fun x i wr => x = .slice none 0 0 ∧ i = .int .i64 0 ∧ Hid (InTo w g i' wr)) (fun _ _ _ => 0)
  case atStart => exact ⟨rfl, rfl, H1⟩
  case round =>
    clear H1
    obtain ⟨rfl, rfl, H1⟩ := hrel
    go_wp2_with fail
    go_ret
    exact ⟨rfl, H1.out⟩

set_option maxHeartbeats 2000000 in
set_option maxRecDepth 100000 in
theorem rlistO_none (g hc : Nat) (i i' : ByteArray × Int) (w : World) (h : InAt w g i) (h0 : inNumP i = (i', 0)) :
    Calls Tryz.prog 16 #[.pointer (some ⟨g, 0, none⟩), .func (.func 17) #[] #[.pointer (some ⟨hc, 0, none⟩)]] w fun e w' => e = .returned (.slice none 0 0) ∧ InTo w g i' w' := by
  have C' := inum_any g i w h
  rw [h0] at C'
  have C : Hid (Calls _ _ _ _ _) := C'
  clear h h0 C'
  go_enter Tryz.func16, Tryz.ntmps16
  go_wp2_with fail
  refine C.out.mono ?_
  rintro e w1 ⟨rfl, h1⟩
  have H1 : Hid (InTo w g i' w1) := h1
  clear C h1
  go_wp2_with fail
  go_loopw [5, 8] (fun x i wr => x = .slice none 0 0 ∧ i = .int .i64 0 ∧ Hid (InTo w g i' wr)) (fun _ _ _ => 0)
  case atStart => exact ⟨rfl, rfl, H1⟩
  case round =>
    clear H1
    obtain ⟨rfl, rfl, H1⟩ := hrel
    go_wp2_with fail
    go_ret
    exact ⟨rfl, H1.out⟩

end Go.Proofs.YtogbkfakihnbdaaGreatDoor
