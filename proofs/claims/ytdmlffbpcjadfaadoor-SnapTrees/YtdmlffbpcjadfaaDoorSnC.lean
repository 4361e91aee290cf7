import Derived.Test.YtdmlffbpcjadfaaDoorSnB
/- The code's asPut of operations, TakeOp (layer 13). -/
namespace Go.Proofs.YtdmlffbpcjadfaaDoor
open Go.RowKit
set_option linter.unusedSimpArgs false

/-- What was read, if it is put as just those bytes. -/
def asP (M : OpT → Bool) (x : OpT) (s : ByteArray) : OpT × Int := if (putOpP M x).2 ≠ 0 ∨ (putOpP M x).1 ≠ s then (op0, 91) else (x, 0)

theorem inTextC_size (i : ByteArray × Int) (most : Int) : (inTextC i most).2.size ≤ 1048576 := by
  unfold inTextC
  split
  · exact Nat.zero_le _
  · exact Nat.le_trans (takeS_size _ _) (by have := number2_lt i; omega)

theorem readOpC_sizes (i : ByteArray × Int) : (readOpC i).2.2.2.2.2.1.size ≤ 1048576 ∧ (readOpC i).2.2.2.2.2.2.size ≤ 9223372036854775807 := by
  unfold readOpC
  simp only
  exact ⟨inTextC_size _ _, Nat.le_trans (inTextC_size _ _) (by decide)⟩

theorem text_ne {a b : ByteArray} (h : ¬ a = b) : (a.toList == b.toList) = false := by
  cases e : (a.toList == b.toList) with
  | false => rfl
  | true =>
    refine absurd ?_ h
    have := eq_of_beq e
    rw [toList_data, toList_data] at this
    exact ByteArray.ext (Array.toList_inj.1 this)

set_option maxHeartbeats 4000000 in
set_option maxRecDepth 100000 in
theorem asPutOp_any (M : OpT → Bool) (hM : ∀ o, M o = true ↔ MayO o) (x : OpT) (s : ByteArray) (w : World) (hG : Glob8 w) (h7 : x.2.2.2.2.1.size ≤ 1048576) (h8 : x.2.2.2.2.2.size ≤ 9223372036854775807) :
    Calls Tryd.prog 41 #[.func (.func 12) #[] #[], .agg (opA x), .string s] w fun e w' => e = .returned (.tuple #[.agg (opA (asP M x s).1), .int .i64 (asP M x s).2]) ∧ Below w.heap.size w w' := by
  have CP' : ∀ W, Below w.heap.size w W → _ := fun W hW => putOp_any M hM x W (hG.below hW) h7 h8
  obtain ⟨⟨B, E⟩, hp⟩ : ∃ p, putOpP M x = p := ⟨_, rfl⟩
  unfold asP
  rw [hp] at CP' ⊢
  obtain ⟨k0, ⟨k1, k2⟩, ⟨k3, k4⟩, ⟨k5, k6⟩, s7, s8⟩ := x
  simp only [opA] at CP' ⊢
  have CP : Hid (∀ W, Below w.heap.size w W → _) := CP'
  clear CP' hp hG h7 h8
  by_cases hE : E = 0
  · subst hE
    by_cases hB : B = s
    · subst hB
      rw [if_neg (by simp)]
      simp only [opA]
      go_enter Tryd.func41, Tryd.ntmps41
      go_wp2_with fail
      obtain ⟨h0, hh0⟩ : ∃ h0, w.heap.size = h0 := ⟨_, rfl⟩
      obtain ⟨w0, hw0⟩ : ∃ w0, (w.alloc (.cells #[.int .i64 k0, .int .i64 k1, .int .i64 k2, .int .i64 k3, .int .i64 k4, .int .i64 k5, .int .i64 k6, .string s7, .string s8] 30)).alloc (.cells #[.int .i64 0, .int .i64 0, .int .i64 0, .int .i64 0, .int .i64 0, .int .i64 0, .int .i64 0, .string ⟨#[]⟩, .string ⟨#[]⟩] 30) = w0 := ⟨_, rfl⟩
      have HB0 : Hid (Below w.heap.size w w0) := by show Below _ _ _; rw [← hw0]; exact (below_new _ _).alloc (by rw [World.size_alloc]; omega) _
      have HX0 : Hid (Blk w0 30 h0 #[.int .i64 k0, .int .i64 k1, .int .i64 k2, .int .i64 k3, .int .i64 k4, .int .i64 k5, .int .i64 k6, .string s7, .string s8]) := by show Blk _ _ _ _; rw [← hw0]; exact (Blk.new' _ _ _ _ hh0).on (below_new _ _)
      have HZ0 : Hid (Blk w0 30 (h0 + 1) #[.int .i64 0, .int .i64 0, .int .i64 0, .int .i64 0, .int .i64 0, .int .i64 0, .int .i64 0, .string ⟨#[]⟩, .string ⟨#[]⟩]) := by show Blk _ _ _ _; rw [← hw0]; exact Blk.new' _ _ _ _ (by rw [World.size_alloc]; omega)
      have HL : Hid (w.heap.size ≤ h0) := by show _ ≤ _; omega
      try rw [hw0]
      try rw [hh0]
      clear hw0 hh0
      refine (CP.out w0 HB0.out).mono ?_
      rintro e w1 ⟨rfl, hb1⟩
      have HB1 : Hid (Below w.heap.size w w1) := below_step HB0.out (Nat.le_refl _) hb1
      have HX1 : Hid (Blk w1 30 h0 #[.int .i64 k0, .int .i64 k1, .int .i64 k2, .int .i64 k3, .int .i64 k4, .int .i64 k5, .int .i64 k6, .string s7, .string s8]) := HX0.out.on hb1
      have HZ1 : Hid (Blk w1 30 (h0 + 1) #[.int .i64 0, .int .i64 0, .int .i64 0, .int .i64 0, .int .i64 0, .int .i64 0, .int .i64 0, .string ⟨#[]⟩, .string ⟨#[]⟩]) := HZ0.out.on hb1
      clear hb1 HB0 HX0 HZ0 CP
      have q0 : w1.cell? ⟨h0, 0, none⟩ = some (.int .i64 k0) := HX1.out.cell 0
      have q1 : w1.cell? ⟨h0, 1, none⟩ = some (.int .i64 k1) := HX1.out.cell 1
      have q2 : w1.cell? ⟨h0, 2, none⟩ = some (.int .i64 k2) := HX1.out.cell 2
      have q3 : w1.cell? ⟨h0, 3, none⟩ = some (.int .i64 k3) := HX1.out.cell 3
      have q4 : w1.cell? ⟨h0, 4, none⟩ = some (.int .i64 k4) := HX1.out.cell 4
      have q5 : w1.cell? ⟨h0, 5, none⟩ = some (.int .i64 k5) := HX1.out.cell 5
      have q6 : w1.cell? ⟨h0, 6, none⟩ = some (.int .i64 k6) := HX1.out.cell 6
      have q7 : w1.cell? ⟨h0, 7, none⟩ = some (.string s7) := HX1.out.cell 7
      have q8 : w1.cell? ⟨h0, 8, none⟩ = some (.string s8) := HX1.out.cell 8
      go_wp2_with (with_reducible refine wpList_storeBlk rfl 30 _ _ rfl (h0 + 1) #[.int .i64 0, .int .i64 0, .int .i64 0, .int .i64 0, .int .i64 0, .int .i64 0, .int .i64 0, .string ⟨#[]⟩, .string ⟨#[]⟩] #[.int .i64 k0, .int .i64 k1, .int .i64 k2, .int .i64 k3, .int .i64 k4, .int .i64 k5, .int .i64 k6, .string s7, .string s8] ?hx ?hy HZ1.out rfl ?hi ?h1 ?_)
      try (case hx => rfl)
      try (case hy => rfl)
      try (case hi => kernel_rfl)
      try (case h1 => simp [Value.oneCell'])
      exact bodyPost_rowTmp rfl (h0 + 1) _ _ rfl rfl rfl (HZ1.out.setRow _) _ Tryd.underlying30 rfl (by kernel_rfl) ⟨rfl, below_setRow HB1.out (by have := HL.out; omega) _⟩
    · rw [if_pos (.inr hB)]
      simp only [op0, opA]
      have hB' := text_ne hB
      go_enter Tryd.func41, Tryd.ntmps41
      go_wp2_with fail
      obtain ⟨h0, hh0⟩ : ∃ h0, w.heap.size = h0 := ⟨_, rfl⟩
      obtain ⟨w0, hw0⟩ : ∃ w0, (w.alloc (.cells #[.int .i64 k0, .int .i64 k1, .int .i64 k2, .int .i64 k3, .int .i64 k4, .int .i64 k5, .int .i64 k6, .string s7, .string s8] 30)).alloc (.cells #[.int .i64 0, .int .i64 0, .int .i64 0, .int .i64 0, .int .i64 0, .int .i64 0, .int .i64 0, .string ⟨#[]⟩, .string ⟨#[]⟩] 30) = w0 := ⟨_, rfl⟩
      have HB0 : Hid (Below w.heap.size w w0) := by show Below _ _ _; rw [← hw0]; exact (below_new _ _).alloc (by rw [World.size_alloc]; omega) _
      have HX0 : Hid (Blk w0 30 h0 #[.int .i64 k0, .int .i64 k1, .int .i64 k2, .int .i64 k3, .int .i64 k4, .int .i64 k5, .int .i64 k6, .string s7, .string s8]) := by show Blk _ _ _ _; rw [← hw0]; exact (Blk.new' _ _ _ _ hh0).on (below_new _ _)
      have HZ0 : Hid (Blk w0 30 (h0 + 1) #[.int .i64 0, .int .i64 0, .int .i64 0, .int .i64 0, .int .i64 0, .int .i64 0, .int .i64 0, .string ⟨#[]⟩, .string ⟨#[]⟩]) := by show Blk _ _ _ _; rw [← hw0]; exact Blk.new' _ _ _ _ (by rw [World.size_alloc]; omega)
      have HL : Hid (w.heap.size ≤ h0) := by show _ ≤ _; omega
      try rw [hw0]
      try rw [hh0]
      clear hw0 hh0
      refine (CP.out w0 HB0.out).mono ?_
      rintro e w1 ⟨rfl, hb1⟩
      have HB1 : Hid (Below w.heap.size w w1) := below_step HB0.out (Nat.le_refl _) hb1
      have HX1 : Hid (Blk w1 30 h0 #[.int .i64 k0, .int .i64 k1, .int .i64 k2, .int .i64 k3, .int .i64 k4, .int .i64 k5, .int .i64 k6, .string s7, .string s8]) := HX0.out.on hb1
      have HZ1 : Hid (Blk w1 30 (h0 + 1) #[.int .i64 0, .int .i64 0, .int .i64 0, .int .i64 0, .int .i64 0, .int .i64 0, .int .i64 0, .string ⟨#[]⟩, .string ⟨#[]⟩]) := HZ0.out.on hb1
      clear hb1 HB0 HX0 HZ0 CP
      have HZ2 : Hid (Blk (w1.alloc (.cells #[.int .i64 0, .int .i64 0, .int .i64 0, .int .i64 0, .int .i64 0, .int .i64 0, .int .i64 0, .string ⟨#[]⟩, .string ⟨#[]⟩] 30)) 30 (h0 + 1) #[.int .i64 0, .int .i64 0, .int .i64 0, .int .i64 0, .int .i64 0, .int .i64 0, .int .i64 0, .string ⟨#[]⟩, .string ⟨#[]⟩]) := HZ1.out.on (below_new _ _)
      have hB2 : Below w.heap.size w (w1.alloc (.cells #[.int .i64 0, .int .i64 0, .int .i64 0, .int .i64 0, .int .i64 0, .int .i64 0, .int .i64 0, .string ⟨#[]⟩, .string ⟨#[]⟩] 30)) := HB1.out.alloc HB1.out.size _
      go_wp2_with (with_reducible refine wpList_storeBlk rfl 30 _ _ rfl (h0 + 1) #[.int .i64 0, .int .i64 0, .int .i64 0, .int .i64 0, .int .i64 0, .int .i64 0, .int .i64 0, .string ⟨#[]⟩, .string ⟨#[]⟩] #[.int .i64 0, .int .i64 0, .int .i64 0, .int .i64 0, .int .i64 0, .int .i64 0, .int .i64 0, .string ⟨#[]⟩, .string ⟨#[]⟩] ?hx ?hy HZ2.out rfl ?hi ?h1 ?_)
      try (case hx => rfl)
      try (case hy => rfl)
      try (case hi => kernel_rfl)
      try (case h1 => simp [Value.oneCell'])
      exact bodyPost_rowTmp rfl (h0 + 1) _ _ rfl rfl rfl (HZ2.out.setRow _) _ Tryd.underlying30 rfl (by kernel_rfl) ⟨rfl, below_setRow hB2 (by have := HL.out; omega) _⟩
  · rw [if_pos (.inl hE)]
    simp only [op0, opA]
    have hE' : (E == 0) = false := by simp [hE]
    go_enter Tryd.func41, Tryd.ntmps41
    go_wp2_with fail
    obtain ⟨h0, hh0⟩ : ∃ h0, w.heap.size = h0 := ⟨_, rfl⟩
    obtain ⟨w0, hw0⟩ : ∃ w0, (w.alloc (.cells #[.int .i64 k0, .int .i64 k1, .int .i64 k2, .int .i64 k3, .int .i64 k4, .int .i64 k5, .int .i64 k6, .string s7, .string s8] 30)).alloc (.cells #[.int .i64 0, .int .i64 0, .int .i64 0, .int .i64 0, .int .i64 0, .int .i64 0, .int .i64 0, .string ⟨#[]⟩, .string ⟨#[]⟩] 30) = w0 := ⟨_, rfl⟩
    have HB0 : Hid (Below w.heap.size w w0) := by show Below _ _ _; rw [← hw0]; exact (below_new _ _).alloc (by rw [World.size_alloc]; omega) _
    have HX0 : Hid (Blk w0 30 h0 #[.int .i64 k0, .int .i64 k1, .int .i64 k2, .int .i64 k3, .int .i64 k4, .int .i64 k5, .int .i64 k6, .string s7, .string s8]) := by show Blk _ _ _ _; rw [← hw0]; exact (Blk.new' _ _ _ _ hh0).on (below_new _ _)
    have HZ0 : Hid (Blk w0 30 (h0 + 1) #[.int .i64 0, .int .i64 0, .int .i64 0, .int .i64 0, .int .i64 0, .int .i64 0, .int .i64 0, .string ⟨#[]⟩, .string ⟨#[]⟩]) := by show Blk _ _ _ _; rw [← hw0]; exact Blk.new' _ _ _ _ (by rw [World.size_alloc]; omega)
    have HL : Hid (w.heap.size ≤ h0) := by show _ ≤ _; omega
    try rw [hw0]
    try rw [hh0]
    clear hw0 hh0
    refine (CP.out w0 HB0.out).mono ?_
    rintro e w1 ⟨rfl, hb1⟩
    have HB1 : Hid (Below w.heap.size w w1) := below_step HB0.out (Nat.le_refl _) hb1
    have HX1 : Hid (Blk w1 30 h0 #[.int .i64 k0, .int .i64 k1, .int .i64 k2, .int .i64 k3, .int .i64 k4, .int .i64 k5, .int .i64 k6, .string s7, .string s8]) := HX0.out.on hb1
    have HZ1 : Hid (Blk w1 30 (h0 + 1) #[.int .i64 0, .int .i64 0, .int .i64 0, .int .i64 0, .int .i64 0, .int .i64 0, .int .i64 0, .string ⟨#[]⟩, .string ⟨#[]⟩]) := HZ0.out.on hb1
    clear hb1 HB0 HX0 HZ0 CP
    have HZ2 : Hid (Blk (w1.alloc (.cells #[.int .i64 0, .int .i64 0, .int .i64 0, .int .i64 0, .int .i64 0, .int .i64 0, .int .i64 0, .string ⟨#[]⟩, .string ⟨#[]⟩] 30)) 30 (h0 + 1) #[.int .i64 0, .int .i64 0, .int .i64 0, .int .i64 0, .int .i64 0, .int .i64 0, .int .i64 0, .string ⟨#[]⟩, .string ⟨#[]⟩]) := HZ1.out.on (below_new _ _)
    have hB2 : Below w.heap.size w (w1.alloc (.cells #[.int .i64 0, .int .i64 0, .int .i64 0, .int .i64 0, .int .i64 0, .int .i64 0, .int .i64 0, .string ⟨#[]⟩, .string ⟨#[]⟩] 30)) := HB1.out.alloc HB1.out.size _
    go_wp2_with (with_reducible refine wpList_storeBlk rfl 30 _ _ rfl (h0 + 1) #[.int .i64 0, .int .i64 0, .int .i64 0, .int .i64 0, .int .i64 0, .int .i64 0, .int .i64 0, .string ⟨#[]⟩, .string ⟨#[]⟩] #[.int .i64 0, .int .i64 0, .int .i64 0, .int .i64 0, .int .i64 0, .int .i64 0, .int .i64 0, .string ⟨#[]⟩, .string ⟨#[]⟩] ?hx ?hy HZ2.out rfl ?hi ?h1 ?_)
    try (case hx => rfl)
    try (case hy => rfl)
    try (case hi => kernel_rfl)
    try (case h1 => simp [Value.oneCell'])
    exact bodyPost_rowTmp rfl (h0 + 1) _ _ rfl rfl rfl (HZ2.out.setRow _) _ Tryd.underlying30 rfl (by kernel_rfl) ⟨rfl, below_setRow hB2 (by have := HL.out; omega) _⟩

set_option maxHeartbeats 4000000 in
set_option maxRecDepth 100000 in
theorem takeOp_any (M : OpT → Bool) (hM : ∀ o, M o = true ↔ MayO o) (s : ByteArray) (w : World) (hG : Glob8 w) (hs : s.size ≤ 1048576) :
    Calls Tryd.prog 13 #[.string s] w fun e w' => e = .returned (.tuple #[.agg (opA (takeOpC M s).1), .int .i64 (takeOpC M s).2]) ∧ Below w.heap.size w w' := by
  have hz := readOpC_sizes (s, 0)
  have CA' : ∀ W, Below w.heap.size w W → _ := fun W hW => asPutOp_any M hM (readOpC (s, 0)).2 s W (hG.below hW) hz.1 hz.2
  have CR' : ∀ W g, InAt W g (s, 0) → _ := fun W g hW => readOp_any g (s, 0) W hW
  obtain ⟨X, hX⟩ : ∃ X, takeOpC M s = X := ⟨_, rfl⟩
  have hX' : asP M (readOpC (s, 0)).2 s = X := hX
  rw [hX]
  simp only [hX'] at CA'
  obtain ⟨⟨i1, x⟩, hx⟩ : ∃ p, readOpC (s, 0) = p := ⟨_, rfl⟩
  simp only [hx] at CA' CR'
  obtain ⟨⟨k0, ⟨k1, k2⟩, ⟨k3, k4⟩, ⟨k5, k6⟩, s7, s8⟩, E⟩ := X
  simp only [opA] at CA' ⊢
  have CA : Hid (∀ W, Below w.heap.size w W → _) := CA'
  have CR : Hid (∀ W g, InAt W g (s, 0) → _) := CR'
  clear CA' CR' hX hX' hx hG hz
  have HB0 : Hid (Below w.heap.size w (w.alloc (.cells #[.int .i64 0, .int .i64 0, .int .i64 0, .int .i64 0, .int .i64 0, .int .i64 0, .int .i64 0, .string ⟨#[]⟩, .string ⟨#[]⟩] 30))) := below_new _ _
  have HZ0 : Hid (Blk (w.alloc (.cells #[.int .i64 0, .int .i64 0, .int .i64 0, .int .i64 0, .int .i64 0, .int .i64 0, .int .i64 0, .string ⟨#[]⟩, .string ⟨#[]⟩] 30)) 30 w.heap.size #[.int .i64 0, .int .i64 0, .int .i64 0, .int .i64 0, .int .i64 0, .int .i64 0, .int .i64 0, .string ⟨#[]⟩, .string ⟨#[]⟩]) := Blk.new _ _ _
  go_enter Tryd.func13, Tryd.ntmps13
  go_wp2_with fail
  refine (newIn_any s _ hs).mono ?_
  rintro e w1 ⟨rfl, hI1, hb1⟩
  have HB1 : Hid (Below w.heap.size w w1) := below_step HB0.out (Nat.le_refl _) hb1
  have HZ1 : Hid (Blk w1 30 w.heap.size #[.int .i64 0, .int .i64 0, .int .i64 0, .int .i64 0, .int .i64 0, .int .i64 0, .int .i64 0, .string ⟨#[]⟩, .string ⟨#[]⟩]) := HZ0.out.on hb1
  obtain ⟨g, hg⟩ : ∃ g, (w.alloc (.cells #[.int .i64 0, .int .i64 0, .int .i64 0, .int .i64 0, .int .i64 0, .int .i64 0, .int .i64 0, .string ⟨#[]⟩, .string ⟨#[]⟩] 30)).heap.size = g := ⟨_, rfl⟩
  rw [World.size_alloc] at hg
  have HI1 : Hid (InAt w1 g (s, 0)) := by show InAt _ _ _; rw [← hg, ← World.size_alloc w]; exact hI1
  have HG : Hid (w.heap.size < g) := by show _ < _; omega
  try rw [World.size_alloc]
  try rw [hg]
  clear hI1 hb1 HB0 HZ0 hg
  go_wp2_with fail
  refine (CR.out w1 g HI1.out).mono ?_
  rintro e w2 ⟨rfl, hI2⟩
  have HB2 : Hid (Below w.heap.size w w2) := HB1.out.trans (hI2.2.below w.heap.size HB1.out.size (Nat.le_of_lt HG.out) (fun _ h => by cases h))
  have HZ2 : Hid (Blk w2 30 w.heap.size #[.int .i64 0, .int .i64 0, .int .i64 0, .int .i64 0, .int .i64 0, .int .i64 0, .int .i64 0, .string ⟨#[]⟩, .string ⟨#[]⟩]) := HZ1.out.kept hI2.2 (Nat.ne_of_lt HG.out) (by simp)
  clear hI2 HB1 HZ1 HI1 CR
  go_wp2_with fail
  refine (CA.out w2 HB2.out).mono ?_
  rintro e w3 ⟨rfl, hb3⟩
  have HB3 : Hid (Below w.heap.size w w3) := below_step HB2.out (Nat.le_refl _) hb3
  have HZ3 : Hid (Blk w3 30 w.heap.size #[.int .i64 0, .int .i64 0, .int .i64 0, .int .i64 0, .int .i64 0, .int .i64 0, .int .i64 0, .string ⟨#[]⟩, .string ⟨#[]⟩]) := HZ2.out.on hb3
  clear hb3 HB2 HZ2 CA
  go_wp2_with (with_reducible refine wpList_storeBlk rfl 30 _ _ rfl w.heap.size #[.int .i64 0, .int .i64 0, .int .i64 0, .int .i64 0, .int .i64 0, .int .i64 0, .int .i64 0, .string ⟨#[]⟩, .string ⟨#[]⟩] #[.int .i64 k0, .int .i64 k1, .int .i64 k2, .int .i64 k3, .int .i64 k4, .int .i64 k5, .int .i64 k6, .string s7, .string s8] ?hx ?hy HZ3.out rfl ?hi ?h1 ?_)
  try (case hx => rfl)
  try (case hy => rfl)
  try (case hi => kernel_rfl)
  try (case h1 => simp [Value.oneCell'])
  exact bodyPost_rowTmp rfl w.heap.size _ _ rfl rfl rfl (HZ3.out.setRow _) _ Tryd.underlying30 rfl (by kernel_rfl) ⟨rfl, below_setRow HB3.out (Nat.le_refl _) _⟩
end Go.Proofs.YtdmlffbpcjadfaaDoor
