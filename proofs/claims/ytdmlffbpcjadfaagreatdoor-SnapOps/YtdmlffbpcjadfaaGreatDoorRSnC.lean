import Derived.Test.YtdmlffbpcjadfaaGreatDoorRSnB
/- The document's TakeOp (layer 13). -/
namespace Go.Proofs.YtdmlffbpcjadfaaGreatDoor
open Go.RowKit
set_option linter.unusedSimpArgs false

theorem inTextP_res (i : ByteArray × Int) (most : Int) : (inTextP i most).2.size ≤ 1048576 := by
  have h := number2_lt i
  unfold inTextP
  split
  · exact Nat.zero_le _
  · split
    · exact Nat.zero_le _
    · split
      · exact Nat.zero_le _
      · simp only [ByteArray.size_extract]; omega

theorem readOpP_sizes (i : ByteArray × Int) : (readOpP i).2.2.2.2.2.1.size ≤ 1048576 ∧ (readOpP i).2.2.2.2.2.2.size ≤ 9223372036854775807 := by
  unfold readOpP
  simp only
  exact ⟨inTextP_res _ _, Nat.le_trans (inTextP_res _ _) (by decide)⟩

set_option maxHeartbeats 4000000 in
set_option maxRecDepth 100000 in
theorem rtakeL_any (M : OpT → Bool) (hM : ∀ o, M o = true ↔ MayO o) (s : ByteArray) (w : World) (hs : s.size ≤ 1048576) :
    Calls Tryz.prog 11 #[.string s] w fun e w' => e = .returned (.tuple #[.agg (opA (takeOpP M s).1), .int .i64 (takeOpP M s).2]) ∧ Below w.heap.size w w' := by
  have hz := readOpP_sizes (s, 0)
  have CR' : ∀ W, _ := fun W => rtakeOp_any (s, 0) W hs
  have CD' : ∀ W, _ := fun W => rinDone_any (readOpP (s, 0)).1 W
  have CM' : ∀ W, _ := fun W => rmayO_any (readOpP (s, 0)).2 (M (readOpP (s, 0)).2) (hM _) W hz.1 hz.2
  unfold takeOpP
  obtain ⟨⟨⟨S1, c1⟩, x⟩, hx⟩ : ∃ p, readOpP (s, 0) = p := ⟨_, rfl⟩
  simp only [hx] at CR' CD' CM' ⊢
  obtain ⟨k0, ⟨k1, k2⟩, ⟨k3, k4⟩, ⟨k5, k6⟩, s7, s8⟩ := x
  simp only [opA, inV] at CR' CD' CM'
  obtain ⟨Dn, hDn⟩ : ∃ Dn, inDoneP (S1, c1) = Dn := ⟨_, rfl⟩
  obtain ⟨X, hX⟩ : ∃ X, M (k0, (k1, k2), (k3, k4), (k5, k6), s7, s8) = X := ⟨_, rfl⟩
  simp only [hDn, hX] at CD' CM' ⊢
  obtain ⟨R, hR⟩ : ∃ R, (if Dn ≠ 0 ∨ X = false then (op0, 91) else ((k0, (k1, k2), (k3, k4), (k5, k6), s7, s8), 0) : OpT × Int) = R := ⟨_, rfl⟩
  have HR : Hid ((if Dn ≠ 0 ∨ X = false then (op0, 91) else ((k0, (k1, k2), (k3, k4), (k5, k6), s7, s8), 0) : OpT × Int) = R) := hR
  rw [hR]
  clear hR
  have CR : Hid (∀ W, _) := CR'
  have CD : Hid (∀ W, _) := CD'
  have CM : Hid (∀ W, _) := CM'
  clear CR' CD' CM' hz hx hDn hX hs
  have HB0 : Hid (Below w.heap.size w (w.alloc (.cells #[.int .i64 0, .int .i64 0, .int .i64 0, .int .i64 0, .int .i64 0, .int .i64 0, .int .i64 0, .string ⟨#[]⟩, .string ⟨#[]⟩] 25))) := below_new _ _
  have HZ0 : Hid (Blk (w.alloc (.cells #[.int .i64 0, .int .i64 0, .int .i64 0, .int .i64 0, .int .i64 0, .int .i64 0, .int .i64 0, .string ⟨#[]⟩, .string ⟨#[]⟩] 25)) 25 w.heap.size #[.int .i64 0, .int .i64 0, .int .i64 0, .int .i64 0, .int .i64 0, .int .i64 0, .int .i64 0, .string ⟨#[]⟩, .string ⟨#[]⟩]) := Blk.new _ _ _
  go_enter Tryz.func11, Tryz.ntmps11
  go_wp2_with fail
  obtain ⟨w0, hw0⟩ : ∃ w0, w.alloc (.cells #[.int .i64 0, .int .i64 0, .int .i64 0, .int .i64 0, .int .i64 0, .int .i64 0, .int .i64 0, .string ⟨#[]⟩, .string ⟨#[]⟩] 25) = w0 := ⟨_, rfl⟩
  obtain ⟨h, hh⟩ : ∃ h, w.heap.size = h := ⟨_, rfl⟩
  rw [hw0] at HB0 HZ0
  rw [hh] at HZ0
  have HL : Hid (w.heap.size ≤ h) := by show _ ≤ _; omega
  try rw [hw0]
  try rw [hh]
  clear hw0 hh
  refine (CR.out w0).mono ?_
  rintro e w1 ⟨rfl, hb1⟩
  have HB1 : Hid (Below w.heap.size w w1) := below_step HB0.out (Nat.le_refl _) hb1
  have HZ1 : Hid (Blk w1 25 h #[.int .i64 0, .int .i64 0, .int .i64 0, .int .i64 0, .int .i64 0, .int .i64 0, .int .i64 0, .string ⟨#[]⟩, .string ⟨#[]⟩]) := HZ0.out.on hb1
  have hlt1 := HZ1.out.lt
  have XI : Blk ((w1.alloc (.cells #[.string ⟨#[]⟩, .int .i64 0] 59)).alloc (.cells #[.int .i64 0, .int .i64 0, .int .i64 0, .int .i64 0, .int .i64 0, .int .i64 0, .int .i64 0, .string ⟨#[]⟩, .string ⟨#[]⟩] 25)) 59 w1.heap.size #[.string ⟨#[]⟩, .int .i64 0] := (Blk.new _ _ _).on (below_new _ _)
  have XO : Blk (((w1.alloc (.cells #[.string ⟨#[]⟩, .int .i64 0] 59)).alloc (.cells #[.int .i64 0, .int .i64 0, .int .i64 0, .int .i64 0, .int .i64 0, .int .i64 0, .int .i64 0, .string ⟨#[]⟩, .string ⟨#[]⟩] 25)).setRow w1.heap.size #[.string S1, .int .i64 c1]) 25 (w1.heap.size + 1) #[.int .i64 0, .int .i64 0, .int .i64 0, .int .i64 0, .int .i64 0, .int .i64 0, .int .i64 0, .string ⟨#[]⟩, .string ⟨#[]⟩] := (Blk.new' _ _ _ _ (by rw [World.size_alloc])).setRowOther _ (by omega) _
  have hb4 : Below w1.heap.size w1 ((((w1.alloc (.cells #[.string ⟨#[]⟩, .int .i64 0] 59)).alloc (.cells #[.int .i64 0, .int .i64 0, .int .i64 0, .int .i64 0, .int .i64 0, .int .i64 0, .int .i64 0, .string ⟨#[]⟩, .string ⟨#[]⟩] 25)).setRow w1.heap.size #[.string S1, .int .i64 c1]).setRow (w1.heap.size + 1) #[.int .i64 k0, .int .i64 k1, .int .i64 k2, .int .i64 k3, .int .i64 k4, .int .i64 k5, .int .i64 k6, .string s7, .string s8]) := below_setRow (below_setRow ((below_new w1 _).alloc (by rw [World.size_alloc]; omega) _) (Nat.le_refl _) _) (by omega) _
  have HI4 : Hid (Blk ((((w1.alloc (.cells #[.string ⟨#[]⟩, .int .i64 0] 59)).alloc (.cells #[.int .i64 0, .int .i64 0, .int .i64 0, .int .i64 0, .int .i64 0, .int .i64 0, .int .i64 0, .string ⟨#[]⟩, .string ⟨#[]⟩] 25)).setRow w1.heap.size #[.string S1, .int .i64 c1]).setRow (w1.heap.size + 1) #[.int .i64 k0, .int .i64 k1, .int .i64 k2, .int .i64 k3, .int .i64 k4, .int .i64 k5, .int .i64 k6, .string s7, .string s8]) 59 w1.heap.size #[.string S1, .int .i64 c1]) := (XI.setRow _).setRowOther _ (by omega) _
  have HO4 : Hid (Blk ((((w1.alloc (.cells #[.string ⟨#[]⟩, .int .i64 0] 59)).alloc (.cells #[.int .i64 0, .int .i64 0, .int .i64 0, .int .i64 0, .int .i64 0, .int .i64 0, .int .i64 0, .string ⟨#[]⟩, .string ⟨#[]⟩] 25)).setRow w1.heap.size #[.string S1, .int .i64 c1]).setRow (w1.heap.size + 1) #[.int .i64 k0, .int .i64 k1, .int .i64 k2, .int .i64 k3, .int .i64 k4, .int .i64 k5, .int .i64 k6, .string s7, .string s8]) 25 (w1.heap.size + 1) #[.int .i64 k0, .int .i64 k1, .int .i64 k2, .int .i64 k3, .int .i64 k4, .int .i64 k5, .int .i64 k6, .string s7, .string s8]) := XO.setRow _
  obtain ⟨w4, hw4⟩ : ∃ w4, ((((w1.alloc (.cells #[.string ⟨#[]⟩, .int .i64 0] 59)).alloc (.cells #[.int .i64 0, .int .i64 0, .int .i64 0, .int .i64 0, .int .i64 0, .int .i64 0, .int .i64 0, .string ⟨#[]⟩, .string ⟨#[]⟩] 25)).setRow w1.heap.size #[.string S1, .int .i64 c1]).setRow (w1.heap.size + 1) #[.int .i64 k0, .int .i64 k1, .int .i64 k2, .int .i64 k3, .int .i64 k4, .int .i64 k5, .int .i64 k6, .string s7, .string s8]) = w4 := ⟨_, rfl⟩
  rw [hw4] at hb4 HI4 HO4
  have HB4 : Hid (Below w.heap.size w w4) := below_step HB1.out (Nat.le_refl _) hb4
  have HZ4 : Hid (Blk w4 25 h #[.int .i64 0, .int .i64 0, .int .i64 0, .int .i64 0, .int .i64 0, .int .i64 0, .int .i64 0, .string ⟨#[]⟩, .string ⟨#[]⟩]) := HZ1.out.on hb4
  have q0 : w4.cell? ⟨w1.heap.size, 0, none⟩ = some (.string S1) := HI4.out.cell 0
  have q1 : w4.cell? ⟨w1.heap.size, 1, none⟩ = some (.int .i64 c1) := HI4.out.cell 1
  clear hb1 HB0 HZ0 CR hb4 HB1 HZ1 hlt1
  go_wp2_with (first
    | (with_reducible refine wpList_storeBlk rfl 59 _ _ rfl w1.heap.size #[.string ⟨#[]⟩, .int .i64 0] #[.string S1, .int .i64 c1] ?hx ?hy XI rfl ?hi ?h1 ?_)
    | (with_reducible refine wpList_storeBlk rfl 25 _ _ rfl (w1.heap.size + 1) #[.int .i64 0, .int .i64 0, .int .i64 0, .int .i64 0, .int .i64 0, .int .i64 0, .int .i64 0, .string ⟨#[]⟩, .string ⟨#[]⟩] #[.int .i64 k0, .int .i64 k1, .int .i64 k2, .int .i64 k3, .int .i64 k4, .int .i64 k5, .int .i64 k6, .string s7, .string s8] ?hx2 ?hy2 XO rfl ?hi2 ?h12 ?_))
  try (case hx => rfl)
  try (case hy => rfl)
  try (case hi => kernel_rfl)
  try (case h1 => simp [Value.oneCell'])
  try (case hx2 => rfl)
  try (case hy2 => rfl)
  try (case hi2 => kernel_rfl)
  try (case h12 => simp [Value.oneCell'])
  try rw [hw4]
  obtain ⟨ha, hha⟩ : ∃ ha, w1.heap.size + 1 = ha := ⟨_, rfl⟩
  rw [hha] at HO4
  try rw [hha]
  clear hw4 hha XI XO q0 q1 HI4
  refine (CD.out w4).mono ?_
  rintro e w5 ⟨rfl, hb5⟩
  have HB5 : Hid (Below w.heap.size w w5) := below_step HB4.out (Nat.le_refl _) hb5
  have HZ5 : Hid (Blk w5 25 h #[.int .i64 0, .int .i64 0, .int .i64 0, .int .i64 0, .int .i64 0, .int .i64 0, .int .i64 0, .string ⟨#[]⟩, .string ⟨#[]⟩]) := HZ4.out.on hb5
  have HO5 : Hid (Blk w5 25 ha #[.int .i64 k0, .int .i64 k1, .int .i64 k2, .int .i64 k3, .int .i64 k4, .int .i64 k5, .int .i64 k6, .string s7, .string s8]) := HO4.out.on hb5
  clear hb5 HB4 HZ4 HO4 CD
  by_cases hD : Dn = 0
  · subst hD
    have c0 : w5.cell? ⟨ha, 0, none⟩ = some (.int .i64 k0) := HO5.out.cell 0
    have c1x : w5.cell? ⟨ha, 1, none⟩ = some (.int .i64 k1) := HO5.out.cell 1
    have c2 : w5.cell? ⟨ha, 2, none⟩ = some (.int .i64 k2) := HO5.out.cell 2
    have c3 : w5.cell? ⟨ha, 3, none⟩ = some (.int .i64 k3) := HO5.out.cell 3
    have c4 : w5.cell? ⟨ha, 4, none⟩ = some (.int .i64 k4) := HO5.out.cell 4
    have c5 : w5.cell? ⟨ha, 5, none⟩ = some (.int .i64 k5) := HO5.out.cell 5
    have c6 : w5.cell? ⟨ha, 6, none⟩ = some (.int .i64 k6) := HO5.out.cell 6
    have c7 : w5.cell? ⟨ha, 7, none⟩ = some (.string s7) := HO5.out.cell 7
    have c8 : w5.cell? ⟨ha, 8, none⟩ = some (.string s8) := HO5.out.cell 8
    go_wp2_with fail
    refine (CM.out w5).mono ?_
    rintro e w6 ⟨rfl, hb6⟩
    have HB : Hid (Below w.heap.size w w6) := below_step HB5.out (Nat.le_refl _) hb6
    have HZ : Hid (Blk w6 25 h #[.int .i64 0, .int .i64 0, .int .i64 0, .int .i64 0, .int .i64 0, .int .i64 0, .int .i64 0, .string ⟨#[]⟩, .string ⟨#[]⟩]) := HZ5.out.on hb6
    have hO6 : Blk w6 25 ha #[.int .i64 k0, .int .i64 k1, .int .i64 k2, .int .i64 k3, .int .i64 k4, .int .i64 k5, .int .i64 k6, .string s7, .string s8] := HO5.out.on hb6
    have d0 : w6.cell? ⟨ha, 0, none⟩ = some (.int .i64 k0) := hO6.cell 0
    have d1 : w6.cell? ⟨ha, 1, none⟩ = some (.int .i64 k1) := hO6.cell 1
    have d2 : w6.cell? ⟨ha, 2, none⟩ = some (.int .i64 k2) := hO6.cell 2
    have d3 : w6.cell? ⟨ha, 3, none⟩ = some (.int .i64 k3) := hO6.cell 3
    have d4 : w6.cell? ⟨ha, 4, none⟩ = some (.int .i64 k4) := hO6.cell 4
    have d5 : w6.cell? ⟨ha, 5, none⟩ = some (.int .i64 k5) := hO6.cell 5
    have d6 : w6.cell? ⟨ha, 6, none⟩ = some (.int .i64 k6) := hO6.cell 6
    have d7 : w6.cell? ⟨ha, 7, none⟩ = some (.string s7) := hO6.cell 7
    have d8 : w6.cell? ⟨ha, 8, none⟩ = some (.string s8) := hO6.cell 8
    clear c0 c1x c2 c3 c4 c5 c6 c7 c8 hb6 HB5 HZ5 HO5 CM hO6
    cases X with
    | false =>
      obtain rfl : (op0, (91 : Int)) = R := by have h := HR.out; rwa [if_pos (.inr rfl)] at h
      go_wp2_with (with_reducible refine wpList_storeBlk rfl 25 _ _ rfl h #[.int .i64 0, .int .i64 0, .int .i64 0, .int .i64 0, .int .i64 0, .int .i64 0, .int .i64 0, .string ⟨#[]⟩, .string ⟨#[]⟩] #[.int .i64 0, .int .i64 0, .int .i64 0, .int .i64 0, .int .i64 0, .int .i64 0, .int .i64 0, .string ⟨#[]⟩, .string ⟨#[]⟩] ?hx ?hy HZ.out rfl ?hi ?h1 ?_)
      try (case hx => rfl)
      try (case hy => rfl)
      try (case hi => kernel_rfl)
      try (case h1 => simp [Value.oneCell'])
      exact bodyPost_rowTmp rfl h _ _ rfl rfl rfl (HZ.out.setRow _) _ Tryz.underlying25 rfl (by kernel_rfl) ⟨rfl, below_setRow HB.out HL.out _⟩
    | true =>
      obtain rfl : ((k0, (k1, k2), (k3, k4), (k5, k6), s7, s8), (0 : Int)) = R := by have h := HR.out; rwa [if_neg (by simp)] at h
      go_wp2_with (with_reducible refine wpList_storeBlk rfl 25 _ _ rfl h #[.int .i64 0, .int .i64 0, .int .i64 0, .int .i64 0, .int .i64 0, .int .i64 0, .int .i64 0, .string ⟨#[]⟩, .string ⟨#[]⟩] #[.int .i64 k0, .int .i64 k1, .int .i64 k2, .int .i64 k3, .int .i64 k4, .int .i64 k5, .int .i64 k6, .string s7, .string s8] ?hx ?hy HZ.out rfl ?hi ?h1 ?_)
      try (case hx => rfl)
      try (case hy => rfl)
      try (case hi => kernel_rfl)
      try (case h1 => simp [Value.oneCell'])
      exact bodyPost_rowTmp rfl h _ _ rfl rfl rfl (HZ.out.setRow _) _ Tryz.underlying25 rfl (by kernel_rfl) ⟨rfl, below_setRow HB.out HL.out _⟩
  · obtain rfl : (op0, (91 : Int)) = R := by have h := HR.out; rwa [if_pos (.inl hD)] at h
    have HB := HB5
    have HZ := HZ5
    have hD' : (Dn == 0) = false := by simp [hD]
    clear HB5 HZ5 HO5 CM
    go_wp2_with (with_reducible refine wpList_storeBlk rfl 25 _ _ rfl h #[.int .i64 0, .int .i64 0, .int .i64 0, .int .i64 0, .int .i64 0, .int .i64 0, .int .i64 0, .string ⟨#[]⟩, .string ⟨#[]⟩] #[.int .i64 0, .int .i64 0, .int .i64 0, .int .i64 0, .int .i64 0, .int .i64 0, .int .i64 0, .string ⟨#[]⟩, .string ⟨#[]⟩] ?hx ?hy HZ.out rfl ?hi ?h1 ?_)
    try (case hx => rfl)
    try (case hy => rfl)
    try (case hi => kernel_rfl)
    try (case h1 => simp [Value.oneCell'])
    exact bodyPost_rowTmp rfl h _ _ rfl rfl rfl (HZ.out.setRow _) _ Tryz.underlying25 rfl (by kernel_rfl) ⟨rfl, below_setRow HB.out HL.out _⟩
end Go.Proofs.YtdmlffbpcjadfaaGreatDoor
