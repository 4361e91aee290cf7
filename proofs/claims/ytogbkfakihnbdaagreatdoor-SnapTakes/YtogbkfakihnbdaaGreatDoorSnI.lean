import Derived.Test.YtogbkfakihnbdaaGreatDoorSnG
import Derived.Test.YtogbkfakihnbdaaGreatDoorRSnD
import Derived.Test.YtogbkfakihnbdaaGreatDoorZer
/- What must come, whatever the arguments are (layer 13). -/
namespace Go.Proofs.YtogbkfakihnbdaaGreatDoor
open Go.RowKit
set_option linter.unusedSimpArgs false

/-- The example: an operation that sets a value. -/
def exO : OpT := (4, (2, 1), (1, 1), (0, 0), ⟨#[]⟩, ⟨#[118]⟩)

def exB : ByteArray := encA (opPs exO)

theorem exB_size : exB.size = 27 := by decide +kernel

theorem exO_ok : ∀ p ∈ opPs exO, okP p = true := by decide +kernel

theorem exO_may : MayO exO := by
  unfold MayO
  refine ⟨by unfold MayS exO; decide, by unfold MayS exO; decide, ?_⟩
  right; right; right; left
  exact ⟨rfl, rfl, rfl, by decide⟩

theorem exO_put (M : OpT → Bool) (hM : ∀ o, M o = true ↔ MayO o) : putOpP M exO = (exB, 0) :=
  put_fit M exO ((hM _).2 exO_may) exO_ok (by show exB.size ≤ _; rw [exB_size]; decide)

theorem empty_put (M : OpT → Bool) : putSP M true true ([], [], (0, 0)) = (zeroB 19, 0) := by
  have h : codeP M true ([], [], (0, 0)) = (([], [], (0, 0)), 0) := by
    unfold codeP
    rw [if_neg (fun h => h.1 rfl), if_neg (by decide)]
    rfl
  unfold putSP
  rw [h, if_neg (by simp)]
  decide +kernel

theorem zero_a : inStampC (zeroB 19, 0) = ((zeroB 12, 0), (0, 0)) := by decide +kernel
theorem zero_b : inNumP (zeroB 12, 0) = ((zeroB 6, 0), 0) := by decide +kernel
theorem zero_c : inNumP (zeroB 6, 0) = ((zeroB 0, 0), 0) := by decide +kernel
end Go.Proofs.YtogbkfakihnbdaaGreatDoor

/- The statements' awake (layer 13). -/
namespace Go.Proofs.YtogbkfakihnbdaaGreatDoor
open Go.RowKit
set_option linter.unusedSimpArgs false

/-- Both cells that awake holds: the tree's, and the operation's. -/
structure AwS (w : World) (h : Nat) (W : World) : Prop where
  bel : Below w.heap.size w W
  s : Blk W 28 h #[.slice none 0 0, .slice none 0 0, .int .i64 0, .int .i64 0]
  o : Blk W 37 (h + 1) #[.int .i64 4, .int .i64 2, .int .i64 1, .int .i64 1, .int .i64 1, .int .i64 0, .int .i64 0, .string ⟨#[]⟩, .string ⟨#[118]⟩]
  low : w.heap.size ≤ h

theorem AwS.on {w : World} {h : Nat} {W W' : World} (k : AwS w h W) (hb : Below W.heap.size W W') : AwS w h W' := ⟨below_step k.bel (Nat.le_refl _) hb, k.s.on hb, k.o.on hb, k.low⟩

theorem empty_any (M : OpT → Bool) (hM : ∀ o, M o = true ↔ MayO o) (w : World) (hG : Glob8 w) : Calls Tryz.prog 8 #[.agg #[.slice none 0 0, .slice none 0 0, .int .i64 0, .int .i64 0]] w fun e w' => e = .returned (.tuple #[.string (zeroB 19), .int .i64 0]) ∧ Below w.heap.size w w' := by
  have h := put_any M hM [] [] 0 0 none none 0 0 w true true (by decide) (by decide) ⟨fun _ => ⟨by decide, fun k _ h => absurd h (Nat.not_lt_zero _), fun k h => absurd h (Nat.not_lt_zero _), fun x hx => absurd hx List.not_mem_nil⟩, fun _ => rfl⟩ ⟨fun _ k _ h => absurd h (Nat.not_lt_zero _), fun _ => rfl⟩ (fun k h => absurd h (Nat.not_lt_zero _)) (fun k h => absurd h (Nat.not_lt_zero _)) ⟨rfl, .inl rfl⟩ ⟨rfl, .inl rfl⟩ hG
  rw [empty_put] at h
  exact h

theorem emptyT_any (M : OpT → Bool) (hM : ∀ o, M o = true ↔ MayO o) (w : World) (hG : Glob8 w) : Calls Tryz.prog 5 #[.string (zeroB 19)] w fun e w' => e = .returned (.tuple #[.agg #[.slice none 0 0, .slice none 0 0, .int .i64 0, .int .i64 0], .int .i64 0]) ∧ Below w.heap.size w w' := by
  have h := take0_any (zeroB 19) w (by rw [zeroB_size]; decide) _ _ _ 0 0 (zeroB 19) 0 zero_a zero_b zero_c (fun W hW => empty_any M hM W (hG.below hW))
  rw [if_neg (by simp), if_neg (by simp)] at h
  exact h

set_option maxHeartbeats 8000000 in
set_option maxRecDepth 100000 in
theorem awake13 (w : World) (hG : Glob8 w) : Calls Tryz.prog 4 #[] w fun e w' => e = .returned (.bool true) ∧ Below w.heap.size w w' := by
  obtain ⟨M, hM⟩ := mayM_ex
  have CO' : ∀ W, Below w.heap.size w W → _ := fun W hW => putOp_any M hM exO W (hG.below hW) (by decide) (by decide)
  have CK' : ∀ W, Below w.heap.size w W → _ := fun W hW => takeOp_any M hM exB W (hG.below hW) (by rw [exB_size]; decide)
  have CP : Hid (∀ W, Below w.heap.size w W → _) := fun W hW => empty_any M hM W (hG.below hW)
  have CT : Hid (∀ W, Below w.heap.size w W → _) := fun W hW => emptyT_any M hM W (hG.below hW)
  rw [exO_put M hM] at CO'
  rw [takeC_put M exO exB (exO_put M hM)] at CK'
  have hE := fun W => opEq_is exO exO true (decide_eq_true rfl) W
  simp only [exO, opA] at CO' CK' hE
  have CS' : ∀ W, _ := fun W => rsameS_any [] [] 0 0 none none none none 0 0 0 0 W (by decide) (by decide) ⟨rfl, .inl rfl⟩ ⟨rfl, .inl rfl⟩ ⟨rfl, .inl rfl⟩ ⟨rfl, .inl rfl⟩
  simp only [List.length_nil] at CS'
  have CS : Hid (∀ W, _) := CS'
  obtain ⟨Z, hZ⟩ : ∃ Z, zeroB 19 = Z := ⟨_, rfl⟩
  obtain ⟨U, hU⟩ : ∃ U, exB = U := ⟨_, rfl⟩
  have hu : (U.size : Int) = 27 := by rw [← hU, exB_size]; rfl
  have hzz : (Z.toList == Z.toList) = true := by simp
  rw [hZ] at CP CT
  simp only [hU] at CO' CK'
  have CO : Hid (∀ W, Below w.heap.size w W → _) := CO'
  have CK : Hid (∀ W, Below w.heap.size w W → _) := CK'
  have m1 := fun w => make_zeros 19 19 rfl (by decide) w
  have v1 : ∀ w : World, (convert 41 9 (.slice (some ⟨w.heap.size, 0, none⟩) 19 19)).run Tryz.prog (w.alloc (.cells (zcells 19) 5)) = .ok (.string Z) (w.alloc (.cells (zcells 19) 5)) := fun w => by rw [← hZ]; exact conv_zeros (row_zeros 19 w)
  clear CO' CK' CS' hZ hU hM hG
  go_enter Tryz.func4, Tryz.ntmps4
  go_wp2_with fail
  refine (CP.out _ (Below.refl _ _)).mono ?_
  rintro e w1 ⟨rfl, hb1⟩
  have HB1 : Hid (Below w.heap.size w w1) := hb1
  clear CP hb1
  go_wp2_with fail
  refine (CT.out _ HB1.out).mono ?_
  rintro e w2 ⟨rfl, hb2⟩
  have HB2 : Hid (Below w.heap.size w w2) := below_step HB1.out (Nat.le_refl _) hb2
  clear CT hb2 HB1
  have X1 : Blk (w2.alloc (.cells #[.slice none 0 0, .slice none 0 0, .int .i64 0, .int .i64 0] 28)) 28 w2.heap.size #[.slice none 0 0, .slice none 0 0, .int .i64 0, .int .i64 0] := Blk.new _ _ _
  have X2 : Blk (((w2.alloc (.cells #[.slice none 0 0, .slice none 0 0, .int .i64 0, .int .i64 0] 28)).setRow w2.heap.size #[.slice none 0 0, .slice none 0 0, .int .i64 0, .int .i64 0]).alloc (.cells #[.int .i64 0, .int .i64 0, .int .i64 0, .int .i64 0, .int .i64 0, .int .i64 0, .int .i64 0, .string ⟨#[]⟩, .string ⟨#[]⟩] 37)) 37 (w2.heap.size + 1) #[.int .i64 0, .int .i64 0, .int .i64 0, .int .i64 0, .int .i64 0, .int .i64 0, .int .i64 0, .string ⟨#[]⟩, .string ⟨#[]⟩] := Blk.new' _ _ _ _ (by simp [World.setRow])
  have HS4 : Hid (AwS w w2.heap.size ((((w2.alloc (.cells #[.slice none 0 0, .slice none 0 0, .int .i64 0, .int .i64 0] 28)).setRow w2.heap.size #[.slice none 0 0, .slice none 0 0, .int .i64 0, .int .i64 0]).alloc (.cells #[.int .i64 0, .int .i64 0, .int .i64 0, .int .i64 0, .int .i64 0, .int .i64 0, .int .i64 0, .string ⟨#[]⟩, .string ⟨#[]⟩] 37)).setRow (w2.heap.size + 1) #[.int .i64 4, .int .i64 2, .int .i64 1, .int .i64 1, .int .i64 1, .int .i64 0, .int .i64 0, .string ⟨#[]⟩, .string ⟨#[118]⟩])) := ⟨below_setRow ((below_setRow (HB2.out.alloc HB2.out.size _) HB2.out.size _).alloc (by have := HB2.out.size; simp [World.setRow]; omega) _) (by have := HB2.out.size; omega) _, (((X1.setRow _).on (below_new _ _))).setRowOther _ (by omega) _, X2.setRow _, HB2.out.size⟩
  obtain ⟨w4, hw4⟩ : ∃ w4, ((((w2.alloc (.cells #[.slice none 0 0, .slice none 0 0, .int .i64 0, .int .i64 0] 28)).setRow w2.heap.size #[.slice none 0 0, .slice none 0 0, .int .i64 0, .int .i64 0]).alloc (.cells #[.int .i64 0, .int .i64 0, .int .i64 0, .int .i64 0, .int .i64 0, .int .i64 0, .int .i64 0, .string ⟨#[]⟩, .string ⟨#[]⟩] 37)).setRow (w2.heap.size + 1) #[.int .i64 4, .int .i64 2, .int .i64 1, .int .i64 1, .int .i64 1, .int .i64 0, .int .i64 0, .string ⟨#[]⟩, .string ⟨#[118]⟩]) = w4 := ⟨_, rfl⟩
  rw [hw4] at HS4
  have q0 : w4.cell? ⟨w2.heap.size + 1, 0, none⟩ = some (.int .i64 4) := HS4.out.o.cell 0
  have q1 : w4.cell? ⟨w2.heap.size + 1, 1, none⟩ = some (.int .i64 2) := HS4.out.o.cell 1
  have q2 : w4.cell? ⟨w2.heap.size + 1, 2, none⟩ = some (.int .i64 1) := HS4.out.o.cell 2
  have q3 : w4.cell? ⟨w2.heap.size + 1, 3, none⟩ = some (.int .i64 1) := HS4.out.o.cell 3
  have q4 : w4.cell? ⟨w2.heap.size + 1, 4, none⟩ = some (.int .i64 1) := HS4.out.o.cell 4
  have q5 : w4.cell? ⟨w2.heap.size + 1, 5, none⟩ = some (.int .i64 0) := HS4.out.o.cell 5
  have q6 : w4.cell? ⟨w2.heap.size + 1, 6, none⟩ = some (.int .i64 0) := HS4.out.o.cell 6
  have q7 : w4.cell? ⟨w2.heap.size + 1, 7, none⟩ = some (.string ⟨#[]⟩) := HS4.out.o.cell 7
  have q8 : w4.cell? ⟨w2.heap.size + 1, 8, none⟩ = some (.string ⟨#[118]⟩) := HS4.out.o.cell 8
  go_wp2_with (first
    | (with_reducible refine wpList_storeBlk rfl 28 _ _ rfl w2.heap.size #[.slice none 0 0, .slice none 0 0, .int .i64 0, .int .i64 0] #[.slice none 0 0, .slice none 0 0, .int .i64 0, .int .i64 0] ?hx ?hy X1 rfl ?hi ?h1 ?_)
    | (with_reducible refine wpList_storeBlk rfl 37 _ _ rfl (w2.heap.size + 1) #[.int .i64 0, .int .i64 0, .int .i64 0, .int .i64 0, .int .i64 0, .int .i64 0, .int .i64 0, .string ⟨#[]⟩, .string ⟨#[]⟩] #[.int .i64 4, .int .i64 2, .int .i64 1, .int .i64 1, .int .i64 1, .int .i64 0, .int .i64 0, .string ⟨#[]⟩, .string ⟨#[118]⟩] ?hx2 ?hy2 X2 rfl ?hi2 ?h12 ?_))
  try (case hx => rfl)
  try (case hy => rfl)
  try (case hi => kernel_rfl)
  try (case h1 => simp [Value.oneCell'])
  try (case hx2 => rfl)
  try (case hy2 => rfl)
  try (case hi2 => kernel_rfl)
  try (case h12 => simp [Value.oneCell'])
  try rw [hw4]
  obtain ⟨h, hh⟩ : ∃ h, w2.heap.size = h := ⟨_, rfl⟩
  rw [hh] at HS4
  try rw [hh]
  clear X1 X2 hw4 hh HB2 q0 q1 q2 q3 q4 q5 q6 q7 q8
  refine (CO.out w4 HS4.out.bel).mono ?_
  rintro e w5 ⟨rfl, hb5⟩
  have HS5 : Hid (AwS w h w5) := HS4.out.on hb5
  clear CO hb5 HS4
  go_wp2_with fail
  refine (CK.out w5 HS5.out.bel).mono ?_
  rintro e w6 ⟨rfl, hb6⟩
  have HS6 : Hid (AwS w h w6) := HS5.out.on hb6
  clear CK hb6 HS5
  have X3 : Blk (w6.alloc (.cells #[.int .i64 0, .int .i64 0, .int .i64 0, .int .i64 0, .int .i64 0, .int .i64 0, .int .i64 0, .string ⟨#[]⟩, .string ⟨#[]⟩] 37)) 37 w6.heap.size #[.int .i64 0, .int .i64 0, .int .i64 0, .int .i64 0, .int .i64 0, .int .i64 0, .int .i64 0, .string ⟨#[]⟩, .string ⟨#[]⟩] := Blk.new _ _ _
  have HS7 : Hid (AwS w h ((w6.alloc (.cells #[.int .i64 0, .int .i64 0, .int .i64 0, .int .i64 0, .int .i64 0, .int .i64 0, .int .i64 0, .string ⟨#[]⟩, .string ⟨#[]⟩] 37)).setRow w6.heap.size #[.int .i64 4, .int .i64 2, .int .i64 1, .int .i64 1, .int .i64 1, .int .i64 0, .int .i64 0, .string ⟨#[]⟩, .string ⟨#[118]⟩])) := HS6.out.on (below_setRow (below_new _ _) (Nat.le_refl _) _)
  have HP7 : Hid (Blk ((w6.alloc (.cells #[.int .i64 0, .int .i64 0, .int .i64 0, .int .i64 0, .int .i64 0, .int .i64 0, .int .i64 0, .string ⟨#[]⟩, .string ⟨#[]⟩] 37)).setRow w6.heap.size #[.int .i64 4, .int .i64 2, .int .i64 1, .int .i64 1, .int .i64 1, .int .i64 0, .int .i64 0, .string ⟨#[]⟩, .string ⟨#[118]⟩]) 37 w6.heap.size #[.int .i64 4, .int .i64 2, .int .i64 1, .int .i64 1, .int .i64 1, .int .i64 0, .int .i64 0, .string ⟨#[]⟩, .string ⟨#[118]⟩]) := X3.setRow _
  obtain ⟨w7, hw7⟩ : ∃ w7, (w6.alloc (.cells #[.int .i64 0, .int .i64 0, .int .i64 0, .int .i64 0, .int .i64 0, .int .i64 0, .int .i64 0, .string ⟨#[]⟩, .string ⟨#[]⟩] 37)).setRow w6.heap.size #[.int .i64 4, .int .i64 2, .int .i64 1, .int .i64 1, .int .i64 1, .int .i64 0, .int .i64 0, .string ⟨#[]⟩, .string ⟨#[118]⟩] = w7 := ⟨_, rfl⟩
  rw [hw7] at HS7 HP7
  have HS8 : Hid (AwS w h (w7.alloc (.cells (zcells 19) 5))) := HS7.out.on (below_new _ _)
  have HP8 : Hid (Blk (w7.alloc (.cells (zcells 19) 5)) 37 w6.heap.size #[.int .i64 4, .int .i64 2, .int .i64 1, .int .i64 1, .int .i64 1, .int .i64 0, .int .i64 0, .string ⟨#[]⟩, .string ⟨#[118]⟩]) := HP7.out.on (below_new _ _)
  have r0 : (w7.alloc (.cells (zcells 19) 5)).cell? ⟨h, 0, none⟩ = some (.slice none 0 0) := HS8.out.s.cell 0
  have r1 : (w7.alloc (.cells (zcells 19) 5)).cell? ⟨h, 1, none⟩ = some (.slice none 0 0) := HS8.out.s.cell 1
  have r2 : (w7.alloc (.cells (zcells 19) 5)).cell? ⟨h, 2, none⟩ = some (.int .i64 0) := HS8.out.s.cell 2
  have r3 : (w7.alloc (.cells (zcells 19) 5)).cell? ⟨h, 3, none⟩ = some (.int .i64 0) := HS8.out.s.cell 3
  clear HS6 HS7 HP7
  go_wp2_with (with_reducible refine wpList_storeBlk rfl 37 _ _ rfl w6.heap.size #[.int .i64 0, .int .i64 0, .int .i64 0, .int .i64 0, .int .i64 0, .int .i64 0, .int .i64 0, .string ⟨#[]⟩, .string ⟨#[]⟩] #[.int .i64 4, .int .i64 2, .int .i64 1, .int .i64 1, .int .i64 1, .int .i64 0, .int .i64 0, .string ⟨#[]⟩, .string ⟨#[118]⟩] ?hx ?hy X3 rfl ?hi ?h1 ?_)
  try (case hx => rfl)
  try (case hy => rfl)
  try (case hi => kernel_rfl)
  try (case h1 => simp [Value.oneCell'])
  try rw [hw7]
  clear hw7 X3 r0 r1 r2 r3
  refine (CS.out _).mono ?_
  rintro e w9 ⟨rfl, hb9⟩
  have HS9 := HS8.out.on hb9
  have HP9 := HP8.out.on hb9
  have p0 : w9.cell? ⟨w6.heap.size, 0, none⟩ = some (.int .i64 4) := HP9.cell 0
  have o0 : w9.cell? ⟨h + 1, 0, none⟩ = some (.int .i64 4) := HS9.o.cell 0
  have p1 : w9.cell? ⟨w6.heap.size, 1, none⟩ = some (.int .i64 2) := HP9.cell 1
  have o1 : w9.cell? ⟨h + 1, 1, none⟩ = some (.int .i64 2) := HS9.o.cell 1
  have p2 : w9.cell? ⟨w6.heap.size, 2, none⟩ = some (.int .i64 1) := HP9.cell 2
  have o2 : w9.cell? ⟨h + 1, 2, none⟩ = some (.int .i64 1) := HS9.o.cell 2
  have p3 : w9.cell? ⟨w6.heap.size, 3, none⟩ = some (.int .i64 1) := HP9.cell 3
  have o3 : w9.cell? ⟨h + 1, 3, none⟩ = some (.int .i64 1) := HS9.o.cell 3
  have p4 : w9.cell? ⟨w6.heap.size, 4, none⟩ = some (.int .i64 1) := HP9.cell 4
  have o4 : w9.cell? ⟨h + 1, 4, none⟩ = some (.int .i64 1) := HS9.o.cell 4
  have p5 : w9.cell? ⟨w6.heap.size, 5, none⟩ = some (.int .i64 0) := HP9.cell 5
  have o5 : w9.cell? ⟨h + 1, 5, none⟩ = some (.int .i64 0) := HS9.o.cell 5
  have p6 : w9.cell? ⟨w6.heap.size, 6, none⟩ = some (.int .i64 0) := HP9.cell 6
  have o6 : w9.cell? ⟨h + 1, 6, none⟩ = some (.int .i64 0) := HS9.o.cell 6
  have p7 : w9.cell? ⟨w6.heap.size, 7, none⟩ = some (.string ⟨#[]⟩) := HP9.cell 7
  have o7 : w9.cell? ⟨h + 1, 7, none⟩ = some (.string ⟨#[]⟩) := HS9.o.cell 7
  have p8 : w9.cell? ⟨w6.heap.size, 8, none⟩ = some (.string ⟨#[118]⟩) := HP9.cell 8
  have o8 : w9.cell? ⟨h + 1, 8, none⟩ = some (.string ⟨#[118]⟩) := HS9.o.cell 8
  have hB9 := HS9.bel
  clear CS hb9 HS8 HP8 HS9 HP9
  go_wp2_with fail
  go_ret
  exact ⟨rfl, hB9⟩
end Go.Proofs.YtogbkfakihnbdaaGreatDoor
