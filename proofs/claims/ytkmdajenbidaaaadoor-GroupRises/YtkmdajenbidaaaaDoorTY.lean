import Derived.Test.YtkmdajenbidaaaaDoorTA
import Derived.Test.YtkmdajenbidaaaaDoorRG
import Derived.Test.YtkmdajenbidaaaaDoorRT
import Derived.Test.YtkmdajenbidaaaaDoorN11
/- The code's isName, hasItsOwn, Check (layer 11). -/
namespace Go.Proofs.YtkmdajenbidaaaaDoor
open Go.RowKit
set_option maxRecDepth 100000
set_option linter.unusedSimpArgs false


set_option maxHeartbeats 1000000 in
theorem isName_any (s : ByteArray) (D : Bool) (hD : D = true ↔ NameP s) (w : World) (hs : s.size ≤ 1048576) (hG : Glob8 w) :
    Calls Tryd.prog 53 #[.string s] w fun e w' => e = .returned (.bool D) ∧ Below w.heap.size w w' := by
  have C : Hid (Calls _ _ _ _ _) := ncheck_any s w hs hG
  by_cases h : NameP s
  · obtain rfl : D = true := hD.2 h
    have hx : Hid (NameE s 0) := .inl ⟨rfl, h⟩
    clear hG
    go_enter Tryd.func53, Tryd.ntmps53
    go_wp2_with fail
    refine C.out.mono ?_
    rintro e w1 ⟨y, rfl, hy, hb1⟩
    rw [NameE.uniq hy hx.out]
    clear C hy
    go_wp2_with fail
    go_ret
    exact ⟨rfl, hb1⟩
  · obtain rfl : D = false := by
      cases D with
      | false => rfl
      | true => exact absurd (hD.1 rfl) h
    have hx : Hid (NameE s 80) := .inr ⟨rfl, h⟩
    clear hG
    go_enter Tryd.func53, Tryd.ntmps53
    go_wp2_with fail
    refine C.out.mono ?_
    rintro e w1 ⟨y, rfl, hy, hb1⟩
    rw [NameE.uniq hy hx.out]
    clear C hy
    go_wp2_with fail
    go_ret
    exact ⟨rfl, hb1⟩

theorem size_zero (s : ByteArray) : s.size = 0 ↔ s = ⟨#[]⟩ := by
  constructor
  · intro h
    have : s.data = #[] := by
      have : s.data.size = 0 := h
      exact Array.eq_empty_of_size_eq_zero this
    cases s; simp at this; rw [this]
  · rintro rfl; rfl

/-- The fields that an operation's kind asks for, and no others. -/
def OwnF (o : OpT) : Prop :=
  ((o.1 = 1 ∧ o.2.2.1 = o.2.1 ∧ ParS o.2.2.2.1 ∧ NameP o.2.2.2.2.1 ∧ o.2.2.2.2.2.size = 0) ∨
   (o.1 = 2 ∧ ParS o.2.2.2.1 ∧ o.2.2.2.2.1.size = 0 ∧ o.2.2.2.2.2.size = 0) ∨
   (o.1 = 3 ∧ o.2.2.2.1 = (0, 0) ∧ NameP o.2.2.2.2.1 ∧ o.2.2.2.2.2.size = 0) ∨
   (o.1 = 4 ∧ o.2.2.2.1 = (0, 0) ∧ o.2.2.2.2.1.size = 0 ∧ o.2.2.2.2.2.size ≤ 64) ∨
   (o.1 = 5 ∧ o.2.2.2.1 = (0, 0) ∧ o.2.2.2.2.1.size = 0 ∧ o.2.2.2.2.2.size = 0))

theorem own1 (a b c : Int × Int) (s t : ByteArray) : OwnF (1, a, b, c, s, t) ↔ (b = a ∧ ParS c ∧ NameP s ∧ t = ⟨#[]⟩) := by
  unfold OwnF
  simp only [← size_zero]
  constructor
  · rintro (h | h | h | h | h)
    · exact h.2
    · exact absurd h.1 (by decide)
    · exact absurd h.1 (by decide)
    · exact absurd h.1 (by decide)
    · exact absurd h.1 (by decide)
  · exact fun h => .inl ⟨trivial, h⟩

theorem own2 (a b c : Int × Int) (s t : ByteArray) : OwnF (2, a, b, c, s, t) ↔ (ParS c ∧ s = ⟨#[]⟩ ∧ t = ⟨#[]⟩) := by
  unfold OwnF
  simp only [← size_zero]
  constructor
  · rintro (h | h | h | h | h)
    · exact absurd h.1 (by decide)
    · exact h.2
    · exact absurd h.1 (by decide)
    · exact absurd h.1 (by decide)
    · exact absurd h.1 (by decide)
  · exact fun h => .inr (.inl ⟨trivial, h⟩)

theorem own3 (a b c : Int × Int) (s t : ByteArray) : OwnF (3, a, b, c, s, t) ↔ (c = (0, 0) ∧ NameP s ∧ t = ⟨#[]⟩) := by
  unfold OwnF
  simp only [← size_zero]
  constructor
  · rintro (h | h | h | h | h)
    · exact absurd h.1 (by decide)
    · exact absurd h.1 (by decide)
    · exact h.2
    · exact absurd h.1 (by decide)
    · exact absurd h.1 (by decide)
  · exact fun h => .inr (.inr (.inl ⟨trivial, h⟩))

theorem own4 (a b c : Int × Int) (s t : ByteArray) : OwnF (4, a, b, c, s, t) ↔ (c = (0, 0) ∧ s = ⟨#[]⟩ ∧ t.size ≤ 64) := by
  unfold OwnF
  simp only [← size_zero]
  constructor
  · rintro (h | h | h | h | h)
    · exact absurd h.1 (by decide)
    · exact absurd h.1 (by decide)
    · exact absurd h.1 (by decide)
    · exact h.2
    · exact absurd h.1 (by decide)
  · exact fun h => .inr (.inr (.inr (.inl ⟨trivial, h⟩)))

theorem own5 (a b c : Int × Int) (s t : ByteArray) : OwnF (5, a, b, c, s, t) ↔ (c = (0, 0) ∧ s = ⟨#[]⟩ ∧ t = ⟨#[]⟩) := by
  unfold OwnF
  simp only [← size_zero]
  constructor
  · rintro (h | h | h | h | h)
    · exact absurd h.1 (by decide)
    · exact absurd h.1 (by decide)
    · exact absurd h.1 (by decide)
    · exact absurd h.1 (by decide)
    · exact h.2
  · exact fun h => .inr (.inr (.inr (.inr (⟨trivial, h⟩))))


set_option maxRecDepth 100000 in
set_option maxHeartbeats 4000000 in
theorem hasItsOwn_any (o : OpT) (w : World) (hG : Glob8 w) (h7 : o.2.2.2.2.1.size ≤ 1048576) (h8 : o.2.2.2.2.2.size ≤ 9223372036854775807) :
    Calls Tryd.prog 49 #[.agg (opA o)] w fun e w' => ∃ b, e = .returned (.bool b) ∧ (b = true ↔ OwnF o) ∧ Below w.heap.size w w' := by
  obtain ⟨k0, ⟨k1, k2⟩, ⟨k3, k4⟩, ⟨k5, k6⟩, s7, s8⟩ := o
  simp only at h7 h8
  show Calls Tryd.prog _ #[.agg #[.int .i64 k0, .int .i64 k1, .int .i64 k2, .int .i64 k3, .int .i64 k4, .int .i64 k5, .int .i64 k6, .string s7, .string s8]] w _
  have CH : Hid (∀ W, _) := mayHold_any (k5, k6)
  obtain ⟨NB, hNB⟩ : ∃ D : Bool, D = true ↔ NameP s7 := ⟨@decide (NameP s7) (Classical.propDecidable _), by simp⟩
  have CN : Hid (∀ W, Below w.heap.size w W → Calls Tryd.prog 53 #[.string s7] W fun e w' => e = .returned (.bool NB) ∧ Below W.heap.size W w') := fun W hW => isName_any s7 NB hNB W h7 (hG.below hW)
  have CV : Hid (∀ W, _) := fun W => isValue_any s8 W h8
  obtain ⟨PB, hPB⟩ : ∃ D : Bool, decide (ParS (k5, k6)) = D := ⟨_, rfl⟩
  obtain ⟨VB, hVB⟩ : ∃ D : Bool, decide (s8.size ≤ 64) = D := ⟨_, rfl⟩
  rw [hPB] at CH
  rw [hVB] at CV
  simp only [stampV] at CH
  have HNB : Hid (NB = true ↔ NameP s7) := hNB
  have HPB : Hid (PB = true ↔ ParS (k5, k6)) := by show _ ↔ _; rw [← hPB]; simp
  have HVB : Hid (VB = true ↔ s8.size ≤ 64) := by show _ ↔ _; rw [← hVB]; simp
  clear hNB hPB hVB h7 h8 hG
  have HZ : Hid (Blk ((w.alloc (.cells #[.int .i64 k0, .int .i64 k1, .int .i64 k2, .int .i64 k3, .int .i64 k4, .int .i64 k5, .int .i64 k6, .string s7, .string s8] 32)).alloc (.cells #[.int .i64 0, .int .i64 0, .int .i64 0, .int .i64 0, .int .i64 0, .int .i64 0, .int .i64 0, .string ⟨#[]⟩, .string ⟨#[]⟩] 32)) 32 (w.heap.size + 1) #[.int .i64 0, .int .i64 0, .int .i64 0, .int .i64 0, .int .i64 0, .int .i64 0, .int .i64 0, .string ⟨#[]⟩, .string ⟨#[]⟩]) := Blk.new' _ _ _ _ (by simp)
  go_enter Tryd.func49, Tryd.ntmps49
  go_wp2_with (with_reducible refine wpList_storeBlkH rfl 32 _ _ rfl (w.heap.size + 1) #[.int .i64 0, .int .i64 0, .int .i64 0, .int .i64 0, .int .i64 0, .int .i64 0, .int .i64 0, .string ⟨#[]⟩, .string ⟨#[]⟩] #[.int .i64 0, .int .i64 0, .int .i64 0, .int .i64 0, .int .i64 0, .int .i64 k5, .int .i64 k6, .string s7, .string s8] ?hx ?hy HZ.out rfl ?hi ?h1 ?_)
  try (case hx => rfl)
  try (case hy => rfl)
  try (case hi => first | kernel_rfl | (refine Option.map_eq_some_iff.1 (?_ : (Tryd.prog.info? 32).map (·.size) = some 9); kernel_rfl))
  try (case h1 => simp [Value.oneCell'])
  unfold Hid
  obtain ⟨W, hW⟩ : ∃ W, ((w.alloc (.cells #[.int .i64 k0, .int .i64 k1, .int .i64 k2, .int .i64 k3, .int .i64 k4, .int .i64 k5, .int .i64 k6, .string s7, .string s8] 32)).alloc (.cells #[.int .i64 0, .int .i64 0, .int .i64 0, .int .i64 0, .int .i64 0, .int .i64 0, .int .i64 0, .string ⟨#[]⟩, .string ⟨#[]⟩] 32)).setRow (w.heap.size + 1) #[.int .i64 0, .int .i64 0, .int .i64 0, .int .i64 0, .int .i64 0, .int .i64 k5, .int .i64 k6, .string s7, .string s8] = W := ⟨_, rfl⟩
  have KR : Blk W 32 (w.heap.size + 1) #[.int .i64 0, .int .i64 0, .int .i64 0, .int .i64 0, .int .i64 0, .int .i64 k5, .int .i64 k6, .string s7, .string s8] := by rw [← hW]; exact HZ.out.setRow _
  have KO : Blk W 32 w.heap.size #[.int .i64 k0, .int .i64 k1, .int .i64 k2, .int .i64 k3, .int .i64 k4, .int .i64 k5, .int .i64 k6, .string s7, .string s8] := by rw [← hW]; exact ((Blk.new _ _ _).alloc _).setRowOther _ (by omega) _
  have hB : Below w.heap.size w W := by rw [← hW]; exact below_setRow ((below_new w _).alloc (by simp) _) (by omega) _
  rw [hW]
  clear hW HZ
  have d0 : W.cell? ⟨w.heap.size, 0, none⟩ = some (.int .i64 k0) := KO.cell 0
  have d1 : W.cell? ⟨w.heap.size, 1, none⟩ = some (.int .i64 k1) := KO.cell 1
  have d2 : W.cell? ⟨w.heap.size, 2, none⟩ = some (.int .i64 k2) := KO.cell 2
  have d3 : W.cell? ⟨w.heap.size, 3, none⟩ = some (.int .i64 k3) := KO.cell 3
  have d4 : W.cell? ⟨w.heap.size, 4, none⟩ = some (.int .i64 k4) := KO.cell 4
  have d5 : W.cell? ⟨w.heap.size, 5, none⟩ = some (.int .i64 k5) := KO.cell 5
  have d6 : W.cell? ⟨w.heap.size, 6, none⟩ = some (.int .i64 k6) := KO.cell 6
  have d7 : W.cell? ⟨w.heap.size, 7, none⟩ = some (.string s7) := KO.cell 7
  have d8 : W.cell? ⟨w.heap.size, 8, none⟩ = some (.string s8) := KO.cell 8
  have KX := KR
  by_cases e1 : k0 = 1
  · subst e1
    have eA := fun w => stampEq k3 k4 k1 k2 w
    by_cases hA : (k3, k4) = (k1, k2)
    · rw [decide_eq_true hA] at eA
      clear KX
      go_wp2_with fail
      refine (CH.out _).mono ?_
      rintro e W1 ⟨rfl, hb1⟩
      have hB1 := below_step hB (Nat.le_refl _) hb1
      have KX := KR.on hb1
      have f7 : W1.cell? ⟨w.heap.size, 7, none⟩ = some (.string s7) := (KO.on hb1).cell 7
      have hl := KX.lt
      cases PB with
      | false =>
        have hp : Hid (¬ ParS (k5, k6)) := fun h => by have := HPB.out.2 h; cases this
        clear HPB
        have KS0 : Blk W1 32 (w.heap.size + 1) #[.int .i64 0, .int .i64 0, .int .i64 0, .int .i64 0, .int .i64 0, .int .i64 k5, .int .i64 k6, .string s7, .string s8] := KX
        have y0 : W1.cell? ⟨w.heap.size + 1, 5, none⟩ = some (.int .i64 k5) := KS0.cell 5
        have z0 : W1.frozen? ⟨w.heap.size + 1, 5, none⟩ = false := KS0.free 5
        have KS1 := KS0.setAt 5 (.int .i64 0)
        have y1 : (W1.setCell ⟨w.heap.size + 1, 5, none⟩ (.int .i64 0)).cell? ⟨w.heap.size + 1, 6, none⟩ = some (.int .i64 k6) := KS1.cell 6
        have z1 : (W1.setCell ⟨w.heap.size + 1, 5, none⟩ (.int .i64 0)).frozen? ⟨w.heap.size + 1, 6, none⟩ = false := KS1.free 6
        have KS2 := KS1.setAt 6 (.int .i64 0)
        have y2 : ((W1.setCell ⟨w.heap.size + 1, 5, none⟩ (.int .i64 0)).setCell ⟨w.heap.size + 1, 6, none⟩ (.int .i64 0)).cell? ⟨w.heap.size + 1, 7, none⟩ = some (.string s7) := KS2.cell 7
        have z2 : ((W1.setCell ⟨w.heap.size + 1, 5, none⟩ (.int .i64 0)).setCell ⟨w.heap.size + 1, 6, none⟩ (.int .i64 0)).frozen? ⟨w.heap.size + 1, 7, none⟩ = false := KS2.free 7
        have KS3 := KS2.setAt 7 (.string ⟨#[]⟩)
        clear KO KR KX CN CV KS0 KS1 KS2 KS3
        go_wp2_with fail
        go_ret
        refine ⟨false, rfl, ?_, (Below.setCell (Below.setCell (Below.setCell hB1 (p := ⟨w.heap.size + 1, 5, none⟩) (by show _ ≤ w.heap.size + 1; omega) _) (p := ⟨w.heap.size + 1, 6, none⟩) (by show _ ≤ w.heap.size + 1; omega) _) (p := ⟨w.heap.size + 1, 7, none⟩) (by show _ ≤ w.heap.size + 1; omega) _)⟩
        rw [own1]
        exact ⟨fun h => (by cases h), fun h => absurd h.2.1 hp.out⟩
      | true =>
        have hp : Hid (ParS (k5, k6)) := HPB.out.1 rfl
        clear HPB
        go_wp2_with fail
        refine (CN.out _ hB1).mono ?_
        rintro e W2 ⟨rfl, hb2⟩
        have hB2 := below_step hB1 (Nat.le_refl _) hb2
        replace KX := KX.on hb2
        have KS0 : Blk W2 32 (w.heap.size + 1) #[.int .i64 0, .int .i64 0, .int .i64 0, .int .i64 0, .int .i64 0, .int .i64 k5, .int .i64 k6, .string s7, .string s8] := KX
        have y0 : W2.cell? ⟨w.heap.size + 1, 5, none⟩ = some (.int .i64 k5) := KS0.cell 5
        have z0 : W2.frozen? ⟨w.heap.size + 1, 5, none⟩ = false := KS0.free 5
        have KS1 := KS0.setAt 5 (.int .i64 0)
        have y1 : (W2.setCell ⟨w.heap.size + 1, 5, none⟩ (.int .i64 0)).cell? ⟨w.heap.size + 1, 6, none⟩ = some (.int .i64 k6) := KS1.cell 6
        have z1 : (W2.setCell ⟨w.heap.size + 1, 5, none⟩ (.int .i64 0)).frozen? ⟨w.heap.size + 1, 6, none⟩ = false := KS1.free 6
        have KS2 := KS1.setAt 6 (.int .i64 0)
        have y2 : ((W2.setCell ⟨w.heap.size + 1, 5, none⟩ (.int .i64 0)).setCell ⟨w.heap.size + 1, 6, none⟩ (.int .i64 0)).cell? ⟨w.heap.size + 1, 7, none⟩ = some (.string s7) := KS2.cell 7
        have z2 : ((W2.setCell ⟨w.heap.size + 1, 5, none⟩ (.int .i64 0)).setCell ⟨w.heap.size + 1, 6, none⟩ (.int .i64 0)).frozen? ⟨w.heap.size + 1, 7, none⟩ = false := KS2.free 7
        have KS3 := KS2.setAt 7 (.string ⟨#[]⟩)
        cases NB with
        | false =>
          have hq : Hid (¬ NameP s7) := fun h => by have := HNB.out.2 h; cases this
          clear HNB
          clear KO KR KX CV KS0 KS1 KS2 KS3
          go_wp2_with fail
          go_ret
          refine ⟨false, rfl, ?_, (Below.setCell (Below.setCell (Below.setCell hB2 (p := ⟨w.heap.size + 1, 5, none⟩) (by show _ ≤ w.heap.size + 1; omega) _) (p := ⟨w.heap.size + 1, 6, none⟩) (by show _ ≤ w.heap.size + 1; omega) _) (p := ⟨w.heap.size + 1, 7, none⟩) (by show _ ≤ w.heap.size + 1; omega) _)⟩
          rw [own1]
          exact ⟨fun h => (by cases h), fun h => absurd h.2.2.1 hq.out⟩
        | true =>
          have hq : Hid (NameP s7) := HNB.out.1 rfl
          clear HNB
          have HA : Hid ((k3, k4) = (k1, k2)) := hA
          clear hA
          have r0 : (((W2.setCell ⟨w.heap.size + 1, 5, none⟩ (.int .i64 0)).setCell ⟨w.heap.size + 1, 6, none⟩ (.int .i64 0)).setCell ⟨w.heap.size + 1, 7, none⟩ (.string ⟨#[]⟩)).cell? ⟨w.heap.size + 1, 0, none⟩ = some (.int .i64 0) := KS3.cell 0
          have r1 : (((W2.setCell ⟨w.heap.size + 1, 5, none⟩ (.int .i64 0)).setCell ⟨w.heap.size + 1, 6, none⟩ (.int .i64 0)).setCell ⟨w.heap.size + 1, 7, none⟩ (.string ⟨#[]⟩)).cell? ⟨w.heap.size + 1, 1, none⟩ = some (.int .i64 0) := KS3.cell 1
          have r2 : (((W2.setCell ⟨w.heap.size + 1, 5, none⟩ (.int .i64 0)).setCell ⟨w.heap.size + 1, 6, none⟩ (.int .i64 0)).setCell ⟨w.heap.size + 1, 7, none⟩ (.string ⟨#[]⟩)).cell? ⟨w.heap.size + 1, 2, none⟩ = some (.int .i64 0) := KS3.cell 2
          have r3 : (((W2.setCell ⟨w.heap.size + 1, 5, none⟩ (.int .i64 0)).setCell ⟨w.heap.size + 1, 6, none⟩ (.int .i64 0)).setCell ⟨w.heap.size + 1, 7, none⟩ (.string ⟨#[]⟩)).cell? ⟨w.heap.size + 1, 3, none⟩ = some (.int .i64 0) := KS3.cell 3
          have r4 : (((W2.setCell ⟨w.heap.size + 1, 5, none⟩ (.int .i64 0)).setCell ⟨w.heap.size + 1, 6, none⟩ (.int .i64 0)).setCell ⟨w.heap.size + 1, 7, none⟩ (.string ⟨#[]⟩)).cell? ⟨w.heap.size + 1, 4, none⟩ = some (.int .i64 0) := KS3.cell 4
          have r5 : (((W2.setCell ⟨w.heap.size + 1, 5, none⟩ (.int .i64 0)).setCell ⟨w.heap.size + 1, 6, none⟩ (.int .i64 0)).setCell ⟨w.heap.size + 1, 7, none⟩ (.string ⟨#[]⟩)).cell? ⟨w.heap.size + 1, 5, none⟩ = some (.int .i64 0) := KS3.cell 5
          have r6 : (((W2.setCell ⟨w.heap.size + 1, 5, none⟩ (.int .i64 0)).setCell ⟨w.heap.size + 1, 6, none⟩ (.int .i64 0)).setCell ⟨w.heap.size + 1, 7, none⟩ (.string ⟨#[]⟩)).cell? ⟨w.heap.size + 1, 6, none⟩ = some (.int .i64 0) := KS3.cell 6
          have r7 : (((W2.setCell ⟨w.heap.size + 1, 5, none⟩ (.int .i64 0)).setCell ⟨w.heap.size + 1, 6, none⟩ (.int .i64 0)).setCell ⟨w.heap.size + 1, 7, none⟩ (.string ⟨#[]⟩)).cell? ⟨w.heap.size + 1, 7, none⟩ = some (.string ⟨#[]⟩) := KS3.cell 7
          have r8 : (((W2.setCell ⟨w.heap.size + 1, 5, none⟩ (.int .i64 0)).setCell ⟨w.heap.size + 1, 6, none⟩ (.int .i64 0)).setCell ⟨w.heap.size + 1, 7, none⟩ (.string ⟨#[]⟩)).cell? ⟨w.heap.size + 1, 8, none⟩ = some (.string s8) := KS3.cell 8
          have q := fun w => opEq (0, (0, 0), (0, 0), (0, 0), ⟨#[]⟩, s8) (0, (0, 0), (0, 0), (0, 0), ⟨#[]⟩, ⟨#[]⟩) w
          simp only [opA] at q
          obtain ⟨D, hD⟩ : ∃ D : Bool, decide (((0 : Int), ((0 : Int), (0 : Int)), ((0 : Int), (0 : Int)), ((0 : Int), (0 : Int)), (⟨#[]⟩ : ByteArray), s8) = (0, (0, 0), (0, 0), (0, 0), ⟨#[]⟩, ⟨#[]⟩)) = D := ⟨_, rfl⟩
          rw [hD] at q
          clear KO KR KX KS0 KS1 KS2 KS3
          go_wp2_with fail
          go_ret
          refine ⟨D, rfl, ?_, (Below.setCell (Below.setCell (Below.setCell hB2 (p := ⟨w.heap.size + 1, 5, none⟩) (by show _ ≤ w.heap.size + 1; omega) _) (p := ⟨w.heap.size + 1, 6, none⟩) (by show _ ≤ w.heap.size + 1; omega) _) (p := ⟨w.heap.size + 1, 7, none⟩) (by show _ ≤ w.heap.size + 1; omega) _)⟩
          rw [← hD]
          rw [own1, decide_eq_true_iff]
          simp only [Prod.mk.injEq, and_true, true_and]
          exact ⟨fun h => ⟨(by have := HA.out; simp only [Prod.mk.injEq] at this; exact this), hp.out, hq.out, h⟩, fun h => h.2.2.2⟩
    · rw [decide_eq_false hA] at eA
      have HA : Hid (¬ (k3, k4) = (k1, k2)) := hA
      clear hA
      have KS0 : Blk W 32 (w.heap.size + 1) #[.int .i64 0, .int .i64 0, .int .i64 0, .int .i64 0, .int .i64 0, .int .i64 k5, .int .i64 k6, .string s7, .string s8] := KX
      have y0 : W.cell? ⟨w.heap.size + 1, 5, none⟩ = some (.int .i64 k5) := KS0.cell 5
      have z0 : W.frozen? ⟨w.heap.size + 1, 5, none⟩ = false := KS0.free 5
      have KS1 := KS0.setAt 5 (.int .i64 0)
      have y1 : (W.setCell ⟨w.heap.size + 1, 5, none⟩ (.int .i64 0)).cell? ⟨w.heap.size + 1, 6, none⟩ = some (.int .i64 k6) := KS1.cell 6
      have z1 : (W.setCell ⟨w.heap.size + 1, 5, none⟩ (.int .i64 0)).frozen? ⟨w.heap.size + 1, 6, none⟩ = false := KS1.free 6
      have KS2 := KS1.setAt 6 (.int .i64 0)
      have y2 : ((W.setCell ⟨w.heap.size + 1, 5, none⟩ (.int .i64 0)).setCell ⟨w.heap.size + 1, 6, none⟩ (.int .i64 0)).cell? ⟨w.heap.size + 1, 7, none⟩ = some (.string s7) := KS2.cell 7
      have z2 : ((W.setCell ⟨w.heap.size + 1, 5, none⟩ (.int .i64 0)).setCell ⟨w.heap.size + 1, 6, none⟩ (.int .i64 0)).frozen? ⟨w.heap.size + 1, 7, none⟩ = false := KS2.free 7
      have KS3 := KS2.setAt 7 (.string ⟨#[]⟩)
      clear KO KR KX CN CV CH KS0 KS1 KS2 KS3
      go_wp2_with fail
      go_ret
      refine ⟨false, rfl, ?_, (Below.setCell (Below.setCell (Below.setCell hB (p := ⟨w.heap.size + 1, 5, none⟩) (by show _ ≤ w.heap.size + 1; omega) _) (p := ⟨w.heap.size + 1, 6, none⟩) (by show _ ≤ w.heap.size + 1; omega) _) (p := ⟨w.heap.size + 1, 7, none⟩) (by show _ ≤ w.heap.size + 1; omega) _)⟩
      rw [own1]
      exact ⟨fun h => (by cases h), fun h => absurd h.1 HA.out⟩
  by_cases e2 : k0 = 2
  · subst e2
    clear KX
    go_wp2_with fail
    refine (CH.out _).mono ?_
    rintro e W1 ⟨rfl, hb1⟩
    have hB1 := below_step hB (Nat.le_refl _) hb1
    have KX := KR.on hb1
    have hl := KX.lt
    have KS0 : Blk W1 32 (w.heap.size + 1) #[.int .i64 0, .int .i64 0, .int .i64 0, .int .i64 0, .int .i64 0, .int .i64 k5, .int .i64 k6, .string s7, .string s8] := KX
    have y0 : W1.cell? ⟨w.heap.size + 1, 5, none⟩ = some (.int .i64 k5) := KS0.cell 5
    have z0 : W1.frozen? ⟨w.heap.size + 1, 5, none⟩ = false := KS0.free 5
    have KS1 := KS0.setAt 5 (.int .i64 0)
    have y1 : (W1.setCell ⟨w.heap.size + 1, 5, none⟩ (.int .i64 0)).cell? ⟨w.heap.size + 1, 6, none⟩ = some (.int .i64 k6) := KS1.cell 6
    have z1 : (W1.setCell ⟨w.heap.size + 1, 5, none⟩ (.int .i64 0)).frozen? ⟨w.heap.size + 1, 6, none⟩ = false := KS1.free 6
    have KS2 := KS1.setAt 6 (.int .i64 0)
    cases PB with
    | false =>
      have hp : Hid (¬ ParS (k5, k6)) := fun h => by have := HPB.out.2 h; cases this
      clear HPB
      clear KO KR KX CN CV KS0 KS1 KS2
      go_wp2_with fail
      go_ret
      refine ⟨false, rfl, ?_, (Below.setCell (Below.setCell hB1 (p := ⟨w.heap.size + 1, 5, none⟩) (by show _ ≤ w.heap.size + 1; omega) _) (p := ⟨w.heap.size + 1, 6, none⟩) (by show _ ≤ w.heap.size + 1; omega) _)⟩
      rw [own2]
      exact ⟨fun h => (by cases h), fun h => absurd h.1 hp.out⟩
    | true =>
      have hp : Hid (ParS (k5, k6)) := HPB.out.1 rfl
      clear HPB
      have r0 : ((W1.setCell ⟨w.heap.size + 1, 5, none⟩ (.int .i64 0)).setCell ⟨w.heap.size + 1, 6, none⟩ (.int .i64 0)).cell? ⟨w.heap.size + 1, 0, none⟩ = some (.int .i64 0) := KS2.cell 0
      have r1 : ((W1.setCell ⟨w.heap.size + 1, 5, none⟩ (.int .i64 0)).setCell ⟨w.heap.size + 1, 6, none⟩ (.int .i64 0)).cell? ⟨w.heap.size + 1, 1, none⟩ = some (.int .i64 0) := KS2.cell 1
      have r2 : ((W1.setCell ⟨w.heap.size + 1, 5, none⟩ (.int .i64 0)).setCell ⟨w.heap.size + 1, 6, none⟩ (.int .i64 0)).cell? ⟨w.heap.size + 1, 2, none⟩ = some (.int .i64 0) := KS2.cell 2
      have r3 : ((W1.setCell ⟨w.heap.size + 1, 5, none⟩ (.int .i64 0)).setCell ⟨w.heap.size + 1, 6, none⟩ (.int .i64 0)).cell? ⟨w.heap.size + 1, 3, none⟩ = some (.int .i64 0) := KS2.cell 3
      have r4 : ((W1.setCell ⟨w.heap.size + 1, 5, none⟩ (.int .i64 0)).setCell ⟨w.heap.size + 1, 6, none⟩ (.int .i64 0)).cell? ⟨w.heap.size + 1, 4, none⟩ = some (.int .i64 0) := KS2.cell 4
      have r5 : ((W1.setCell ⟨w.heap.size + 1, 5, none⟩ (.int .i64 0)).setCell ⟨w.heap.size + 1, 6, none⟩ (.int .i64 0)).cell? ⟨w.heap.size + 1, 5, none⟩ = some (.int .i64 0) := KS2.cell 5
      have r6 : ((W1.setCell ⟨w.heap.size + 1, 5, none⟩ (.int .i64 0)).setCell ⟨w.heap.size + 1, 6, none⟩ (.int .i64 0)).cell? ⟨w.heap.size + 1, 6, none⟩ = some (.int .i64 0) := KS2.cell 6
      have r7 : ((W1.setCell ⟨w.heap.size + 1, 5, none⟩ (.int .i64 0)).setCell ⟨w.heap.size + 1, 6, none⟩ (.int .i64 0)).cell? ⟨w.heap.size + 1, 7, none⟩ = some (.string s7) := KS2.cell 7
      have r8 : ((W1.setCell ⟨w.heap.size + 1, 5, none⟩ (.int .i64 0)).setCell ⟨w.heap.size + 1, 6, none⟩ (.int .i64 0)).cell? ⟨w.heap.size + 1, 8, none⟩ = some (.string s8) := KS2.cell 8
      have q := fun w => opEq (0, (0, 0), (0, 0), (0, 0), s7, s8) (0, (0, 0), (0, 0), (0, 0), ⟨#[]⟩, ⟨#[]⟩) w
      simp only [opA] at q
      obtain ⟨D, hD⟩ : ∃ D : Bool, decide (((0 : Int), ((0 : Int), (0 : Int)), ((0 : Int), (0 : Int)), ((0 : Int), (0 : Int)), s7, s8) = (0, (0, 0), (0, 0), (0, 0), ⟨#[]⟩, ⟨#[]⟩)) = D := ⟨_, rfl⟩
      rw [hD] at q
      clear KO KR KX KS0 KS1 KS2
      go_wp2_with fail
      go_ret
      refine ⟨D, rfl, ?_, (Below.setCell (Below.setCell hB1 (p := ⟨w.heap.size + 1, 5, none⟩) (by show _ ≤ w.heap.size + 1; omega) _) (p := ⟨w.heap.size + 1, 6, none⟩) (by show _ ≤ w.heap.size + 1; omega) _)⟩
      rw [← hD]
      rw [own2, decide_eq_true_iff]
      simp only [Prod.mk.injEq, and_true, true_and]
      exact ⟨fun h => ⟨hp.out, h⟩, fun h => h.2⟩
  by_cases e3 : k0 = 3
  · subst e3
    clear KX
    go_wp2_with fail
    refine (CN.out _ hB).mono ?_
    rintro e W1 ⟨rfl, hb1⟩
    have hB1 := below_step hB (Nat.le_refl _) hb1
    have KX := KR.on hb1
    have hl := KX.lt
    have KS0 : Blk W1 32 (w.heap.size + 1) #[.int .i64 0, .int .i64 0, .int .i64 0, .int .i64 0, .int .i64 0, .int .i64 k5, .int .i64 k6, .string s7, .string s8] := KX
    have y0 : W1.cell? ⟨w.heap.size + 1, 7, none⟩ = some (.string s7) := KS0.cell 7
    have z0 : W1.frozen? ⟨w.heap.size + 1, 7, none⟩ = false := KS0.free 7
    have KS1 := KS0.setAt 7 (.string ⟨#[]⟩)
    cases NB with
    | false =>
      have hq : Hid (¬ NameP s7) := fun h => by have := HNB.out.2 h; cases this
      clear HNB
      clear KO KR KX CH CV KS0 KS1
      go_wp2_with fail
      go_ret
      refine ⟨false, rfl, ?_, (Below.setCell hB1 (p := ⟨w.heap.size + 1, 7, none⟩) (by show _ ≤ w.heap.size + 1; omega) _)⟩
      rw [own3]
      exact ⟨fun h => (by cases h), fun h => absurd h.2.1 hq.out⟩
    | true =>
      have hq : Hid (NameP s7) := HNB.out.1 rfl
      clear HNB
      have r0 : (W1.setCell ⟨w.heap.size + 1, 7, none⟩ (.string ⟨#[]⟩)).cell? ⟨w.heap.size + 1, 0, none⟩ = some (.int .i64 0) := KS1.cell 0
      have r1 : (W1.setCell ⟨w.heap.size + 1, 7, none⟩ (.string ⟨#[]⟩)).cell? ⟨w.heap.size + 1, 1, none⟩ = some (.int .i64 0) := KS1.cell 1
      have r2 : (W1.setCell ⟨w.heap.size + 1, 7, none⟩ (.string ⟨#[]⟩)).cell? ⟨w.heap.size + 1, 2, none⟩ = some (.int .i64 0) := KS1.cell 2
      have r3 : (W1.setCell ⟨w.heap.size + 1, 7, none⟩ (.string ⟨#[]⟩)).cell? ⟨w.heap.size + 1, 3, none⟩ = some (.int .i64 0) := KS1.cell 3
      have r4 : (W1.setCell ⟨w.heap.size + 1, 7, none⟩ (.string ⟨#[]⟩)).cell? ⟨w.heap.size + 1, 4, none⟩ = some (.int .i64 0) := KS1.cell 4
      have r5 : (W1.setCell ⟨w.heap.size + 1, 7, none⟩ (.string ⟨#[]⟩)).cell? ⟨w.heap.size + 1, 5, none⟩ = some (.int .i64 k5) := KS1.cell 5
      have r6 : (W1.setCell ⟨w.heap.size + 1, 7, none⟩ (.string ⟨#[]⟩)).cell? ⟨w.heap.size + 1, 6, none⟩ = some (.int .i64 k6) := KS1.cell 6
      have r7 : (W1.setCell ⟨w.heap.size + 1, 7, none⟩ (.string ⟨#[]⟩)).cell? ⟨w.heap.size + 1, 7, none⟩ = some (.string ⟨#[]⟩) := KS1.cell 7
      have r8 : (W1.setCell ⟨w.heap.size + 1, 7, none⟩ (.string ⟨#[]⟩)).cell? ⟨w.heap.size + 1, 8, none⟩ = some (.string s8) := KS1.cell 8
      have q := fun w => opEq (0, (0, 0), (0, 0), (k5, k6), ⟨#[]⟩, s8) (0, (0, 0), (0, 0), (0, 0), ⟨#[]⟩, ⟨#[]⟩) w
      simp only [opA] at q
      obtain ⟨D, hD⟩ : ∃ D : Bool, decide (((0 : Int), ((0 : Int), (0 : Int)), ((0 : Int), (0 : Int)), (k5, k6), (⟨#[]⟩ : ByteArray), s8) = (0, (0, 0), (0, 0), (0, 0), ⟨#[]⟩, ⟨#[]⟩)) = D := ⟨_, rfl⟩
      rw [hD] at q
      clear KO KR KX KS0 KS1
      go_wp2_with fail
      go_ret
      refine ⟨D, rfl, ?_, (Below.setCell hB1 (p := ⟨w.heap.size + 1, 7, none⟩) (by show _ ≤ w.heap.size + 1; omega) _)⟩
      rw [← hD]
      rw [own3, decide_eq_true_iff]
      simp only [Prod.mk.injEq, and_true, true_and]
      exact ⟨fun h => ⟨h.1, hq.out, h.2⟩, fun h => ⟨h.1, h.2.2⟩⟩
  by_cases e4 : k0 = 4
  · subst e4
    clear KX
    go_wp2_with fail
    refine (CV.out _).mono ?_
    rintro e W1 ⟨rfl, rfl⟩
    have KX := KR
    have hl := KX.lt
    have KS0 : Blk W1 32 (w.heap.size + 1) #[.int .i64 0, .int .i64 0, .int .i64 0, .int .i64 0, .int .i64 0, .int .i64 k5, .int .i64 k6, .string s7, .string s8] := KX
    have y0 : W1.cell? ⟨w.heap.size + 1, 8, none⟩ = some (.string s8) := KS0.cell 8
    have z0 : W1.frozen? ⟨w.heap.size + 1, 8, none⟩ = false := KS0.free 8
    have KS1 := KS0.setAt 8 (.string ⟨#[]⟩)
    cases VB with
    | false =>
      have hv : Hid (¬ s8.size ≤ 64) := fun h => by have := HVB.out.2 h; cases this
      clear HVB
      clear KO KR KX CH CN KS0 KS1
      go_wp2_with fail
      go_ret
      refine ⟨false, rfl, ?_, (Below.setCell hB (p := ⟨w.heap.size + 1, 8, none⟩) (by show _ ≤ w.heap.size + 1; omega) _)⟩
      rw [own4]
      exact ⟨fun h => (by cases h), fun h => absurd h.2.2 hv.out⟩
    | true =>
      have hv : Hid (s8.size ≤ 64) := HVB.out.1 rfl
      clear HVB
      have r0 : (W1.setCell ⟨w.heap.size + 1, 8, none⟩ (.string ⟨#[]⟩)).cell? ⟨w.heap.size + 1, 0, none⟩ = some (.int .i64 0) := KS1.cell 0
      have r1 : (W1.setCell ⟨w.heap.size + 1, 8, none⟩ (.string ⟨#[]⟩)).cell? ⟨w.heap.size + 1, 1, none⟩ = some (.int .i64 0) := KS1.cell 1
      have r2 : (W1.setCell ⟨w.heap.size + 1, 8, none⟩ (.string ⟨#[]⟩)).cell? ⟨w.heap.size + 1, 2, none⟩ = some (.int .i64 0) := KS1.cell 2
      have r3 : (W1.setCell ⟨w.heap.size + 1, 8, none⟩ (.string ⟨#[]⟩)).cell? ⟨w.heap.size + 1, 3, none⟩ = some (.int .i64 0) := KS1.cell 3
      have r4 : (W1.setCell ⟨w.heap.size + 1, 8, none⟩ (.string ⟨#[]⟩)).cell? ⟨w.heap.size + 1, 4, none⟩ = some (.int .i64 0) := KS1.cell 4
      have r5 : (W1.setCell ⟨w.heap.size + 1, 8, none⟩ (.string ⟨#[]⟩)).cell? ⟨w.heap.size + 1, 5, none⟩ = some (.int .i64 k5) := KS1.cell 5
      have r6 : (W1.setCell ⟨w.heap.size + 1, 8, none⟩ (.string ⟨#[]⟩)).cell? ⟨w.heap.size + 1, 6, none⟩ = some (.int .i64 k6) := KS1.cell 6
      have r7 : (W1.setCell ⟨w.heap.size + 1, 8, none⟩ (.string ⟨#[]⟩)).cell? ⟨w.heap.size + 1, 7, none⟩ = some (.string s7) := KS1.cell 7
      have r8 : (W1.setCell ⟨w.heap.size + 1, 8, none⟩ (.string ⟨#[]⟩)).cell? ⟨w.heap.size + 1, 8, none⟩ = some (.string ⟨#[]⟩) := KS1.cell 8
      have q := fun w => opEq (0, (0, 0), (0, 0), (k5, k6), s7, ⟨#[]⟩) (0, (0, 0), (0, 0), (0, 0), ⟨#[]⟩, ⟨#[]⟩) w
      simp only [opA] at q
      obtain ⟨D, hD⟩ : ∃ D : Bool, decide (((0 : Int), ((0 : Int), (0 : Int)), ((0 : Int), (0 : Int)), (k5, k6), s7, (⟨#[]⟩ : ByteArray)) = (0, (0, 0), (0, 0), (0, 0), ⟨#[]⟩, ⟨#[]⟩)) = D := ⟨_, rfl⟩
      rw [hD] at q
      clear KO KR KX KS0 KS1
      go_wp2_with fail
      go_ret
      refine ⟨D, rfl, ?_, (Below.setCell hB (p := ⟨w.heap.size + 1, 8, none⟩) (by show _ ≤ w.heap.size + 1; omega) _)⟩
      rw [← hD]
      rw [own4, decide_eq_true_iff]
      simp only [Prod.mk.injEq, and_true, true_and]
      exact ⟨fun h => ⟨h.1, h.2, hv.out⟩, fun h => ⟨h.1, h.2.1⟩⟩
  by_cases e5 : k0 = 5
  · subst e5
    have r0 : W.cell? ⟨w.heap.size + 1, 0, none⟩ = some (.int .i64 0) := KR.cell 0
    have r1 : W.cell? ⟨w.heap.size + 1, 1, none⟩ = some (.int .i64 0) := KR.cell 1
    have r2 : W.cell? ⟨w.heap.size + 1, 2, none⟩ = some (.int .i64 0) := KR.cell 2
    have r3 : W.cell? ⟨w.heap.size + 1, 3, none⟩ = some (.int .i64 0) := KR.cell 3
    have r4 : W.cell? ⟨w.heap.size + 1, 4, none⟩ = some (.int .i64 0) := KR.cell 4
    have r5 : W.cell? ⟨w.heap.size + 1, 5, none⟩ = some (.int .i64 k5) := KR.cell 5
    have r6 : W.cell? ⟨w.heap.size + 1, 6, none⟩ = some (.int .i64 k6) := KR.cell 6
    have r7 : W.cell? ⟨w.heap.size + 1, 7, none⟩ = some (.string s7) := KR.cell 7
    have r8 : W.cell? ⟨w.heap.size + 1, 8, none⟩ = some (.string s8) := KR.cell 8
    have q := fun w => opEq (0, (0, 0), (0, 0), (k5, k6), s7, s8) (0, (0, 0), (0, 0), (0, 0), ⟨#[]⟩, ⟨#[]⟩) w
    simp only [opA] at q
    obtain ⟨D, hD⟩ : ∃ D : Bool, decide (((0 : Int), ((0 : Int), (0 : Int)), ((0 : Int), (0 : Int)), (k5, k6), s7, s8) = (0, (0, 0), (0, 0), (0, 0), ⟨#[]⟩, ⟨#[]⟩)) = D := ⟨_, rfl⟩
    rw [hD] at q
    clear KO KR KX 
    go_wp2_with fail
    go_ret
    refine ⟨D, rfl, ?_, hB⟩
    rw [← hD]
    rw [own5, decide_eq_true_iff]
    simp only [Prod.mk.injEq, and_true, true_and]
  · have E : Hid (¬ k0 = 1 ∧ ¬ k0 = 2 ∧ ¬ k0 = 3 ∧ ¬ k0 = 4 ∧ ¬ k0 = 5) := ⟨e1, e2, e3, e4, e5⟩
    clear KO KR KX CN CV CH
    go_wp2_with fail
    go_ret
    refine ⟨false, rfl, ⟨fun h => (by cases h), fun h => ?_⟩, hB⟩
    rcases h with h | h | h | h | h
    · exact absurd h.1 E.out.1
    · exact absurd h.1 E.out.2.1
    · exact absurd h.1 E.out.2.2.1
    · exact absurd h.1 E.out.2.2.2.1
    · exact absurd h.1 E.out.2.2.2.2
end Go.Proofs.YtkmdajenbidaaaaDoor

/- The code's Check, Apply (layer 11). -/
namespace Go.Proofs.YtkmdajenbidaaaaDoor
open Go.RowKit
set_option maxRecDepth 100000
set_option linter.unusedSimpArgs false


set_option maxRecDepth 100000 in
set_option maxHeartbeats 2000000 in
theorem check_any (M : OpT → Bool) (hM : ∀ o, M o = true ↔ MayO o) (o : OpT) (w : World) (hG : Glob8 w) (h7 : o.2.2.2.2.1.size ≤ 1048576) (h8 : o.2.2.2.2.2.size ≤ 9223372036854775807) :
    Calls Tryd.prog 42 #[.agg (opA o)] w fun e w' => e = .returned (.int .i64 (if M o = true then 0 else 1)) ∧ Below w.heap.size w w' := by
  have HM : Hid (M o = true ↔ (MayS o.2.1 ∧ MayS o.2.2.1 ∧ OwnF o)) := hM o
  have CO : Hid (∀ W, Below w.heap.size w W → Calls _ _ _ _ _) := fun W hW => hasItsOwn_any o W (hG.below hW) h7 h8
  obtain ⟨X, hX⟩ : ∃ X : Int, (if M o = true then 0 else 1) = X := ⟨_, rfl⟩
  rw [hX]
  have HX : Hid ((if M o = true then (0 : Int) else 1) = X) := hX
  clear hX hG h7 h8 hM
  obtain ⟨k0, ⟨k1, k2⟩, ⟨k3, k4⟩, ⟨k5, k6⟩, s7, s8⟩ := o
  have CA : Hid (∀ W, _) := isStamp_any (k1, k2)
  have CB : Hid (∀ W, _) := isStamp_any (k3, k4)
  obtain ⟨A, hA⟩ : ∃ A : Bool, decide (MayS (k1, k2)) = A := ⟨_, rfl⟩
  obtain ⟨B, hB⟩ : ∃ B : Bool, decide (MayS (k3, k4)) = B := ⟨_, rfl⟩
  rw [hA] at CA
  rw [hB] at CB
  have HA : Hid (A = true ↔ MayS (k1, k2)) := by show _ ↔ _; rw [← hA]; simp
  have HB : Hid (B = true ↔ MayS (k3, k4)) := by show _ ↔ _; rw [← hB]; simp
  simp only [stampV] at CA CB
  simp only [opA] at CO
  show Calls Tryd.prog _ #[.agg #[.int .i64 k0, .int .i64 k1, .int .i64 k2, .int .i64 k3, .int .i64 k4, .int .i64 k5, .int .i64 k6, .string s7, .string s8]] w _
  clear hA hB
  go_enter Tryd.func42, Tryd.ntmps42
  go_wp2_with fail
  refine (CA.out _).mono ?_
  rintro e W ⟨rfl, hb1⟩
  have KO := (Blk.new w 32 #[.int .i64 k0, .int .i64 k1, .int .i64 k2, .int .i64 k3, .int .i64 k4, .int .i64 k5, .int .i64 k6, .string s7, .string s8]).on hb1
  have hBw := below_step (below_new w _) (Nat.le_refl _) hb1
  clear CA hb1
  have d0 : W.cell? ⟨w.heap.size, 0, none⟩ = some (.int .i64 k0) := KO.cell 0
  have d1 : W.cell? ⟨w.heap.size, 1, none⟩ = some (.int .i64 k1) := KO.cell 1
  have d2 : W.cell? ⟨w.heap.size, 2, none⟩ = some (.int .i64 k2) := KO.cell 2
  have d3 : W.cell? ⟨w.heap.size, 3, none⟩ = some (.int .i64 k3) := KO.cell 3
  have d4 : W.cell? ⟨w.heap.size, 4, none⟩ = some (.int .i64 k4) := KO.cell 4
  have d5 : W.cell? ⟨w.heap.size, 5, none⟩ = some (.int .i64 k5) := KO.cell 5
  have d6 : W.cell? ⟨w.heap.size, 6, none⟩ = some (.int .i64 k6) := KO.cell 6
  have d7 : W.cell? ⟨w.heap.size, 7, none⟩ = some (.string s7) := KO.cell 7
  have d8 : W.cell? ⟨w.heap.size, 8, none⟩ = some (.string s8) := KO.cell 8
  cases A with
  | false =>
    have hx : X = 1 := by
      have h := HX.out
      rw [if_neg (fun h => by have := HA.out.2 (HM.out.1 h).1; cases this)] at h; exact h.symm
    subst hx
    clear KO CB CO HM HX HA HB
    go_wp2_with fail
    go_ret
    exact ⟨rfl, hBw⟩
  | true =>
    clear d1 d2
    go_wp2_with fail
    refine (CB.out _).mono ?_
    rintro e W2 ⟨rfl, hb2⟩
    replace KO := KO.on hb2
    replace hBw := below_step hBw (Nat.le_refl _) hb2
    clear CB hb2 d0 d3 d4 d5 d6 d7 d8
    obtain ⟨W, rfl⟩ : ∃ W, W = W2 := ⟨_, rfl⟩
    have d0 : W.cell? ⟨w.heap.size, 0, none⟩ = some (.int .i64 k0) := KO.cell 0
    have d1 : W.cell? ⟨w.heap.size, 1, none⟩ = some (.int .i64 k1) := KO.cell 1
    have d2 : W.cell? ⟨w.heap.size, 2, none⟩ = some (.int .i64 k2) := KO.cell 2
    have d3 : W.cell? ⟨w.heap.size, 3, none⟩ = some (.int .i64 k3) := KO.cell 3
    have d4 : W.cell? ⟨w.heap.size, 4, none⟩ = some (.int .i64 k4) := KO.cell 4
    have d5 : W.cell? ⟨w.heap.size, 5, none⟩ = some (.int .i64 k5) := KO.cell 5
    have d6 : W.cell? ⟨w.heap.size, 6, none⟩ = some (.int .i64 k6) := KO.cell 6
    have d7 : W.cell? ⟨w.heap.size, 7, none⟩ = some (.string s7) := KO.cell 7
    have d8 : W.cell? ⟨w.heap.size, 8, none⟩ = some (.string s8) := KO.cell 8
    cases B with
    | false =>
      have hx : X = 1 := by
        have h := HX.out
        rw [if_neg (fun h => by have := HB.out.2 (HM.out.1 h).2.1; cases this)] at h; exact h.symm
      subst hx
      clear KO CO HM HX HA HB
      go_wp2_with fail
      go_ret
      exact ⟨rfl, hBw⟩
    | true =>
      clear KO
      go_wp2_with fail
      refine (CO.out _ hBw).mono ?_
      rintro e W3 ⟨b, rfl, hb, hb3⟩
      replace hBw := below_step hBw (Nat.le_refl _) hb3
      have hx : X = if b = true then 0 else 1 := by
        rw [← HX.out]
        have : M (k0, (k1, k2), (k3, k4), (k5, k6), s7, s8) = true ↔ b = true := by rw [HM.out, hb]; exact ⟨fun h => h.2.2, fun h => ⟨HA.out.1 (by first | trivial | rfl), HB.out.1 (by first | trivial | rfl), h⟩⟩
        by_cases h : b = true
        · rw [if_pos h, if_pos (this.2 h)]
        · rw [if_neg h, if_neg (fun k => h (this.1 k))]
      subst hx
      clear CO hb3 hb HM HX HA HB d0 d1 d2 d3 d4 d5 d6 d7 d8
      cases b with
      | false =>
        go_wp2_with fail
        go_ret
        exact ⟨rfl, hBw⟩
      | true =>
        go_wp2_with fail
        go_ret
        exact ⟨rfl, hBw⟩
end Go.Proofs.YtkmdajenbidaaaaDoor
