/- The statements' awake (layer 19). -/
import Derived.Test.YtmjjpfinkpfifaaDoorWiH
import Derived.Test.YtmjjpfinkpfifaaDoorRWiD
import Derived.Test.YtmjjpfinkpfifaaDoorRWiJ
import Derived.Test.YtmjjpfinkpfifaaDoorZer
namespace Go.Proofs.YtmjjpfinkpfifaaDoor
open Go.RowKit
set_option maxRecDepth 100000
set_option linter.unusedSimpArgs false
set_option linter.unusedVariables false

theorem mayM_ex19 : ∃ M : OpT → Bool, ∀ o, M o = true ↔ MayO o :=
  ⟨fun o => @decide (MayO o) (Classical.propDecidable _), fun o => @decide_eq_true_iff (MayO o) (Classical.propDecidable _)⟩

/-- The frame that asks of group 3 has 34 bytes. -/
theorem frm_ex : ∃ S : ByteArray, putFC ((7, 3, 0, 0, 0, ⟨#[]⟩, [], 0) : FrmT) = (S, 0) ∧ S.size = 34 := by
  have h1 : mayCb ((7, 3, 0, 0, 0, ⟨#[]⟩, [], 0) : FrmT) = true := by decide
  have h2 : ∀ p ∈ frPs ((7, 3, 0, 0, 0, ⟨#[]⟩, [], 0) : FrmT), okP p = true := by decide
  have h3 : (encA (frPs ((7, 3, 0, 0, 0, ⟨#[]⟩, [], 0) : FrmT))).size = 34 := by
    rw [frPs_enc]
    simp [encA, ByteArray.size_append, encP_size19, kd, ps]
    rfl
  exact ⟨_, putB_fit _ _ h1 h2 (by omega), h3⟩

theorem rec_ex (M : OpT → Bool) (hM : ∀ o, M o = true ↔ MayO o) (Z : ByteArray) (hZ : Z.size = 32) : mayRb M (4, 1, 2, 0, Z, op0, 0, []) = true ∧ ∃ S : ByteArray, putRC M (4, 1, 2, 0, Z, op0, 0, []) = (S, 0) ∧ S.size = 52 := by
  have h1 : mayRb M (4, 1, 2, 0, Z, op0, 0, []) = true := by
    unfold mayRb ownRb
    simp [hZ, mayWb]
  obtain ⟨h2, h3⟩ := mayR_put M hM (4, 1, 2, 0, Z, op0, 0, []) h1
  refine ⟨h1, _, h2, ?_⟩
  rw [h3]
  simp only
  rw [put_op0 M hM]
  rfl

set_option maxHeartbeats 8000000 in
set_option maxRecDepth 100000 in
theorem awake19 (w : World) (hG : Glob8 w) : Calls Tryd.prog 10 #[] w fun e w' => e = .returned (.bool true) ∧ Below w.heap.size w w' := by
  obtain ⟨M, hM⟩ := mayM_ex19
  obtain ⟨S0, hS0, hz0⟩ := frm_ex
  have ht0 := takeFC_put _ _ hS0
  obtain ⟨Z, hZ⟩ : ∃ Z, zeroB 32 = Z := ⟨_, rfl⟩
  have hZ32 : Z.size = 32 := by rw [← hZ, zeroB_size]
  obtain ⟨hm1, S1, hS1, hz1⟩ := rec_ex M hM Z hZ32
  have ht1 := (takeR_put M hM _ _ hS1).1
  have CP : Hid (∀ W, Calls Tryd.prog 19 #[.agg #[.int .i64 7, .int .i64 3, .int .i64 0, .int .i64 0, .int .i64 0, .string ⟨#[]⟩, .slice none 0 0, .int .i64 0]] W fun e w' => e = .returned (.tuple #[.string S0, .int .i64 0]) ∧ Below W.heap.size W w') := fun W => by
    have h := putF_any (7, 3, 0, 0, 0, ⟨#[]⟩, [], 0) none 0 W (by decide) ⟨rfl, .inl rfl⟩ (fun i => by show (⟨#[]⟩ : ByteArray).size ≤ _; decide) (by decide)
    rw [hS0] at h
    exact h
  have CT : Hid (∀ W, Calls Tryd.prog 21 #[.string S0] W fun e w' => ∃ a c, e = .returned (.tuple #[.agg #[.int .i64 7, .int .i64 3, .int .i64 0, .int .i64 0, .int .i64 0, .string ⟨#[]⟩, .slice a 0 c, .int .i64 0], .int .i64 0]) ∧ Below W.heap.size W w') := fun W => by
    have h := takeF_any S0 W (by omega)
    rw [ht0] at h
    refine h.mono ?_
    rintro e w' ⟨a, c, h1, h2, h3, h4, h5⟩
    exact ⟨a, c, h1, h5⟩
  have CS : Hid (∀ a c W, Calls Tryd.prog 22 #[.agg #[.int .i64 7, .int .i64 3, .int .i64 0, .int .i64 0, .int .i64 0, .string ⟨#[]⟩, .slice none 0 0, .int .i64 0], .agg #[.int .i64 7, .int .i64 3, .int .i64 0, .int .i64 0, .int .i64 0, .string ⟨#[]⟩, .slice a 0 c, .int .i64 0]] W fun e w' => e = .returned (.bool true) ∧ Below W.heap.size W w') := fun a c W =>
    rsame19_any (7, 3, 0, 0, 0, ⟨#[]⟩, [], 0) (7, 3, 0, 0, 0, ⟨#[]⟩, [], 0) true ⟨fun _ => rfl, fun _ => rfl⟩ none a 0 c W (by decide) (Nat.zero_le _) (Nat.zero_le _) ⟨rfl, .inl rfl⟩ ⟨rfl, .inl rfl⟩
  have CPR : Hid (∀ W, Below w.heap.size w W → Calls Tryd.prog 11 #[.agg #[.int .i64 4, .int .i64 1, .int .i64 2, .int .i64 0, .string Z, .int .i64 0, .int .i64 0, .int .i64 0, .int .i64 0, .int .i64 0, .int .i64 0, .int .i64 0, .string ⟨#[]⟩, .string ⟨#[]⟩, .int .i64 0, .slice none 0 0]] W fun e w' => e = .returned (.tuple #[.string S1, .int .i64 0]) ∧ Below W.heap.size W w') := fun W hW => by
    have h := putR_any M hM (4, 1, 2, 0, Z, op0, 0, []) none 0 W (hG.below hW) (Nat.zero_le _) (Nat.zero_le _) ⟨rfl, .inl rfl⟩ (fun i => by show (⟨#[]⟩ : ByteArray).size ≤ _; decide) (Nat.zero_le _) (by show Z.size ≤ _; omega)
    rw [hS1] at h
    exact h
  have CTR : Hid (∀ W, Below w.heap.size w W → Calls Tryd.prog 15 #[.string S1] W fun e w' => ∃ a c, e = .returned (.tuple #[.agg #[.int .i64 4, .int .i64 1, .int .i64 2, .int .i64 0, .string Z, .int .i64 0, .int .i64 0, .int .i64 0, .int .i64 0, .int .i64 0, .int .i64 0, .int .i64 0, .string ⟨#[]⟩, .string ⟨#[]⟩, .int .i64 0, .slice a 0 c], .int .i64 0]) ∧ Below W.heap.size W w') := fun W hW => by
    have h := takeR_any M hM S1 W (hG.below hW) (by omega)
    rw [ht1] at h
    refine h.mono ?_
    rintro e w' ⟨a, c, h1, h2, h3, h4, h5⟩
    exact ⟨a, c, h1, h5⟩
  have CSR : Hid (∀ a c W, Calls Tryd.prog 16 #[.agg #[.int .i64 4, .int .i64 1, .int .i64 2, .int .i64 0, .string Z, .int .i64 0, .int .i64 0, .int .i64 0, .int .i64 0, .int .i64 0, .int .i64 0, .int .i64 0, .string ⟨#[]⟩, .string ⟨#[]⟩, .int .i64 0, .slice a 0 c], .agg #[.int .i64 4, .int .i64 1, .int .i64 2, .int .i64 0, .string Z, .int .i64 0, .int .i64 0, .int .i64 0, .int .i64 0, .int .i64 0, .int .i64 0, .int .i64 0, .string ⟨#[]⟩, .string ⟨#[]⟩, .int .i64 0, .slice none 0 0]] W fun e w' => e = .returned (.bool true) ∧ Below W.heap.size W w') := fun a c W =>
    rsameR_any (4, 1, 2, 0, Z, op0, 0, []) (4, 1, 2, 0, Z, op0, 0, []) true ⟨fun _ => rfl, fun _ => rfl⟩ a none c 0 W (Nat.zero_le _) (Nat.zero_le _) (Nat.zero_le _) ⟨rfl, .inl rfl⟩ ⟨rfl, .inl rfl⟩
  have CCR : Hid (∀ W, Below w.heap.size w W → Calls Tryd.prog 13 #[.agg #[.int .i64 4, .int .i64 1, .int .i64 2, .int .i64 0, .string Z, .int .i64 0, .int .i64 0, .int .i64 0, .int .i64 0, .int .i64 0, .int .i64 0, .int .i64 0, .string ⟨#[]⟩, .string ⟨#[]⟩, .int .i64 0, .slice none 0 0]] W fun e w' => e = .returned (.int .i64 0) ∧ Below W.heap.size W w') := fun W hW => by
    have h := checkR_any M hM (4, 1, 2, 0, Z, op0, 0, []) none 0 W (hG.below hW) (Nat.zero_le _) (Nat.zero_le _) ⟨rfl, .inl rfl⟩ (fun i => by show (⟨#[]⟩ : ByteArray).size ≤ _; decide) (Nat.zero_le _) (by show Z.size ≤ _; omega)
    rw [if_pos hm1] at h
    exact h
  have m1 := fun w => make_zeros 32 32 rfl (by decide) w
  have v1 : ∀ w : World, (convert 54 9 (.slice (some ⟨w.heap.size, 0, none⟩) 32 32)).run Tryd.prog (w.alloc (.cells (zcells 32) 5)) = .ok (.string Z) (w.alloc (.cells (zcells 32) 5)) := fun w => by rw [← hZ]; exact conv_zeros (row_zeros 32 w)
  have hs : (S0.size : Int) = 34 := by omega
  clear hS0 hz0 ht0 hZ hZ32 hm1 hS1 hz1 ht1 hM hG
  have X1 : Blk (w.alloc (.cells #[.int .i64 0, .int .i64 0, .int .i64 0, .int .i64 0, .int .i64 0, .string ⟨#[]⟩, .slice none 0 0, .int .i64 0] 41)) 41 w.heap.size #[.int .i64 0, .int .i64 0, .int .i64 0, .int .i64 0, .int .i64 0, .string ⟨#[]⟩, .slice none 0 0, .int .i64 0] := Blk.new _ _ _
  have HF1 : Hid (Blk ((w.alloc (.cells #[.int .i64 0, .int .i64 0, .int .i64 0, .int .i64 0, .int .i64 0, .string ⟨#[]⟩, .slice none 0 0, .int .i64 0] 41)).setRow w.heap.size #[.int .i64 7, .int .i64 3, .int .i64 0, .int .i64 0, .int .i64 0, .string ⟨#[]⟩, .slice none 0 0, .int .i64 0]) 41 w.heap.size #[.int .i64 7, .int .i64 3, .int .i64 0, .int .i64 0, .int .i64 0, .string ⟨#[]⟩, .slice none 0 0, .int .i64 0]) := X1.setRow _
  have HB1 : Hid (Below w.heap.size w ((w.alloc (.cells #[.int .i64 0, .int .i64 0, .int .i64 0, .int .i64 0, .int .i64 0, .string ⟨#[]⟩, .slice none 0 0, .int .i64 0] 41)).setRow w.heap.size #[.int .i64 7, .int .i64 3, .int .i64 0, .int .i64 0, .int .i64 0, .string ⟨#[]⟩, .slice none 0 0, .int .i64 0])) := below_setRow (below_new _ _) (Nat.le_refl _) _
  obtain ⟨w1, hw1⟩ : ∃ w1, (w.alloc (.cells #[.int .i64 0, .int .i64 0, .int .i64 0, .int .i64 0, .int .i64 0, .string ⟨#[]⟩, .slice none 0 0, .int .i64 0] 41)).setRow w.heap.size #[.int .i64 7, .int .i64 3, .int .i64 0, .int .i64 0, .int .i64 0, .string ⟨#[]⟩, .slice none 0 0, .int .i64 0] = w1 := ⟨_, rfl⟩
  rw [hw1] at HF1 HB1
  have d0 : w1.cell? ⟨w.heap.size, 0, none⟩ = some (.int .i64 7) := HF1.out.cell 0
  have d1 : w1.cell? ⟨w.heap.size, 1, none⟩ = some (.int .i64 3) := HF1.out.cell 1
  have d2 : w1.cell? ⟨w.heap.size, 2, none⟩ = some (.int .i64 0) := HF1.out.cell 2
  have d3 : w1.cell? ⟨w.heap.size, 3, none⟩ = some (.int .i64 0) := HF1.out.cell 3
  have d4 : w1.cell? ⟨w.heap.size, 4, none⟩ = some (.int .i64 0) := HF1.out.cell 4
  have d5 : w1.cell? ⟨w.heap.size, 5, none⟩ = some (.string ⟨#[]⟩) := HF1.out.cell 5
  have d6 : w1.cell? ⟨w.heap.size, 6, none⟩ = some (.slice none 0 0) := HF1.out.cell 6
  have d7 : w1.cell? ⟨w.heap.size, 7, none⟩ = some (.int .i64 0) := HF1.out.cell 7
  go_enter Tryd.func10, Tryd.ntmps10
  go_wp2_with (with_reducible refine wpList_storeBlk rfl 41 _ _ rfl w.heap.size #[.int .i64 0, .int .i64 0, .int .i64 0, .int .i64 0, .int .i64 0, .string ⟨#[]⟩, .slice none 0 0, .int .i64 0] #[.int .i64 7, .int .i64 3, .int .i64 0, .int .i64 0, .int .i64 0, .string ⟨#[]⟩, .slice none 0 0, .int .i64 0] ?hx ?hy X1 rfl ?hi ?h1 ?_)
  try (case hx => rfl)
  try (case hy => rfl)
  try (case hi => kernel_rfl)
  try (case h1 => simp [Value.oneCell'])
  try rw [hw1]
  obtain ⟨hf, hhf⟩ : ∃ h, w.heap.size = h := ⟨_, rfl⟩
  have HF1' : Hid (Blk w1 41 hf #[.int .i64 7, .int .i64 3, .int .i64 0, .int .i64 0, .int .i64 0, .string ⟨#[]⟩, .slice none 0 0, .int .i64 0]) := by show Blk _ _ _ _; rw [← hhf]; exact HF1.out
  try rw [hhf]
  clear hw1 HF1 X1 d0 d1 d2 d3 d4 d5 d6 d7
  have HL : Hid (w.heap.size = hf) := hhf
  clear hhf
  refine (CP.out w1).mono ?_
  rintro e w2 ⟨rfl, hb⟩
  have HB2 : Hid (Below w.heap.size w w2) := below_step HB1.out (Nat.le_refl _) hb
  have HF2 : Hid (Blk w2 41 hf #[.int .i64 7, .int .i64 3, .int .i64 0, .int .i64 0, .int .i64 0, .string ⟨#[]⟩, .slice none 0 0, .int .i64 0]) := HF1'.out.on hb
  clear hb HB1 HF1' CP
  go_wp2_with fail
  refine (CT.out w2).mono ?_
  rintro e w3 ⟨a1, c1, rfl, hb⟩
  have HB3 : Hid (Below w.heap.size w w3) := below_step HB2.out (Nat.le_refl _) hb
  have HF3 : Hid (Blk w3 41 hf #[.int .i64 7, .int .i64 3, .int .i64 0, .int .i64 0, .int .i64 0, .string ⟨#[]⟩, .slice none 0 0, .int .i64 0]) := HF2.out.on hb
  clear hb HB2 HF2 CT
  have X2 : Blk (w3.alloc (.cells #[.int .i64 0, .int .i64 0, .int .i64 0, .int .i64 0, .int .i64 0, .string ⟨#[]⟩, .slice none 0 0, .int .i64 0] 41)) 41 w3.heap.size #[.int .i64 0, .int .i64 0, .int .i64 0, .int .i64 0, .int .i64 0, .string ⟨#[]⟩, .slice none 0 0, .int .i64 0] := Blk.new _ _ _
  have HG4 : Hid (Blk ((w3.alloc (.cells #[.int .i64 0, .int .i64 0, .int .i64 0, .int .i64 0, .int .i64 0, .string ⟨#[]⟩, .slice none 0 0, .int .i64 0] 41)).setRow w3.heap.size #[.int .i64 7, .int .i64 3, .int .i64 0, .int .i64 0, .int .i64 0, .string ⟨#[]⟩, .slice a1 0 c1, .int .i64 0]) 41 w3.heap.size #[.int .i64 7, .int .i64 3, .int .i64 0, .int .i64 0, .int .i64 0, .string ⟨#[]⟩, .slice a1 0 c1, .int .i64 0]) := X2.setRow _
  have hb4 : Below w3.heap.size w3 ((w3.alloc (.cells #[.int .i64 0, .int .i64 0, .int .i64 0, .int .i64 0, .int .i64 0, .string ⟨#[]⟩, .slice none 0 0, .int .i64 0] 41)).setRow w3.heap.size #[.int .i64 7, .int .i64 3, .int .i64 0, .int .i64 0, .int .i64 0, .string ⟨#[]⟩, .slice a1 0 c1, .int .i64 0]) := below_setRow (below_new _ _) (Nat.le_refl _) _
  obtain ⟨w4, hw4⟩ : ∃ w4, (w3.alloc (.cells #[.int .i64 0, .int .i64 0, .int .i64 0, .int .i64 0, .int .i64 0, .string ⟨#[]⟩, .slice none 0 0, .int .i64 0] 41)).setRow w3.heap.size #[.int .i64 7, .int .i64 3, .int .i64 0, .int .i64 0, .int .i64 0, .string ⟨#[]⟩, .slice a1 0 c1, .int .i64 0] = w4 := ⟨_, rfl⟩
  rw [hw4] at HG4 hb4
  have HB4 : Hid (Below w.heap.size w w4) := below_step HB3.out (Nat.le_refl _) hb4
  have HF4 : Hid (Blk w4 41 hf #[.int .i64 7, .int .i64 3, .int .i64 0, .int .i64 0, .int .i64 0, .string ⟨#[]⟩, .slice none 0 0, .int .i64 0]) := HF3.out.on hb4
  have X3 : Blk ((w4.alloc (.cells (zcells 32) 5)).alloc (.cells #[.int .i64 0, .int .i64 0, .int .i64 0, .int .i64 0, .string ⟨#[]⟩, .int .i64 0, .int .i64 0, .int .i64 0, .int .i64 0, .int .i64 0, .int .i64 0, .int .i64 0, .string ⟨#[]⟩, .string ⟨#[]⟩, .int .i64 0, .slice none 0 0] 28)) 28 (w4.heap.size + 1) #[.int .i64 0, .int .i64 0, .int .i64 0, .int .i64 0, .string ⟨#[]⟩, .int .i64 0, .int .i64 0, .int .i64 0, .int .i64 0, .int .i64 0, .int .i64 0, .int .i64 0, .string ⟨#[]⟩, .string ⟨#[]⟩, .int .i64 0, .slice none 0 0] := Blk.new' _ _ _ _ (by rw [World.size_alloc])
  have HR5 : Hid (Blk (((w4.alloc (.cells (zcells 32) 5)).alloc (.cells #[.int .i64 0, .int .i64 0, .int .i64 0, .int .i64 0, .string ⟨#[]⟩, .int .i64 0, .int .i64 0, .int .i64 0, .int .i64 0, .int .i64 0, .int .i64 0, .int .i64 0, .string ⟨#[]⟩, .string ⟨#[]⟩, .int .i64 0, .slice none 0 0] 28)).setRow (w4.heap.size + 1) #[.int .i64 4, .int .i64 1, .int .i64 2, .int .i64 0, .string Z, .int .i64 0, .int .i64 0, .int .i64 0, .int .i64 0, .int .i64 0, .int .i64 0, .int .i64 0, .string ⟨#[]⟩, .string ⟨#[]⟩, .int .i64 0, .slice none 0 0]) 28 (w4.heap.size + 1) #[.int .i64 4, .int .i64 1, .int .i64 2, .int .i64 0, .string Z, .int .i64 0, .int .i64 0, .int .i64 0, .int .i64 0, .int .i64 0, .int .i64 0, .int .i64 0, .string ⟨#[]⟩, .string ⟨#[]⟩, .int .i64 0, .slice none 0 0]) := X3.setRow _
  have hb5 : Below w4.heap.size w4 (((w4.alloc (.cells (zcells 32) 5)).alloc (.cells #[.int .i64 0, .int .i64 0, .int .i64 0, .int .i64 0, .string ⟨#[]⟩, .int .i64 0, .int .i64 0, .int .i64 0, .int .i64 0, .int .i64 0, .int .i64 0, .int .i64 0, .string ⟨#[]⟩, .string ⟨#[]⟩, .int .i64 0, .slice none 0 0] 28)).setRow (w4.heap.size + 1) #[.int .i64 4, .int .i64 1, .int .i64 2, .int .i64 0, .string Z, .int .i64 0, .int .i64 0, .int .i64 0, .int .i64 0, .int .i64 0, .int .i64 0, .int .i64 0, .string ⟨#[]⟩, .string ⟨#[]⟩, .int .i64 0, .slice none 0 0]) := below_setRow ((below_new w4 _).alloc (by rw [World.size_alloc]; omega) _) (by omega) _
  obtain ⟨w5, hw5⟩ : ∃ w5, ((w4.alloc (.cells (zcells 32) 5)).alloc (.cells #[.int .i64 0, .int .i64 0, .int .i64 0, .int .i64 0, .string ⟨#[]⟩, .int .i64 0, .int .i64 0, .int .i64 0, .int .i64 0, .int .i64 0, .int .i64 0, .int .i64 0, .string ⟨#[]⟩, .string ⟨#[]⟩, .int .i64 0, .slice none 0 0] 28)).setRow (w4.heap.size + 1) #[.int .i64 4, .int .i64 1, .int .i64 2, .int .i64 0, .string Z, .int .i64 0, .int .i64 0, .int .i64 0, .int .i64 0, .int .i64 0, .int .i64 0, .int .i64 0, .string ⟨#[]⟩, .string ⟨#[]⟩, .int .i64 0, .slice none 0 0] = w5 := ⟨_, rfl⟩
  rw [hw5] at HR5 hb5
  have HB5 : Hid (Below w.heap.size w w5) := below_step HB4.out (Nat.le_refl _) hb5
  have HF5 : Hid (Blk w5 41 hf #[.int .i64 7, .int .i64 3, .int .i64 0, .int .i64 0, .int .i64 0, .string ⟨#[]⟩, .slice none 0 0, .int .i64 0]) := HF4.out.on hb5
  have HG5 : Hid (Blk w5 41 w3.heap.size #[.int .i64 7, .int .i64 3, .int .i64 0, .int .i64 0, .int .i64 0, .string ⟨#[]⟩, .slice a1 0 c1, .int .i64 0]) := HG4.out.on hb5
  clear hb4 hb5 HB3 HF3 HB4 HF4 HG4
  have d0 : w5.cell? ⟨w4.heap.size + 1, 0, none⟩ = some (.int .i64 4) := HR5.out.cell 0
  have d1 : w5.cell? ⟨w4.heap.size + 1, 1, none⟩ = some (.int .i64 1) := HR5.out.cell 1
  have d2 : w5.cell? ⟨w4.heap.size + 1, 2, none⟩ = some (.int .i64 2) := HR5.out.cell 2
  have d3 : w5.cell? ⟨w4.heap.size + 1, 3, none⟩ = some (.int .i64 0) := HR5.out.cell 3
  have d4 : w5.cell? ⟨w4.heap.size + 1, 4, none⟩ = some (.string Z) := HR5.out.cell 4
  have d5 : w5.cell? ⟨w4.heap.size + 1, 5, none⟩ = some (.int .i64 0) := HR5.out.cell 5
  have d6 : w5.cell? ⟨w4.heap.size + 1, 6, none⟩ = some (.int .i64 0) := HR5.out.cell 6
  have d7 : w5.cell? ⟨w4.heap.size + 1, 7, none⟩ = some (.int .i64 0) := HR5.out.cell 7
  have d8 : w5.cell? ⟨w4.heap.size + 1, 8, none⟩ = some (.int .i64 0) := HR5.out.cell 8
  have d9 : w5.cell? ⟨w4.heap.size + 1, 9, none⟩ = some (.int .i64 0) := HR5.out.cell 9
  have d10 : w5.cell? ⟨w4.heap.size + 1, 10, none⟩ = some (.int .i64 0) := HR5.out.cell 10
  have d11 : w5.cell? ⟨w4.heap.size + 1, 11, none⟩ = some (.int .i64 0) := HR5.out.cell 11
  have d12 : w5.cell? ⟨w4.heap.size + 1, 12, none⟩ = some (.string ⟨#[]⟩) := HR5.out.cell 12
  have d13 : w5.cell? ⟨w4.heap.size + 1, 13, none⟩ = some (.string ⟨#[]⟩) := HR5.out.cell 13
  have d14 : w5.cell? ⟨w4.heap.size + 1, 14, none⟩ = some (.int .i64 0) := HR5.out.cell 14
  have d15 : w5.cell? ⟨w4.heap.size + 1, 15, none⟩ = some (.slice none 0 0) := HR5.out.cell 15
  go_wp2_with (first
    | (with_reducible refine wpList_storeBlk rfl 41 _ _ rfl w3.heap.size #[.int .i64 0, .int .i64 0, .int .i64 0, .int .i64 0, .int .i64 0, .string ⟨#[]⟩, .slice none 0 0, .int .i64 0] #[.int .i64 7, .int .i64 3, .int .i64 0, .int .i64 0, .int .i64 0, .string ⟨#[]⟩, .slice a1 0 c1, .int .i64 0] ?hx ?hy X2 rfl ?hi ?h1 ?_)
    | (with_reducible refine wpList_storeBlk rfl 28 _ _ rfl (w4.heap.size + 1) #[.int .i64 0, .int .i64 0, .int .i64 0, .int .i64 0, .string ⟨#[]⟩, .int .i64 0, .int .i64 0, .int .i64 0, .int .i64 0, .int .i64 0, .int .i64 0, .int .i64 0, .string ⟨#[]⟩, .string ⟨#[]⟩, .int .i64 0, .slice none 0 0] #[.int .i64 4, .int .i64 1, .int .i64 2, .int .i64 0, .string Z, .int .i64 0, .int .i64 0, .int .i64 0, .int .i64 0, .int .i64 0, .int .i64 0, .int .i64 0, .string ⟨#[]⟩, .string ⟨#[]⟩, .int .i64 0, .slice none 0 0] ?hx2 ?hy2 X3 rfl ?hi2 ?h12 ?_))
  try (case hx => rfl)
  try (case hy => rfl)
  try (case hi => kernel_rfl)
  try (case h1 => simp [Value.oneCell'])
  try (case hx2 => rfl)
  try (case hy2 => rfl)
  try (case hi2 => kernel_rfl)
  try (case h12 => simp [Value.oneCell'])
  try rw [hw5]
  obtain ⟨hg, hhg⟩ : ∃ h, w3.heap.size = h := ⟨_, rfl⟩
  obtain ⟨hr, hhr⟩ : ∃ h, w4.heap.size + 1 = h := ⟨_, rfl⟩
  rw [hhg] at HG5
  rw [hhr] at HR5
  try rw [hhg]
  try rw [hhr]
  clear hw5 hw4 X2 X3 hhg hhr d0 d1 d2 d3 d4 d5 d6 d7 d8 d9 d10 d11 d12 d13 d14 d15
  refine (CPR.out w5 HB5.out).mono ?_
  rintro e w6 ⟨rfl, hb⟩
  have HB6 : Hid (Below w.heap.size w w6) := below_step HB5.out (Nat.le_refl _) hb
  have HF6 : Hid (Blk w6 41 hf #[.int .i64 7, .int .i64 3, .int .i64 0, .int .i64 0, .int .i64 0, .string ⟨#[]⟩, .slice none 0 0, .int .i64 0]) := HF5.out.on hb
  have HG6 : Hid (Blk w6 41 hg #[.int .i64 7, .int .i64 3, .int .i64 0, .int .i64 0, .int .i64 0, .string ⟨#[]⟩, .slice a1 0 c1, .int .i64 0]) := HG5.out.on hb
  have HR6 : Hid (Blk w6 28 hr #[.int .i64 4, .int .i64 1, .int .i64 2, .int .i64 0, .string Z, .int .i64 0, .int .i64 0, .int .i64 0, .int .i64 0, .int .i64 0, .int .i64 0, .int .i64 0, .string ⟨#[]⟩, .string ⟨#[]⟩, .int .i64 0, .slice none 0 0]) := HR5.out.on hb
  clear hb HB5 HF5 HG5 HR5 CPR
  go_wp2_with fail
  refine (CTR.out w6 HB6.out).mono ?_
  rintro e w7 ⟨a2, c2, rfl, hb⟩
  have HB7 : Hid (Below w.heap.size w w7) := below_step HB6.out (Nat.le_refl _) hb
  have HF7 : Hid (Blk w7 41 hf #[.int .i64 7, .int .i64 3, .int .i64 0, .int .i64 0, .int .i64 0, .string ⟨#[]⟩, .slice none 0 0, .int .i64 0]) := HF6.out.on hb
  have HG7 : Hid (Blk w7 41 hg #[.int .i64 7, .int .i64 3, .int .i64 0, .int .i64 0, .int .i64 0, .string ⟨#[]⟩, .slice a1 0 c1, .int .i64 0]) := HG6.out.on hb
  have HR7 : Hid (Blk w7 28 hr #[.int .i64 4, .int .i64 1, .int .i64 2, .int .i64 0, .string Z, .int .i64 0, .int .i64 0, .int .i64 0, .int .i64 0, .int .i64 0, .int .i64 0, .int .i64 0, .string ⟨#[]⟩, .string ⟨#[]⟩, .int .i64 0, .slice none 0 0]) := HR6.out.on hb
  clear hb HB6 HF6 HG6 HR6 CTR
  have X4 : Blk (w7.alloc (.cells #[.int .i64 0, .int .i64 0, .int .i64 0, .int .i64 0, .string ⟨#[]⟩, .int .i64 0, .int .i64 0, .int .i64 0, .int .i64 0, .int .i64 0, .int .i64 0, .int .i64 0, .string ⟨#[]⟩, .string ⟨#[]⟩, .int .i64 0, .slice none 0 0] 28)) 28 w7.heap.size #[.int .i64 0, .int .i64 0, .int .i64 0, .int .i64 0, .string ⟨#[]⟩, .int .i64 0, .int .i64 0, .int .i64 0, .int .i64 0, .int .i64 0, .int .i64 0, .int .i64 0, .string ⟨#[]⟩, .string ⟨#[]⟩, .int .i64 0, .slice none 0 0] := Blk.new _ _ _
  have HQ8 : Hid (Blk ((w7.alloc (.cells #[.int .i64 0, .int .i64 0, .int .i64 0, .int .i64 0, .string ⟨#[]⟩, .int .i64 0, .int .i64 0, .int .i64 0, .int .i64 0, .int .i64 0, .int .i64 0, .int .i64 0, .string ⟨#[]⟩, .string ⟨#[]⟩, .int .i64 0, .slice none 0 0] 28)).setRow w7.heap.size #[.int .i64 4, .int .i64 1, .int .i64 2, .int .i64 0, .string Z, .int .i64 0, .int .i64 0, .int .i64 0, .int .i64 0, .int .i64 0, .int .i64 0, .int .i64 0, .string ⟨#[]⟩, .string ⟨#[]⟩, .int .i64 0, .slice a2 0 c2]) 28 w7.heap.size #[.int .i64 4, .int .i64 1, .int .i64 2, .int .i64 0, .string Z, .int .i64 0, .int .i64 0, .int .i64 0, .int .i64 0, .int .i64 0, .int .i64 0, .int .i64 0, .string ⟨#[]⟩, .string ⟨#[]⟩, .int .i64 0, .slice a2 0 c2]) := X4.setRow _
  have hb8 : Below w7.heap.size w7 ((w7.alloc (.cells #[.int .i64 0, .int .i64 0, .int .i64 0, .int .i64 0, .string ⟨#[]⟩, .int .i64 0, .int .i64 0, .int .i64 0, .int .i64 0, .int .i64 0, .int .i64 0, .int .i64 0, .string ⟨#[]⟩, .string ⟨#[]⟩, .int .i64 0, .slice none 0 0] 28)).setRow w7.heap.size #[.int .i64 4, .int .i64 1, .int .i64 2, .int .i64 0, .string Z, .int .i64 0, .int .i64 0, .int .i64 0, .int .i64 0, .int .i64 0, .int .i64 0, .int .i64 0, .string ⟨#[]⟩, .string ⟨#[]⟩, .int .i64 0, .slice a2 0 c2]) := below_setRow (below_new _ _) (Nat.le_refl _) _
  obtain ⟨w8, hw8⟩ : ∃ w8, (w7.alloc (.cells #[.int .i64 0, .int .i64 0, .int .i64 0, .int .i64 0, .string ⟨#[]⟩, .int .i64 0, .int .i64 0, .int .i64 0, .int .i64 0, .int .i64 0, .int .i64 0, .int .i64 0, .string ⟨#[]⟩, .string ⟨#[]⟩, .int .i64 0, .slice none 0 0] 28)).setRow w7.heap.size #[.int .i64 4, .int .i64 1, .int .i64 2, .int .i64 0, .string Z, .int .i64 0, .int .i64 0, .int .i64 0, .int .i64 0, .int .i64 0, .int .i64 0, .int .i64 0, .string ⟨#[]⟩, .string ⟨#[]⟩, .int .i64 0, .slice a2 0 c2] = w8 := ⟨_, rfl⟩
  rw [hw8] at HQ8 hb8
  have HB8 : Hid (Below w.heap.size w w8) := below_step HB7.out (Nat.le_refl _) hb8
  have hF8 : Blk w8 41 hf #[.int .i64 7, .int .i64 3, .int .i64 0, .int .i64 0, .int .i64 0, .string ⟨#[]⟩, .slice none 0 0, .int .i64 0] := HF7.out.on hb8
  have hG8 : Blk w8 41 hg #[.int .i64 7, .int .i64 3, .int .i64 0, .int .i64 0, .int .i64 0, .string ⟨#[]⟩, .slice a1 0 c1, .int .i64 0] := HG7.out.on hb8
  have HR8 : Hid (Blk w8 28 hr #[.int .i64 4, .int .i64 1, .int .i64 2, .int .i64 0, .string Z, .int .i64 0, .int .i64 0, .int .i64 0, .int .i64 0, .int .i64 0, .int .i64 0, .int .i64 0, .string ⟨#[]⟩, .string ⟨#[]⟩, .int .i64 0, .slice none 0 0]) := HR7.out.on hb8
  have d0 : w8.cell? ⟨hf, 0, none⟩ = some (.int .i64 7) := hF8.cell 0
  have d1 : w8.cell? ⟨hf, 1, none⟩ = some (.int .i64 3) := hF8.cell 1
  have d2 : w8.cell? ⟨hf, 2, none⟩ = some (.int .i64 0) := hF8.cell 2
  have d3 : w8.cell? ⟨hf, 3, none⟩ = some (.int .i64 0) := hF8.cell 3
  have d4 : w8.cell? ⟨hf, 4, none⟩ = some (.int .i64 0) := hF8.cell 4
  have d5 : w8.cell? ⟨hf, 5, none⟩ = some (.string ⟨#[]⟩) := hF8.cell 5
  have d6 : w8.cell? ⟨hf, 6, none⟩ = some (.slice none 0 0) := hF8.cell 6
  have d7 : w8.cell? ⟨hf, 7, none⟩ = some (.int .i64 0) := hF8.cell 7
  have e0 : w8.cell? ⟨hg, 0, none⟩ = some (.int .i64 7) := hG8.cell 0
  have e1 : w8.cell? ⟨hg, 1, none⟩ = some (.int .i64 3) := hG8.cell 1
  have e2 : w8.cell? ⟨hg, 2, none⟩ = some (.int .i64 0) := hG8.cell 2
  have e3 : w8.cell? ⟨hg, 3, none⟩ = some (.int .i64 0) := hG8.cell 3
  have e4 : w8.cell? ⟨hg, 4, none⟩ = some (.int .i64 0) := hG8.cell 4
  have e5 : w8.cell? ⟨hg, 5, none⟩ = some (.string ⟨#[]⟩) := hG8.cell 5
  have e6 : w8.cell? ⟨hg, 6, none⟩ = some (.slice a1 0 c1) := hG8.cell 6
  have e7 : w8.cell? ⟨hg, 7, none⟩ = some (.int .i64 0) := hG8.cell 7
  clear hb8 HB7 HF7 HG7 HR7 hF8 hG8
  go_wp2_with (with_reducible refine wpList_storeBlk rfl 28 _ _ rfl w7.heap.size #[.int .i64 0, .int .i64 0, .int .i64 0, .int .i64 0, .string ⟨#[]⟩, .int .i64 0, .int .i64 0, .int .i64 0, .int .i64 0, .int .i64 0, .int .i64 0, .int .i64 0, .string ⟨#[]⟩, .string ⟨#[]⟩, .int .i64 0, .slice none 0 0] #[.int .i64 4, .int .i64 1, .int .i64 2, .int .i64 0, .string Z, .int .i64 0, .int .i64 0, .int .i64 0, .int .i64 0, .int .i64 0, .int .i64 0, .int .i64 0, .string ⟨#[]⟩, .string ⟨#[]⟩, .int .i64 0, .slice a2 0 c2] ?hx ?hy X4 rfl ?hi ?h1 ?_)
  try (case hx => rfl)
  try (case hy => rfl)
  try (case hi => kernel_rfl)
  try (case h1 => simp [Value.oneCell'])
  try rw [hw8]
  obtain ⟨hq, hhq⟩ : ∃ h, w7.heap.size = h := ⟨_, rfl⟩
  rw [hhq] at HQ8
  try rw [hhq]
  clear hw8 X4 hhq d0 e0 d1 e1 d2 e2 d3 e3 d4 e4 d5 e5 d6 e6 d7 e7
  refine (CS.out a1 c1 w8).mono ?_
  rintro e w9 ⟨rfl, hb⟩
  have HB9 : Hid (Below w.heap.size w w9) := below_step HB8.out (Nat.le_refl _) hb
  have HR9 : Hid (Blk w9 28 hr #[.int .i64 4, .int .i64 1, .int .i64 2, .int .i64 0, .string Z, .int .i64 0, .int .i64 0, .int .i64 0, .int .i64 0, .int .i64 0, .int .i64 0, .int .i64 0, .string ⟨#[]⟩, .string ⟨#[]⟩, .int .i64 0, .slice none 0 0]) := HR8.out.on hb
  have hQ9 : Blk w9 28 hq #[.int .i64 4, .int .i64 1, .int .i64 2, .int .i64 0, .string Z, .int .i64 0, .int .i64 0, .int .i64 0, .int .i64 0, .int .i64 0, .int .i64 0, .int .i64 0, .string ⟨#[]⟩, .string ⟨#[]⟩, .int .i64 0, .slice a2 0 c2] := HQ8.out.on hb
  have d0 : w9.cell? ⟨hr, 0, none⟩ = some (.int .i64 4) := HR9.out.cell 0
  have d1 : w9.cell? ⟨hr, 1, none⟩ = some (.int .i64 1) := HR9.out.cell 1
  have d2 : w9.cell? ⟨hr, 2, none⟩ = some (.int .i64 2) := HR9.out.cell 2
  have d3 : w9.cell? ⟨hr, 3, none⟩ = some (.int .i64 0) := HR9.out.cell 3
  have d4 : w9.cell? ⟨hr, 4, none⟩ = some (.string Z) := HR9.out.cell 4
  have d5 : w9.cell? ⟨hr, 5, none⟩ = some (.int .i64 0) := HR9.out.cell 5
  have d6 : w9.cell? ⟨hr, 6, none⟩ = some (.int .i64 0) := HR9.out.cell 6
  have d7 : w9.cell? ⟨hr, 7, none⟩ = some (.int .i64 0) := HR9.out.cell 7
  have d8 : w9.cell? ⟨hr, 8, none⟩ = some (.int .i64 0) := HR9.out.cell 8
  have d9 : w9.cell? ⟨hr, 9, none⟩ = some (.int .i64 0) := HR9.out.cell 9
  have d10 : w9.cell? ⟨hr, 10, none⟩ = some (.int .i64 0) := HR9.out.cell 10
  have d11 : w9.cell? ⟨hr, 11, none⟩ = some (.int .i64 0) := HR9.out.cell 11
  have d12 : w9.cell? ⟨hr, 12, none⟩ = some (.string ⟨#[]⟩) := HR9.out.cell 12
  have d13 : w9.cell? ⟨hr, 13, none⟩ = some (.string ⟨#[]⟩) := HR9.out.cell 13
  have d14 : w9.cell? ⟨hr, 14, none⟩ = some (.int .i64 0) := HR9.out.cell 14
  have d15 : w9.cell? ⟨hr, 15, none⟩ = some (.slice none 0 0) := HR9.out.cell 15
  have e0 : w9.cell? ⟨hq, 0, none⟩ = some (.int .i64 4) := hQ9.cell 0
  have e1 : w9.cell? ⟨hq, 1, none⟩ = some (.int .i64 1) := hQ9.cell 1
  have e2 : w9.cell? ⟨hq, 2, none⟩ = some (.int .i64 2) := hQ9.cell 2
  have e3 : w9.cell? ⟨hq, 3, none⟩ = some (.int .i64 0) := hQ9.cell 3
  have e4 : w9.cell? ⟨hq, 4, none⟩ = some (.string Z) := hQ9.cell 4
  have e5 : w9.cell? ⟨hq, 5, none⟩ = some (.int .i64 0) := hQ9.cell 5
  have e6 : w9.cell? ⟨hq, 6, none⟩ = some (.int .i64 0) := hQ9.cell 6
  have e7 : w9.cell? ⟨hq, 7, none⟩ = some (.int .i64 0) := hQ9.cell 7
  have e8 : w9.cell? ⟨hq, 8, none⟩ = some (.int .i64 0) := hQ9.cell 8
  have e9 : w9.cell? ⟨hq, 9, none⟩ = some (.int .i64 0) := hQ9.cell 9
  have e10 : w9.cell? ⟨hq, 10, none⟩ = some (.int .i64 0) := hQ9.cell 10
  have e11 : w9.cell? ⟨hq, 11, none⟩ = some (.int .i64 0) := hQ9.cell 11
  have e12 : w9.cell? ⟨hq, 12, none⟩ = some (.string ⟨#[]⟩) := hQ9.cell 12
  have e13 : w9.cell? ⟨hq, 13, none⟩ = some (.string ⟨#[]⟩) := hQ9.cell 13
  have e14 : w9.cell? ⟨hq, 14, none⟩ = some (.int .i64 0) := hQ9.cell 14
  have e15 : w9.cell? ⟨hq, 15, none⟩ = some (.slice a2 0 c2) := hQ9.cell 15
  clear hb HB8 HR8 HQ8 hQ9 CS
  go_wp2_with fail
  clear d0 e0 d1 e1 d2 e2 d3 e3 d4 e4 d5 e5 d6 e6 d7 e7 d8 e8 d9 e9 d10 e10 d11 e11 d12 e12 d13 e13 d14 e14 d15 e15
  refine (CSR.out a2 c2 w9).mono ?_
  rintro e w10 ⟨rfl, hb⟩
  have HB10 : Hid (Below w.heap.size w w10) := below_step HB9.out (Nat.le_refl _) hb
  have hR10 : Blk w10 28 hr #[.int .i64 4, .int .i64 1, .int .i64 2, .int .i64 0, .string Z, .int .i64 0, .int .i64 0, .int .i64 0, .int .i64 0, .int .i64 0, .int .i64 0, .int .i64 0, .string ⟨#[]⟩, .string ⟨#[]⟩, .int .i64 0, .slice none 0 0] := HR9.out.on hb
  have d0 : w10.cell? ⟨hr, 0, none⟩ = some (.int .i64 4) := hR10.cell 0
  have d1 : w10.cell? ⟨hr, 1, none⟩ = some (.int .i64 1) := hR10.cell 1
  have d2 : w10.cell? ⟨hr, 2, none⟩ = some (.int .i64 2) := hR10.cell 2
  have d3 : w10.cell? ⟨hr, 3, none⟩ = some (.int .i64 0) := hR10.cell 3
  have d4 : w10.cell? ⟨hr, 4, none⟩ = some (.string Z) := hR10.cell 4
  have d5 : w10.cell? ⟨hr, 5, none⟩ = some (.int .i64 0) := hR10.cell 5
  have d6 : w10.cell? ⟨hr, 6, none⟩ = some (.int .i64 0) := hR10.cell 6
  have d7 : w10.cell? ⟨hr, 7, none⟩ = some (.int .i64 0) := hR10.cell 7
  have d8 : w10.cell? ⟨hr, 8, none⟩ = some (.int .i64 0) := hR10.cell 8
  have d9 : w10.cell? ⟨hr, 9, none⟩ = some (.int .i64 0) := hR10.cell 9
  have d10 : w10.cell? ⟨hr, 10, none⟩ = some (.int .i64 0) := hR10.cell 10
  have d11 : w10.cell? ⟨hr, 11, none⟩ = some (.int .i64 0) := hR10.cell 11
  have d12 : w10.cell? ⟨hr, 12, none⟩ = some (.string ⟨#[]⟩) := hR10.cell 12
  have d13 : w10.cell? ⟨hr, 13, none⟩ = some (.string ⟨#[]⟩) := hR10.cell 13
  have d14 : w10.cell? ⟨hr, 14, none⟩ = some (.int .i64 0) := hR10.cell 14
  have d15 : w10.cell? ⟨hr, 15, none⟩ = some (.slice none 0 0) := hR10.cell 15
  clear hb HB9 HR9 hR10 CSR
  go_wp2_with fail
  clear d0 d1 d2 d3 d4 d5 d6 d7 d8 d9 d10 d11 d12 d13 d14 d15
  refine (CCR.out w10 HB10.out).mono ?_
  rintro e w11 ⟨rfl, hb⟩
  have hB11 := below_step HB10.out (Nat.le_refl _) hb
  clear hb CCR HB10
  go_wp2_with fail
  go_ret
  exact ⟨rfl, hB11⟩

end Go.Proofs.YtmjjpfinkpfifaaDoor
