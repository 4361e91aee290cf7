/- RelayNobody's walk. -/
import Derived.Test.YtmlpbbancoedgaaReV
namespace Go.Proofs.Ytmlpbbancoedgaa
open Go.RowKit
set_option maxRecDepth 100000
set_option linter.unusedSimpArgs false
set_option linter.unusedVariables false




set_option maxHeartbeats 8000000 in
theorem relayNobody_walk (s : ByteArray) (w : World) : Calls Try.prog 7 #[.string s] w fun e w' => e = .returned (.bool true) ∧ Below w.heap.size w w' := by
  obtain ⟨W1, hW1⟩ : ∃ W1, (w.alloc (.cells #[.pointer none, .int .i64 0, .int .i64 0, .int .i64 0, .int .i64 0, .string ⟨#[]⟩, .slice none 0 0] 59)).alloc (.cells #[.pointer none, .pointer (some ⟨w.heap.size, 0, none⟩)] 25) = W1 := ⟨_, rfl⟩
  have hbR : Blk W1 59 w.heap.size #[.pointer none, .int .i64 0, .int .i64 0, .int .i64 0, .int .i64 0, .string ⟨#[]⟩, .slice none 0 0] := by rw [← hW1]; exact (Blk.new w _ _).alloc _
  have hbL : Blk W1 25 (w.heap.size + 1) #[.pointer none, .pointer (some ⟨w.heap.size, 0, none⟩)] := by rw [← hW1]; exact Blk.new' _ _ _ _ (by simp)
  have HW : Hid (Below w.heap.size w W1) := by show Below _ _ _; rw [← hW1]; exact (below_new w _).alloc (by simp) _
  have HL : Hid (Blk W1 25 (w.heap.size + 1) #[.pointer none, .pointer (some ⟨w.heap.size, 0, none⟩)]) := hbL
  have HN0 : Hid (∀ W, Below W1.heap.size W1 W → NoR W (.pointer none)) := fun W _ => nor_nil W
  have HN1 : Hid (∀ W, Below W1.heap.size W1 W → NoR W (.pointer (some ⟨w.heap.size, 0, none⟩))) := fun W hW => (nor_emp W1 w.heap.size (hbR.cell 0)).on hW
  clear hbR hbL
  go_enter Try.func7, Try.ntmps7
  go_wp2_with fail
  try rw [hW1]
  clear hW1
  go_loopw [4] (fun i wr => ∃ k : Nat, k ≤ 2 ∧ i = .int .i64 k ∧ Hid (Below W1.heap.size W1 wr)) (fun i _ => 2 - (intOf i).toNat)
  case atStart => exact ⟨0, by omega, rfl, Below.refl _ _⟩
  case round =>
    obtain ⟨k, hk, rfl, HB⟩ := hrel
    rcases (show k = 0 ∨ k = 1 ∨ k = 2 by omega) with rfl | rfl | rfl
    · have HN := HN0
      have cc : W1.cell? ⟨w.heap.size + 1, 0, none⟩ = some (.pointer none) := HL.out.cell 0
      have c0 : wr.cell? ⟨w.heap.size + 1, 0, none⟩ = some (.pointer none) := by rw [HB.out.cell (World.block_lt_of_cell? W1 _ cc)]; exact cc
      go_wp2_with fail
      refine (rhear_no _ s wr (HN.out wr HB.out)).mono ?_
      rintro e v1 ⟨rfl, hb1⟩
      have HB1 : Hid (Below W1.heap.size W1 v1) := below_step HB.out (Nat.le_refl _) hb1
      have c1 : v1.cell? ⟨w.heap.size + 1, 0, none⟩ = some (.pointer none) := by rw [HB1.out.cell (World.block_lt_of_cell? W1 _ cc)]; exact cc
      clear hb1 c0
      go_wp2_with fail
      refine (rlast_no _ v1 (HN.out v1 HB1.out)).mono ?_
      rintro e v2 ⟨rfl, hb2⟩
      have HB2 : Hid (Below W1.heap.size W1 v2) := below_step HB1.out (Nat.le_refl _) hb2
      have c2 : v2.cell? ⟨w.heap.size + 1, 0, none⟩ = some (.pointer none) := by rw [HB2.out.cell (World.block_lt_of_cell? W1 _ cc)]; exact cc
      clear hb2 c1
      go_wp2_with fail
      refine (rbase_no _ v2 (HN.out v2 HB2.out)).mono ?_
      rintro e v3 ⟨rfl, hb3⟩
      have HB3 : Hid (Below W1.heap.size W1 v3) := below_step HB2.out (Nat.le_refl _) hb3
      have c3 : v3.cell? ⟨w.heap.size + 1, 0, none⟩ = some (.pointer none) := by rw [HB3.out.cell (World.block_lt_of_cell? W1 _ cc)]; exact cc
      clear hb3 c2
      go_wp2_with fail
      refine (rbytes_no _ v3 (HN.out v3 HB3.out)).mono ?_
      rintro e v4 ⟨rfl, hb4⟩
      have HB4 : Hid (Below W1.heap.size W1 v4) := below_step HB3.out (Nat.le_refl _) hb4
      have c4 : v4.cell? ⟨w.heap.size + 1, 0, none⟩ = some (.pointer none) := by rw [HB4.out.cell (World.block_lt_of_cell? W1 _ cc)]; exact cc
      clear hb4 c3
      go_wp2_with fail
      refine (ritems_no _ v4 (HN.out v4 HB4.out)).mono ?_
      rintro e v5 ⟨rfl, hb5⟩
      have HB5 : Hid (Below W1.heap.size W1 v5) := below_step HB4.out (Nat.le_refl _) hb5
      clear hb5 c4
      go_wp2_with fail
      refine ⟨?_, ?_⟩
      · first
        | exact ⟨1, by omega, by go_num, HB5⟩
        | ((repeat apply Exists.intro); refine ⟨?_, rfl⟩; exact ⟨1, by omega, by go_num, HB5⟩)
      · simp [intOf] <;> omega
    · have HN := HN1
      have cc : W1.cell? ⟨w.heap.size + 1, 1, none⟩ = some (.pointer (some ⟨w.heap.size, 0, none⟩)) := HL.out.cell 1
      have c0 : wr.cell? ⟨w.heap.size + 1, 1, none⟩ = some (.pointer (some ⟨w.heap.size, 0, none⟩)) := by rw [HB.out.cell (World.block_lt_of_cell? W1 _ cc)]; exact cc
      go_wp2_with fail
      refine (rhear_no _ s wr (HN.out wr HB.out)).mono ?_
      rintro e v1 ⟨rfl, hb1⟩
      have HB1 : Hid (Below W1.heap.size W1 v1) := below_step HB.out (Nat.le_refl _) hb1
      have c1 : v1.cell? ⟨w.heap.size + 1, 1, none⟩ = some (.pointer (some ⟨w.heap.size, 0, none⟩)) := by rw [HB1.out.cell (World.block_lt_of_cell? W1 _ cc)]; exact cc
      clear hb1 c0
      go_wp2_with fail
      refine (rlast_no _ v1 (HN.out v1 HB1.out)).mono ?_
      rintro e v2 ⟨rfl, hb2⟩
      have HB2 : Hid (Below W1.heap.size W1 v2) := below_step HB1.out (Nat.le_refl _) hb2
      have c2 : v2.cell? ⟨w.heap.size + 1, 1, none⟩ = some (.pointer (some ⟨w.heap.size, 0, none⟩)) := by rw [HB2.out.cell (World.block_lt_of_cell? W1 _ cc)]; exact cc
      clear hb2 c1
      go_wp2_with fail
      refine (rbase_no _ v2 (HN.out v2 HB2.out)).mono ?_
      rintro e v3 ⟨rfl, hb3⟩
      have HB3 : Hid (Below W1.heap.size W1 v3) := below_step HB2.out (Nat.le_refl _) hb3
      have c3 : v3.cell? ⟨w.heap.size + 1, 1, none⟩ = some (.pointer (some ⟨w.heap.size, 0, none⟩)) := by rw [HB3.out.cell (World.block_lt_of_cell? W1 _ cc)]; exact cc
      clear hb3 c2
      go_wp2_with fail
      refine (rbytes_no _ v3 (HN.out v3 HB3.out)).mono ?_
      rintro e v4 ⟨rfl, hb4⟩
      have HB4 : Hid (Below W1.heap.size W1 v4) := below_step HB3.out (Nat.le_refl _) hb4
      have c4 : v4.cell? ⟨w.heap.size + 1, 1, none⟩ = some (.pointer (some ⟨w.heap.size, 0, none⟩)) := by rw [HB4.out.cell (World.block_lt_of_cell? W1 _ cc)]; exact cc
      clear hb4 c3
      go_wp2_with fail
      refine (ritems_no _ v4 (HN.out v4 HB4.out)).mono ?_
      rintro e v5 ⟨rfl, hb5⟩
      have HB5 : Hid (Below W1.heap.size W1 v5) := below_step HB4.out (Nat.le_refl _) hb5
      clear hb5 c4
      go_wp2_with fail
      refine ⟨?_, ?_⟩
      · first
        | exact ⟨2, by omega, by go_num, HB5⟩
        | ((repeat apply Exists.intro); refine ⟨?_, rfl⟩; exact ⟨2, by omega, by go_num, HB5⟩)
      · simp [intOf] <;> omega
    · go_wp2_with fail
      refine (awake21_any wr).mono ?_
      rintro e w2 ⟨rfl, hb2⟩
      have HF : Hid (Below w.heap.size w w2) := below_step (below_step HW.out (Nat.le_refl _) HB.out) (Nat.le_refl _) hb2
      clear hb2
      go_wp2_with fail
      go_ret
      exact ⟨rfl, HF.out⟩
end Go.Proofs.Ytmlpbbancoedgaa
