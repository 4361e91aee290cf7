/- Layer 21, the code: itemOf. -/
import Derived.Test.YtmlpbbancoedgaaReA
import Derived.Test.YtmlpbbancoedgaaReS
namespace Go.Proofs.Ytmlpbbancoedgaa
open Go.RowKit
set_option maxRecDepth 100000
set_option linter.unusedSimpArgs false
set_option linter.unusedVariables false

set_option maxHeartbeats 4000000 in
theorem itemOf_any (F : FrmT) (a : Option Addr) (c : Nat) (q : Int) (w : World) (hs : F.2.2.2.2.2.1.size ≤ 281474976710656) :
    Calls Try.prog 80 #[.agg (frmA F a c), .int .i64 q] w fun e w' => e = .returned (.agg (itemA (q, F.2.2.2.1, F.2.2.2.2.2.1))) ∧ Below w.heap.size w w' := by
  obtain ⟨K, G, S, E, M, bl, it, er⟩ := F
  simp only [frmA, itemA] at hs ⊢
  obtain ⟨n, hn⟩ : ∃ n, it.length = n := ⟨_, rfl⟩
  rw [hn]
  obtain ⟨W0, hW0⟩ : ∃ W0, (w.alloc (.cells #[.int .i64 K, .int .i64 G, .int .i64 S, .int .i64 E, .int .i64 M, .string bl, .slice a n c, .int .i64 er] 39)).alloc (.cells #[.int .i64 0, .int .i64 0, .string ⟨#[]⟩] 31) = W0 := ⟨_, rfl⟩
  have hbF : Blk W0 39 w.heap.size #[.int .i64 K, .int .i64 G, .int .i64 S, .int .i64 E, .int .i64 M, .string bl, .slice a n c, .int .i64 er] := by rw [← hW0]; exact (Blk.new w _ _).alloc _
  have hbR : Blk W0 31 (w.heap.size + 1) #[.int .i64 0, .int .i64 0, .string ⟨#[]⟩] := by rw [← hW0]; exact Blk.new' _ _ _ _ (by simp)
  have HB0 : Hid (Below w.heap.size w W0) := by show Below _ _ _; rw [← hW0]; exact (below_new w _).alloc (by simp) _
  have HR0 : Hid (Blk W0 31 (w.heap.size + 1) #[.int .i64 0, .int .i64 0, .string ⟨#[]⟩]) := hbR
  have CC : Hid (∀ W, Calls Try.prog 87 #[.string bl] W fun e w' => e = .returned (.string bl) ∧ Below W.heap.size W w') := fun W => stclone_any bl W hs
  have hS0 : W0.cell? ⟨w.heap.size, 3, none⟩ = some (.int .i64 E) ∧ W0.cell? ⟨w.heap.size, 5, none⟩ = some (.string bl) := ⟨hbF.cell 3, hbF.cell 5⟩
  clear hn hs hbF hbR
  go_enter Try.func80, Try.ntmps80
  go_wp2_with fail
  try rw [hW0]
  clear hW0
  refine wp_region_noPanic ?_
  refine wp_region_held_drew (S := fun W => W.cell? ⟨w.heap.size, 3, none⟩ = some (.int .i64 E) ∧ W.cell? ⟨w.heap.size, 5, none⟩ = some (.string bl)) (by kernel_rfl) (by first | exact trivial | assumption | exact ⟨by assumption, by assumption⟩) (fun hHeld => ?_)
  refine take_at (i := 0) (v := ?_) rfl rfl (by kernel_rfl) (by kernel_rfl) (by kernel_rfl) (fun _ _ _ h => h) (Or.inl ⟨by rfl, ?_⟩) (by assumption) ?_
  rotate_left
  · intro w hSw; (try dsimp only at hSw); go_simp; try with_reducible rfl
  try simp only [Act.put, List.setIfInBounds_toArray, List.set_cons_zero, List.set_cons_succ]
  refine take_at (i := 1) (v := ?_) rfl rfl (by kernel_rfl) (by kernel_rfl) (by kernel_rfl) (fun _ _ _ h => h) (Or.inl ⟨by rfl, ?_⟩) (by assumption) ?_
  rotate_left
  · intro w hSw; (try dsimp only at hSw); go_simp; try with_reducible rfl
  try simp only [Act.put, List.setIfInBounds_toArray, List.set_cons_zero, List.set_cons_succ]
  refine take_at (i := 2) (v := ?_) rfl rfl (by kernel_rfl) (by kernel_rfl) (by kernel_rfl) (fun _ _ _ h => h) (Or.inl ⟨by rfl, ?_⟩) (by assumption) ?_
  rotate_left
  · intro w hSw; (try dsimp only at hSw); go_simp; try with_reducible rfl
  try simp only [Act.put, List.setIfInBounds_toArray, List.set_cons_zero, List.set_cons_succ]
  refine take_at (i := 3) (v := ?_) rfl rfl (by kernel_rfl) (by kernel_rfl) (by kernel_rfl) (fun _ _ _ h => h) (Or.inl ⟨by rfl, ?_⟩) (by assumption) ?_
  rotate_left
  · intro w hSw; (try dsimp only at hSw); go_simp; try with_reducible rfl
  try simp only [Act.put, List.setIfInBounds_toArray, List.set_cons_zero, List.set_cons_succ]
  refine take_at (i := 4) (v := ?_) rfl rfl (by kernel_rfl) (by kernel_rfl) (by kernel_rfl) (fun _ _ _ h => h) (Or.inl ⟨by rfl, ?_⟩) (by assumption) ?_
  rotate_left
  · intro w hSw; (try dsimp only at hSw); go_simp; try with_reducible rfl
  try simp only [Act.put, List.setIfInBounds_toArray, List.set_cons_zero, List.set_cons_succ]
  refine wpAnyH_ready (rs := [5]) (by kernel_rfl) (by simp) ?_
  refine AllReadyH.cons rfl (fun K hK => ?_) AllReadyH.nil
  go_simp
  refine (CC.out _).mono ?_
  rintro e w1 ⟨rfl, hb1⟩
  have HB1 : Hid (Below w.heap.size w w1) := below_step HB0.out.drew (Nat.le_refl _) hb1
  have HR1 : Hid (Blk w1 31 (w.heap.size + 1) #[.int .i64 0, .int .i64 0, .string ⟨#[]⟩]) := (HR0.out.on (Below.refl _ _).drew).on hb1
  have hS1 : w1.cell? ⟨w.heap.size, 3, none⟩ = some (.int .i64 E) ∧ w1.cell? ⟨w.heap.size, 5, none⟩ = some (.string bl) := ⟨by rw [hb1.cell (World.block_lt_of_cell? W0 _ hS0.1)]; exact hS0.1, by rw [hb1.cell (World.block_lt_of_cell? W0 _ hS0.2)]; exact hS0.2⟩
  clear hb1 HB0 HR0 CC
  refine hK.out _ _ hS1 (fun hHeld => ?_)
  clear hK K
  refine take_at (i := 6) (v := ?_) rfl rfl (by kernel_rfl) (by kernel_rfl) (by kernel_rfl) (fun _ _ _ h => h) (Or.inl ⟨by rfl, ?_⟩) (by assumption) ?_
  rotate_left
  · intro w hSw; (try dsimp only at hSw); go_simp; try with_reducible rfl
  try simp only [Act.put, List.setIfInBounds_toArray, List.set_cons_zero, List.set_cons_succ]
  refine wpAnyH_ready (rs := [7]) (by kernel_rfl) (by simp) ?_
  refine AllReadyH.cons rfl (fun K hK => ?_) AllReadyH.nil
  refine step_storeRow rfl rfl 31 _ _ rfl (w.heap.size + 1) #[.int .i64 0, .int .i64 0, .string ⟨#[]⟩] #[.int .i64 q, .int .i64 E, .string bl] rfl rfl HR1.out rfl (by kernel_rfl) (by simp [Value.oneCell']) ?_
  refine hK.out _ _ ⟨by rw [show (w1.setRow _ _).cell? _ = _ from Below.cell (below_setRow (B := w.heap.size + 1) (Below.refl _ _) (Nat.le_refl _) _) (by simp)]; exact hS1.1, by rw [show (w1.setRow _ _).cell? _ = _ from Below.cell (below_setRow (B := w.heap.size + 1) (Below.refl _ _) (Nat.le_refl _) _) (by simp)]; exact hS1.2⟩ (fun hHeld => ?_)
  clear hK K
  refine wpAnyH_done (by kernel_rfl) (NoPanic.normal ?_) _
  go_wp2_with fail
  exact bodyPost_row rfl (w.heap.size + 1) #[.int .i64 q, .int .i64 E, .string bl] rfl rfl (HR1.out.setRow _) _ Try.underlying31 rfl (by kernel_rfl) ⟨rfl, below_setRow HB1.out (by omega) _⟩
end Go.Proofs.Ytmlpbbancoedgaa
