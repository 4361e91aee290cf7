import Derived.Test.YtkmdajenbidaaaaReA
import Derived.Test.YtkmdajenbidaaaaReS
import Derived.Test.YtkmdajenbidaaaaReQ
/- Layer 21, the code: itemOf. -/
namespace Go.Proofs.Ytkmdajenbidaaaa
open Go.RowKit
set_option maxRecDepth 100000
set_option linter.unusedSimpArgs false
set_option linter.unusedVariables false

set_option maxHeartbeats 4000000 in
theorem itemOf_any (F : FrmT) (a : Option Addr) (c : Nat) (q : Int) (w : World) (hs : F.2.2.2.2.2.1.size ≤ 281474976710656) :
    Calls Try.prog 75 #[.agg (frmA F a c), .int .i64 q] w fun e w' => e = .returned (.agg (itemA (q, F.2.2.2.1, F.2.2.2.2.2.1))) ∧ Below w.heap.size w w' := by
  obtain ⟨K, G, S, E, M, bl, it, er⟩ := F
  simp only [frmA, itemA] at hs ⊢
  obtain ⟨n, hn⟩ : ∃ n, it.length = n := ⟨_, rfl⟩
  rw [hn]
  obtain ⟨W0, hW0⟩ : ∃ W0, (w.alloc (.cells #[.int .i64 K, .int .i64 G, .int .i64 S, .int .i64 E, .int .i64 M, .string bl, .slice a n c, .int .i64 er] 39)).alloc (.cells #[.int .i64 0, .int .i64 0, .string ⟨#[]⟩] 31) = W0 := ⟨_, rfl⟩
  have hbF : Blk W0 39 w.heap.size #[.int .i64 K, .int .i64 G, .int .i64 S, .int .i64 E, .int .i64 M, .string bl, .slice a n c, .int .i64 er] := by rw [← hW0]; exact (Blk.new w _ _).alloc _
  have hbR : Blk W0 31 (w.heap.size + 1) #[.int .i64 0, .int .i64 0, .string ⟨#[]⟩] := by rw [← hW0]; exact Blk.new' _ _ _ _ (by simp)
  have HB0 : Hid (Below w.heap.size w W0) := by show Below _ _ _; rw [← hW0]; exact (below_new w _).alloc (by simp) _
  have HR0 : Hid (Blk W0 31 (w.heap.size + 1) #[.int .i64 0, .int .i64 0, .string ⟨#[]⟩]) := hbR
  have CC : Hid (∀ W, Calls Try.prog 82 #[.string bl] W fun e w' => e = .returned (.string bl) ∧ Below W.heap.size W w') := fun W => stclone_any bl W hs
  have hS0 : W0.cell? ⟨w.heap.size, 3, none⟩ = some (.int .i64 E) ∧ W0.cell? ⟨w.heap.size, 5, none⟩ = some (.string bl) := ⟨hbF.cell 3, hbF.cell 5⟩
  clear hn hs hbF hbR
  go_enter Try.func75, Try.ntmps75
  go_wp2_with fail
  try rw [hW0]
  clear hW0
  refine wp_region_noPanic ?_
  refine wp_region_held_drew (S := fun W => W.cell? ⟨w.heap.size, 3, none⟩ = some (.int .i64 E) ∧ W.cell? ⟨w.heap.size, 5, none⟩ = some (.string bl)) (by kernel_rfl) (by first | exact trivial | assumption | exact ⟨by assumption, by assumption⟩) (fun hHeld => ?_)
  refine take_at (i := 0) (v := ?_) rfl rfl (by kernel_rfl) (by kernel_rfl) (by kernel_rfl) (fun _ _ _ h => h) (Or.inl ⟨by rfl, ?_⟩) (by assumption) ?_
  rotate_left
  · intro w hSw; (try dsimp only at hSw); go_simp; try with_reducible rfl
  try simp only [Act.put, List.setIfInBounds_toArray, List.set_cons_zero, List.set_cons_succ]
  refine take_at (i := 1) (v := ?_) rfl rfl (by kernel_rfl) (by kernel_rfl) (by kernel_rfl) (fun _ _ _ h => h) (Or.inl ⟨by rfl, ?_⟩) (by assumption) ?_
  rotate_left
  · intro w hSw; (try dsimp only at hSw); go_simp; try with_reducible rfl
  try simp only [Act.put, List.setIfInBounds_toArray, List.set_cons_zero, List.set_cons_succ]
  refine take_at (i := 2) (v := ?_) rfl rfl (by kernel_rfl) (by kernel_rfl) (by kernel_rfl) (fun _ _ _ h => h) (Or.inl ⟨by rfl, ?_⟩) (by assumption) ?_
  rotate_left
  · intro w hSw; (try dsimp only at hSw); go_simp; try with_reducible rfl
  try simp only [Act.put, List.setIfInBounds_toArray, List.set_cons_zero, List.set_cons_succ]
  refine take_at (i := 3) (v := ?_) rfl rfl (by kernel_rfl) (by kernel_rfl) (by kernel_rfl) (fun _ _ _ h => h) (Or.inl ⟨by rfl, ?_⟩) (by assumption) ?_
  rotate_left
  · intro w hSw; (try dsimp only at hSw); go_simp; try with_reducible rfl
  try simp only [Act.put, List.setIfInBounds_toArray, List.set_cons_zero, List.set_cons_succ]
  refine take_at (i := 4) (v := ?_) rfl rfl (by kernel_rfl) (by kernel_rfl) (by kernel_rfl) (fun _ _ _ h => h) (Or.inl ⟨by rfl, ?_⟩) (by assumption) ?_
  rotate_left
  · intro w hSw; (try dsimp only at hSw); go_simp; try with_reducible rfl
  try simp only [Act.put, List.setIfInBounds_toArray, List.set_cons_zero, List.set_cons_succ]
  refine wpAnyH_ready (rs := [5]) (by kernel_rfl) (by simp) ?_
  refine AllReadyH.cons rfl (fun K hK => ?_) AllReadyH.nil
  go_simp
  refine (CC.out _).mono ?_
  rintro e w1 ⟨rfl, hb1⟩
  have HB1 : Hid (Below w.heap.size w w1) := below_step HB0.out.drew (Nat.le_refl _) hb1
  have HR1 : Hid (Blk w1 31 (w.heap.size + 1) #[.int .i64 0, .int .i64 0, .string ⟨#[]⟩]) := (HR0.out.on (Below.refl _ _).drew).on hb1
  have hS1 : w1.cell? ⟨w.heap.size, 3, none⟩ = some (.int .i64 E) ∧ w1.cell? ⟨w.heap.size, 5, none⟩ = some (.string bl) := ⟨by rw [hb1.cell (World.block_lt_of_cell? W0 _ hS0.1)]; exact hS0.1, by rw [hb1.cell (World.block_lt_of_cell? W0 _ hS0.2)]; exact hS0.2⟩
  clear hb1 HB0 HR0 CC
  refine hK.out _ _ hS1 (fun hHeld => ?_)
  clear hK K
  refine take_at (i := 6) (v := ?_) rfl rfl (by kernel_rfl) (by kernel_rfl) (by kernel_rfl) (fun _ _ _ h => h) (Or.inl ⟨by rfl, ?_⟩) (by assumption) ?_
  rotate_left
  · intro w hSw; (try dsimp only at hSw); go_simp; try with_reducible rfl
  try simp only [Act.put, List.setIfInBounds_toArray, List.set_cons_zero, List.set_cons_succ]
  refine wpAnyH_ready (rs := [7]) (by kernel_rfl) (by simp) ?_
  refine AllReadyH.cons rfl (fun K hK => ?_) AllReadyH.nil
  refine step_storeRow rfl rfl 31 _ _ rfl (w.heap.size + 1) #[.int .i64 0, .int .i64 0, .string ⟨#[]⟩] #[.int .i64 q, .int .i64 E, .string bl] rfl rfl HR1.out rfl (by kernel_rfl) (by simp [Value.oneCell']) ?_
  refine hK.out _ _ ⟨by rw [show (w1.setRow _ _).cell? _ = _ from Below.cell (below_setRow (B := w.heap.size + 1) (Below.refl _ _) (Nat.le_refl _) _) (by simp)]; exact hS1.1, by rw [show (w1.setRow _ _).cell? _ = _ from Below.cell (below_setRow (B := w.heap.size + 1) (Below.refl _ _) (Nat.le_refl _) _) (by simp)]; exact hS1.2⟩ (fun hHeld => ?_)
  clear hK K
  refine wpAnyH_done (by kernel_rfl) (NoPanic.normal ?_) _
  go_wp2_with fail
  exact bodyPost_row rfl (w.heap.size + 1) #[.int .i64 q, .int .i64 E, .string bl] rfl rfl (HR1.out.setRow _) _ Try.underlying31 rfl (by kernel_rfl) ⟨rfl, below_setRow HB1.out (by omega) _⟩
end Go.Proofs.Ytkmdajenbidaaaa

/- Layer 21, the code: what each kind of frame asks: show, give. -/
namespace Go.Proofs.Ytkmdajenbidaaaa
open Go.RowKit
set_option maxRecDepth 100000
set_option linter.unusedSimpArgs false
set_option linter.unusedVariables false

def zeroF : Array Value := #[.int .i64 0, .int .i64 0, .int .i64 0, .int .i64 0, .int .i64 0, .string ⟨#[]⟩, .slice none 0 0, .int .i64 0]

/-- What each of them holds: the frame's cell, the answer's. -/
structure AdS (w : World) (g : Nat) (v : Value) (X : RlT) (fr : Array Value) (W : World) : Prop where
  bel : Below w.heap.size w W
  rel : RlAt W g v X
  frm : Blk W 39 w.heap.size fr
  out : Blk W 39 (w.heap.size + 1) zeroF

theorem AdS.on {w : World} {g : Nat} {v : Value} {X : RlT} {fr : Array Value} {W W' : World} (h : AdS w g v X fr W) (hb : Below W.heap.size W W') : AdS w g v X fr W' :=
  ⟨below_step h.bel (Nat.le_refl _) hb, h.rel.on hb, h.frm.on hb, h.out.on hb⟩

theorem AdS.new {w : World} {g : Nat} {v : Value} {X : RlT} (h : RlAt w g v X) (fr : Array Value) : AdS w g v X fr ((w.alloc (.cells fr 39)).alloc (.cells zeroF 39)) := by
  have hb : Below w.heap.size w ((w.alloc (.cells fr 39)).alloc (.cells zeroF 39)) := (below_new w _).alloc (by simp) _
  exact ⟨hb, h.on hb, (Blk.new w _ _).alloc _, Blk.new' _ _ _ _ (by simp)⟩

theorem AdS.to {w : World} {g : Nat} {v : Value} {X : RlT} {fr : Array Value} {W : World} (h0 : RlAt w g v X) (h : AdS w g v X fr W) (cs : Array Value) : RlTo w g v X (W.setRow (w.heap.size + 1) cs) :=
  h0.to (below_setRow h.bel (by omega) _)

theorem refusal_row (e0 : Int) (w : World) : Calls Try.prog 43 #[.int .i64 e0] w fun e w' => e = .returned (.agg #[.int .i64 9, .int .i64 0, .int .i64 0, .int .i64 0, .int .i64 0, .string ⟨#[]⟩, .slice none 0 0, .int .i64 e0]) ∧ Below w.heap.size w w' := refusal_any e0 w



set_option maxHeartbeats 4000000 in
theorem show_any (g : Nat) (v : Value) (X : RlT) (F : FrmT) (a : Option Addr) (c : Nat) (w : World) (h : RlAt w g v X) :
    Calls Try.prog 66 #[.pointer (some ⟨g, 0, none⟩), .agg (frmA F a c)] w fun e w' => e = .returned (.agg (frmA (showR X) none 0)) ∧ RlTo w g v X w' := by
  unfold showR
  obtain ⟨K, G, S, E, M, bl, it, er⟩ := F
  obtain ⟨n0, hn0⟩ : ∃ n0, it.length = n0 := ⟨_, rfl⟩
  have HR0 : Hid (RlAt w g v X) := h
  have HS' := AdS.new h (frmA (K, G, S, E, M, bl, it, er) a c)
  obtain ⟨W0, hW0⟩ : ∃ W0, (w.alloc (.cells (frmA (K, G, S, E, M, bl, it, er) a c) 39)).alloc (.cells zeroF 39) = W0 := ⟨_, rfl⟩
  rw [hW0] at HS'
  simp only [frmA, zeroF, hn0] at HS' hW0 ⊢
  have HS : Hid (AdS w g v X #[.int .i64 K, .int .i64 G, .int .i64 S, .int .i64 E, .int .i64 M, .string bl, .slice a n0 c, .int .i64 er] W0) := HS'
  clear HS' hn0 h
  have CB : Hid (Calls _ _ _ _ _) := rbase_any g v X W0 HS.out.rel
  obtain ⟨B, hB⟩ : ∃ B, X.2.2.1.1 = B := ⟨_, rfl⟩
  rw [hB] at CB ⊢
  have HX0 : Hid (X.2.2.1.1 = B) := hB
  clear hB
  by_cases h0 : B = 0
  · subst h0
    rw [if_pos rfl]
    go_enter Try.func66, Try.ntmps66
    go_wp2_with fail
    try rw [hW0]
    refine CB.out.mono ?_
    rintro e w1 ⟨rfl, hb1⟩
    have HS1 : Hid (AdS w g v X _ w1) := HS.out.on hb1
    clear HS CB hb1 hW0
    go_wp2_with fail
    refine (refusal_row 3 w1).mono ?_
    rintro e w2 ⟨rfl, hb2⟩
    have HS2 : Hid (AdS w g v X _ w2) := HS1.out.on hb2
    have HX := HS2.out.out
    simp only [zeroF] at HX
    clear HS1 hb2
    go_wp2_with (with_reducible refine wpList_storeBlk rfl 39 _ _ rfl (w.heap.size + 1) #[.int .i64 0, .int .i64 0, .int .i64 0, .int .i64 0, .int .i64 0, .string ⟨#[]⟩, .slice none 0 0, .int .i64 0] #[.int .i64 9, .int .i64 0, .int .i64 0, .int .i64 0, .int .i64 0, .string ⟨#[]⟩, .slice none 0 0, .int .i64 3] ?hx ?hy HX rfl ?hi ?h1 ?_)
    try (case hx => rfl)
    try (case hy => rfl)
    try (case hi => kernel_rfl)
    try (case h1 => simp [Value.oneCell'])
    exact bodyPost_row rfl (w.heap.size + 1) #[.int .i64 9, .int .i64 0, .int .i64 0, .int .i64 0, .int .i64 0, .string ⟨#[]⟩, .slice none 0 0, .int .i64 3] rfl rfl (HX.setRow _) _ Try.underlying39 rfl (by kernel_rfl) ⟨rfl, HS2.out.to HR0.out _⟩
  · rw [if_neg h0]
    have t0 : (B == 0) = false := by rw [beq_eq_false_iff_ne]; exact h0
    go_enter Try.func66, Try.ntmps66
    go_wp2_with fail
    try rw [hW0]
    refine CB.out.mono ?_
    rintro e w1 ⟨rfl, hb1⟩
    have HS1 : Hid (AdS w g v X _ w1) := HS.out.on hb1
    have a3 : w1.cell? ⟨g, 3, none⟩ = some (.int .i64 B) := by have := HS1.out.rel.blk.cell 3; rw [this, ← HX0.out]; rfl
    have a4 : w1.cell? ⟨g, 4, none⟩ = some (.int .i64 X.2.2.1.2.1) := HS1.out.rel.blk.cell 4
    have a5 : w1.cell? ⟨g, 5, none⟩ = some (.string X.2.2.1.2.2) := HS1.out.rel.blk.cell 5
    obtain ⟨e4, he4⟩ : ∃ e4, X.2.2.1.2.1 = e4 := ⟨_, rfl⟩
    obtain ⟨e5, he5⟩ : ∃ e5, X.2.2.1.2.2 = e5 := ⟨_, rfl⟩
    rw [he4] at a4
    rw [he5] at a5
    have HX := HS1.out.out
    have HE : Hid (X.2.2.1.2.1 = e4 ∧ X.2.2.1.2.2 = e5) := ⟨he4, he5⟩
    simp only [zeroF] at HX
    clear HS CB hb1 hW0 he4 he5
    go_wp2_with fail
    have hS0 : w1.cell? ⟨g, 3, none⟩ = some (.int .i64 B) ∧ w1.cell? ⟨g, 4, none⟩ = some (.int .i64 e4) ∧ w1.cell? ⟨g, 5, none⟩ = some (.string e5) := ⟨a3, a4, a5⟩
    refine wp_region_noPanic ?_
    refine wp_region_held_drew (S := fun W => W.cell? ⟨g, 3, none⟩ = some (.int .i64 B) ∧ W.cell? ⟨g, 4, none⟩ = some (.int .i64 e4) ∧ W.cell? ⟨g, 5, none⟩ = some (.string e5)) (by kernel_rfl) (by first | exact trivial | assumption | exact ⟨by assumption, by assumption⟩) (fun hHeld => ?_)
    refine take_at (i := 0) (v := ?_) rfl rfl (by kernel_rfl) (by kernel_rfl) (by kernel_rfl) (fun _ _ _ h => h) (Or.inl ⟨by rfl, ?_⟩) (by assumption) ?_
    rotate_left
    · intro w hSw; (try dsimp only at hSw); go_simp; try with_reducible rfl
    try simp only [Act.put, List.setIfInBounds_toArray, List.set_cons_zero, List.set_cons_succ]
    refine take_at (i := 1) (v := ?_) rfl rfl (by kernel_rfl) (by kernel_rfl) (by kernel_rfl) (fun _ _ _ h => h) (Or.inl ⟨by rfl, ?_⟩) (by assumption) ?_
    rotate_left
    · intro w hSw; (try dsimp only at hSw); go_simp; try with_reducible rfl
    try simp only [Act.put, List.setIfInBounds_toArray, List.set_cons_zero, List.set_cons_succ]
    refine take_at (i := 2) (v := ?_) rfl rfl (by kernel_rfl) (by kernel_rfl) (by kernel_rfl) (fun _ _ _ h => h) (Or.inl ⟨by rfl, ?_⟩) (by assumption) ?_
    rotate_left
    · intro w hSw; (try dsimp only at hSw); go_simp; try with_reducible rfl
    try simp only [Act.put, List.setIfInBounds_toArray, List.set_cons_zero, List.set_cons_succ]
    refine take_at (i := 3) (v := ?_) rfl rfl (by kernel_rfl) (by kernel_rfl) (by kernel_rfl) (fun _ _ _ h => h) (Or.inl ⟨by rfl, ?_⟩) (by assumption) ?_
    rotate_left
    · intro w hSw; (try dsimp only at hSw); go_simp; try with_reducible rfl
    try simp only [Act.put, List.setIfInBounds_toArray, List.set_cons_zero, List.set_cons_succ]
    refine take_at (i := 4) (v := ?_) rfl rfl (by kernel_rfl) (by kernel_rfl) (by kernel_rfl) (fun _ _ _ h => h) (Or.inl ⟨by rfl, ?_⟩) (by assumption) ?_
    rotate_left
    · intro w hSw; (try dsimp only at hSw); go_simp; try with_reducible rfl
    try simp only [Act.put, List.setIfInBounds_toArray, List.set_cons_zero, List.set_cons_succ]
    refine take_at (i := 5) (v := ?_) rfl rfl (by kernel_rfl) (by kernel_rfl) (by kernel_rfl) (fun _ _ _ h => h) (Or.inl ⟨by rfl, ?_⟩) (by assumption) ?_
    rotate_left
    · intro w hSw; (try dsimp only at hSw); go_simp; try with_reducible rfl
    try simp only [Act.put, List.setIfInBounds_toArray, List.set_cons_zero, List.set_cons_succ]
    refine take_at (i := 6) (v := ?_) rfl rfl (by kernel_rfl) (by kernel_rfl) (by kernel_rfl) (fun _ _ _ h => h) (Or.inl ⟨by rfl, ?_⟩) (by assumption) ?_
    rotate_left
    · intro w hSw; (try dsimp only at hSw); go_simp; try with_reducible rfl
    try simp only [Act.put, List.setIfInBounds_toArray, List.set_cons_zero, List.set_cons_succ]
    refine take_at (i := 7) (v := ?_) rfl rfl (by kernel_rfl) (by kernel_rfl) (by kernel_rfl) (fun _ _ _ h => h) (Or.inl ⟨by rfl, ?_⟩) (by assumption) ?_
    rotate_left
    · intro w hSw; (try dsimp only at hSw); go_simp; try with_reducible rfl
    try simp only [Act.put, List.setIfInBounds_toArray, List.set_cons_zero, List.set_cons_succ]
    refine take_at (i := 8) (v := ?_) rfl rfl (by kernel_rfl) (by kernel_rfl) (by kernel_rfl) (fun _ _ _ h => h) (Or.inl ⟨by rfl, ?_⟩) (by assumption) ?_
    rotate_left
    · intro w hSw; (try dsimp only at hSw); go_simp; try with_reducible rfl
    try simp only [Act.put, List.setIfInBounds_toArray, List.set_cons_zero, List.set_cons_succ]
    refine take_at (i := 9) (v := ?_) rfl rfl (by kernel_rfl) (by kernel_rfl) (by kernel_rfl) (fun _ _ _ h => h) (Or.inl ⟨by rfl, ?_⟩) (by assumption) ?_
    rotate_left
    · intro w hSw; (try dsimp only at hSw); go_simp; try with_reducible rfl
    try simp only [Act.put, List.setIfInBounds_toArray, List.set_cons_zero, List.set_cons_succ]
    refine take_at (i := 10) (v := ?_) rfl rfl (by kernel_rfl) (by kernel_rfl) (by kernel_rfl) (fun _ _ _ h => h) (Or.inl ⟨by rfl, ?_⟩) (by assumption) ?_
    rotate_left
    · intro w hSw; (try dsimp only at hSw); go_simp; try with_reducible rfl
    try simp only [Act.put, List.setIfInBounds_toArray, List.set_cons_zero, List.set_cons_succ]
    refine take_at (i := 11) (v := ?_) rfl rfl (by kernel_rfl) (by kernel_rfl) (by kernel_rfl) (fun _ _ _ h => h) (Or.inl ⟨by rfl, ?_⟩) (by assumption) ?_
    rotate_left
    · intro w hSw; (try dsimp only at hSw); go_simp; try with_reducible rfl
    try simp only [Act.put, List.setIfInBounds_toArray, List.set_cons_zero, List.set_cons_succ]
    refine take_at (i := 12) (v := ?_) rfl rfl (by kernel_rfl) (by kernel_rfl) (by kernel_rfl) (fun _ _ _ h => h) (Or.inl ⟨by rfl, ?_⟩) (by assumption) ?_
    rotate_left
    · intro w hSw; (try dsimp only at hSw); go_simp; try with_reducible rfl
    try simp only [Act.put, List.setIfInBounds_toArray, List.set_cons_zero, List.set_cons_succ]
    refine take_at (i := 13) (v := ?_) rfl rfl (by kernel_rfl) (by kernel_rfl) (by kernel_rfl) (fun _ _ _ h => h) (Or.inl ⟨by rfl, ?_⟩) (by assumption) ?_
    rotate_left
    · intro w hSw; (try dsimp only at hSw); go_simp; try with_reducible rfl
    try simp only [Act.put, List.setIfInBounds_toArray, List.set_cons_zero, List.set_cons_succ]
    refine take_at (i := 14) (v := ?_) rfl rfl (by kernel_rfl) (by kernel_rfl) (by kernel_rfl) (fun _ _ _ h => h) (Or.inl ⟨by rfl, ?_⟩) (by assumption) ?_
    rotate_left
    · intro w hSw; (try dsimp only at hSw); go_simp; try with_reducible rfl
    try simp only [Act.put, List.setIfInBounds_toArray, List.set_cons_zero, List.set_cons_succ]
    refine take_at (i := 15) (v := ?_) rfl rfl (by kernel_rfl) (by kernel_rfl) (by kernel_rfl) (fun _ _ _ h => h) (Or.inl ⟨by rfl, ?_⟩) (by assumption) ?_
    rotate_left
    · intro w hSw; (try dsimp only at hSw); go_simp; try with_reducible rfl
    try simp only [Act.put, List.setIfInBounds_toArray, List.set_cons_zero, List.set_cons_succ]
    refine wpAnyH_ready (rs := [16]) (by kernel_rfl) (by simp) ?_
    refine AllReadyH.cons rfl (fun K hK => ?_) AllReadyH.nil
    refine step_storeRow rfl rfl 39 _ _ rfl (w.heap.size + 1) #[.int .i64 0, .int .i64 0, .int .i64 0, .int .i64 0, .int .i64 0, .string ⟨#[]⟩, .slice none 0 0, .int .i64 0] #[.int .i64 8, .int .i64 0, .int .i64 B, .int .i64 e4, .int .i64 0, .string e5, .slice none 0 0, .int .i64 0] rfl rfl (HX.on (Below.refl _ _).drew) rfl (by kernel_rfl) (by simp [Value.oneCell']) ?_
    have hlt := HS1.out.rel.blk
    have hgb : g ≠ w.heap.size + 1 := by
      have := HR0.out.lt
      omega
    have hS1 := (hlt.on (Below.refl _ _).drew).setRowOther (w.heap.size + 1) hgb #[.int .i64 8, .int .i64 0, .int .i64 B, .int .i64 e4, .int .i64 0, .string e5, .slice none 0 0, .int .i64 0]
    refine hK.out _ _ ⟨by rw [hS1.cell 3, ← HX0.out]; rfl, by rw [hS1.cell 4, ← HE.out.1]; rfl, by rw [hS1.cell 5, ← HE.out.2]; rfl⟩ (fun hHeld => ?_)
    clear hK K
    refine wpAnyH_done (by kernel_rfl) (NoPanic.normal ?_) _
    go_wp2_with fail
    exact bodyPost_row rfl (w.heap.size + 1) #[.int .i64 8, .int .i64 0, .int .i64 B, .int .i64 e4, .int .i64 0, .string e5, .slice none 0 0, .int .i64 0] rfl rfl ((HX.on (Below.refl _ _).drew).setRow _) _ Try.underlying39 rfl (by kernel_rfl) ⟨by rw [← HE.out.1, ← HE.out.2], (HS1.out.on (Below.refl _ _).drew).to HR0.out _⟩
end Go.Proofs.Ytkmdajenbidaaaa
