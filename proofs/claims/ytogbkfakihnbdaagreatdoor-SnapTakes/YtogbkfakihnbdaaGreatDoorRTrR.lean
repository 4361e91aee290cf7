import Derived.Test.YtogbkfakihnbdaaGreatDoorL1
import Derived.Test.YtogbkfakihnbdaaGreatDoorTS
import Derived.Test.YtogbkfakihnbdaaGreatDoorRTrI
/- The document's node (layer 11). -/
namespace Go.Proofs.YtogbkfakihnbdaaGreatDoor
open Go.RowKit
set_option linter.unusedSimpArgs false

/-- May the k'th node be one of a snapshot's? Ahead of its parent; its parent. -/
def NodeH (l : List NodeT) (s : Int × Int) (k : Nat) : Prop := MayS (nL l k).1 ∧ ¬ LessS s (nL l k).1 ∧ NameP (nL l k).2.2.1 ∧ (nL l k).2.2.2.size ≤ 64 ∧ (0 < k → LessS (nL l (k - 1)).1 (nL l k).1)

def NodeQ (l : List NodeT) (x : NodeT) : Prop := if x.2.1.1 = 0 then ParS x.2.1 else (0 ≤ findI l x.2.1 ∧ underF l x.1 (l.length + 1) x.2.1 = false)

set_option maxRecDepth 100000 in
set_option maxHeartbeats 4000000 in
theorem rnode_first (l : List NodeT) (b1 b2 m1 m2 m3 m4 : Int) (m5 m6 : ByteArray) (b off n c : Nat) (so : Value) (w : World) (D : Bool) (hn : n ≤ 60000) (hk : 0 < n) (hs : m5.size ≤ 1048576) (h6 : m6.size ≤ maxLen) (H1 : Hid (NodesAt w (some ⟨b, off, none⟩) n l)) (HY : Hid (nL l (0) = ((m1, m2), (m3, m4), m5, m6)))
    (hD : D = true ↔ ((MayS (m1, m2) ∧ ¬ LessS (b1, b2) (m1, m2) ∧ NameP m5 ∧ m6.size ≤ 64) ∧ NodeQ l ((m1, m2), (m3, m4), m5, m6))) :
    Calls Tryz.prog 66 #[.agg #[.slice (some ⟨b, off, none⟩) n c, so, .int .i64 b1, .int .i64 b2], .int .i64 0] w fun e w' => e = .returned (.bool D) ∧ Below w.heap.size w w' := by
  have HLN : Hid (l.length = n) := H1.out.1
  obtain ⟨q0, q1, q2, q3, q4, q5⟩ := H1.out.cells (0) hk
  rw [HY.out] at q0 q1 q2 q3 q4 q5
  obtain ⟨g, hg⟩ : ∃ g, g = w.heap.size := ⟨_, rfl⟩
  obtain ⟨W2, hW2⟩ : ∃ W2, W2 = (w.alloc (.cells #[.slice (some ⟨b, off, none⟩) n c, so, .int .i64 b1, .int .i64 b2] 28)).alloc (.cells #[.int .i64 m1, .int .i64 m2, .int .i64 m3, .int .i64 m4, .string m5, .string m6] 47) := ⟨_, rfl⟩
  have HW : Hid (Below w.heap.size w W2) := by rw [hW2]; exact (below_new _ _).alloc (by simp) _
  have G2 : Hid (Blk W2 28 g #[.slice (some ⟨b, off, none⟩) n c, so, .int .i64 b1, .int .i64 b2]) := by show Blk _ _ _ _; rw [hW2]; exact (Blk.new' _ _ _ _ hg.symm).alloc _
  have N2 : Hid (Blk W2 47 (g + 1) #[.int .i64 m1, .int .i64 m2, .int .i64 m3, .int .i64 m4, .string m5, .string m6]) := by show Blk _ _ _ _; rw [hW2]; exact Blk.new' _ _ _ _ (by simp [hg])
  have HNA : Hid (∀ w', Below W2.heap.size W2 w' → NodesAt w' (some ⟨b, off, none⟩) n l) := fun w' hb => H1.out.below (below_step HW.out (Nat.le_refl _) hb)
  have HS : Hid (∀ w', Below W2.heap.size W2 w' → (w'.cell? ⟨g, 0, none⟩ = some (.slice (some ⟨b, off, none⟩) n c) ∧ w'.cell? ⟨g, 2, none⟩ = some (.int .i64 b1) ∧ w'.cell? ⟨g, 3, none⟩ = some (.int .i64 b2)) ∧ (w'.cell? ⟨g + 1, 0, none⟩ = some (.int .i64 m1) ∧ w'.cell? ⟨g + 1, 1, none⟩ = some (.int .i64 m2) ∧ w'.cell? ⟨g + 1, 2, none⟩ = some (.int .i64 m3) ∧ w'.cell? ⟨g + 1, 3, none⟩ = some (.int .i64 m4) ∧ w'.cell? ⟨g + 1, 4, none⟩ = some (.string m5) ∧ w'.cell? ⟨g + 1, 5, none⟩ = some (.string m6))) := fun w' hb => by
    have hbw := below_step HW.out (Nat.le_refl _) hb
    have a := G2.out.on hb
    have d := N2.out.on hb
    exact ⟨⟨a.cell 0, a.cell 2, a.cell 3⟩, d.cell 0, d.cell 1, d.cell 2, d.cell 3, d.cell 4, d.cell 5⟩
  have a0 : ∀ o, (w.alloc o).cell? ⟨b, off, none⟩ = some (.int .i64 m1) := fun o => by have h := q0; simp only [Nat.zero_mul, Nat.add_zero] at h; rw [(below_new w o).cell (World.block_lt_of_cell? w _ h)]; exact h
  have a1 : ∀ o, (w.alloc o).cell? ⟨b, off + 1, none⟩ = some (.int .i64 m2) := fun o => by have h := q1; simp only [Nat.zero_mul, Nat.add_zero] at h; rw [(below_new w o).cell (World.block_lt_of_cell? w _ h)]; exact h
  have a2 : ∀ o, (w.alloc o).cell? ⟨b, off + 2, none⟩ = some (.int .i64 m3) := fun o => by have h := q2; simp only [Nat.zero_mul, Nat.add_zero] at h; rw [(below_new w o).cell (World.block_lt_of_cell? w _ h)]; exact h
  have a3 : ∀ o, (w.alloc o).cell? ⟨b, off + 3, none⟩ = some (.int .i64 m4) := fun o => by have h := q3; simp only [Nat.zero_mul, Nat.add_zero] at h; rw [(below_new w o).cell (World.block_lt_of_cell? w _ h)]; exact h
  have a4 : ∀ o, (w.alloc o).cell? ⟨b, off + 4, none⟩ = some (.string m5) := fun o => by have h := q4; simp only [Nat.zero_mul, Nat.add_zero] at h; rw [(below_new w o).cell (World.block_lt_of_cell? w _ h)]; exact h
  have a5 : ∀ o, (w.alloc o).cell? ⟨b, off + 5, none⟩ = some (.string m6) := fun o => by have h := q5; simp only [Nat.zero_mul, Nat.add_zero] at h; rw [(below_new w o).cell (World.block_lt_of_cell? w _ h)]; exact h
  have d0 : (0 : Int) < (n : Int) := by omega
  have CM' := fun w => rmayS_any (m1, m2) w
  have CL' := fun w => rless_any (b1, b2) (m1, m2) w
  have hln6 : m6.size ≤ 9223372036854775807 := h6
  clear q0 q1 q2 q3 q4 q5 HY h6 H1 G2 N2
  by_cases hM : MayS (m1, m2)
  · rw [decide_eq_true hM] at CM'
    have CM : Hid (∀ w, Calls Tryz.prog 65 #[.agg #[.int .i64 m1, .int .i64 m2]] w fun e w' => e = .returned (.bool true) ∧ Below w.heap.size w w') := CM'
    by_cases hL : LessS (b1, b2) (m1, m2)
    · rw [decide_eq_true hL] at CL'
      have CL : Hid (∀ w, Calls Tryz.prog 51 #[.agg #[.int .i64 b1, .int .i64 b2], .agg #[.int .i64 m1, .int .i64 m2]] w fun e w' => e = .returned (.bool true) ∧ Below w.heap.size w w') := CL'
      obtain rfl : D = false := by
        cases D
        · rfl
        · exact absurd hL (hD.1 rfl).1.2.1
      clear hD hM hL CM' CL'
      go_enter Tryz.func66, Tryz.ntmps66
      go_wp2_with fail
      rw [← hg, ← hW2]
      clear hg hW2
      have HB : Hid (Below W2.heap.size W2 W2.drew) := (Below.refl _ _).drew
      have hS0 := HS.out _ HB.out
      refine wp_region_noPanic ?_
      refine wp_region_held_drew (S := fun w' => (w'.cell? ⟨g, 0, none⟩ = some (.slice (some ⟨b, off, none⟩) n c) ∧ w'.cell? ⟨g, 2, none⟩ = some (.int .i64 b1) ∧ w'.cell? ⟨g, 3, none⟩ = some (.int .i64 b2)) ∧ (w'.cell? ⟨g + 1, 0, none⟩ = some (.int .i64 m1) ∧ w'.cell? ⟨g + 1, 1, none⟩ = some (.int .i64 m2) ∧ w'.cell? ⟨g + 1, 2, none⟩ = some (.int .i64 m3) ∧ w'.cell? ⟨g + 1, 3, none⟩ = some (.int .i64 m4) ∧ w'.cell? ⟨g + 1, 4, none⟩ = some (.string m5) ∧ w'.cell? ⟨g + 1, 5, none⟩ = some (.string m6))) (by kernel_rfl) (by first | exact trivial | assumption | exact ⟨by assumption, by assumption⟩) (fun hHeld => ?_)
      refine tk 0 (v := ?_) rfl rfl ?_ ?_
      rotate_left
      · intro w hSw; (try dsimp only at hSw); go_simp; try with_reducible rfl
      try simp only [Act.put, za, zb, zc]
      refine tk 1 (v := ?_) rfl rfl ?_ ?_
      rotate_left
      · intro w hSw; (try dsimp only at hSw); go_simp; try with_reducible rfl
      try simp only [Act.put, za, zb, zc]
      refine wpAnyH_ready (rs := [2]) (by kernel_rfl) (by simp) ?_
      refine AllReadyH.cons rfl (fun K hK => ?_) AllReadyH.nil
      go_simp
      refine (CM.out _).mono ?_
      rintro e w3 ⟨rfl, hb3⟩
      have HB1 : Hid (Below W2.heap.size W2 w3) := below_step HB.out (Nat.le_refl _) hb3
      clear hb3 HB
      have HB := HB1
      clear HB1
      refine hK.out _ _ (HS.out _ HB.out) (fun hHeld => ?_)
      clear hK K
      refine tk 3 (v := ?_) rfl rfl ?_ ?_
      rotate_left
      · intro w hSw; (try dsimp only at hSw); go_simp; try with_reducible rfl
      try simp only [Act.put, za, zb, zc]
      refine tk 4 (v := ?_) rfl rfl ?_ ?_
      rotate_left
      · intro w hSw; (try dsimp only at hSw); go_simp; try with_reducible rfl
      try simp only [Act.put, za, zb, zc]
      refine tk 5 (v := ?_) rfl rfl ?_ ?_
      rotate_left
      · intro w hSw; (try dsimp only at hSw); go_simp; try with_reducible rfl
      try simp only [Act.put, za, zb, zc]
      refine tk 6 (v := ?_) rfl rfl ?_ ?_
      rotate_left
      · intro w hSw; (try dsimp only at hSw); go_simp; try with_reducible rfl
      try simp only [Act.put, za, zb, zc]
      refine tk 7 (v := ?_) rfl rfl ?_ ?_
      rotate_left
      · intro w hSw; (try dsimp only at hSw); go_simp; try with_reducible rfl
      try simp only [Act.put, za, zb, zc]
      refine tk 8 (v := ?_) rfl rfl ?_ ?_
      rotate_left
      · intro w hSw; (try dsimp only at hSw); go_simp; try with_reducible rfl
      try simp only [Act.put, za, zb, zc]
      refine wpAnyH_ready (rs := [9]) (by kernel_rfl) (by simp) ?_
      refine AllReadyH.cons rfl (fun K hK => ?_) AllReadyH.nil
      go_simp
      refine (CL.out _).mono ?_
      rintro e w3 ⟨rfl, hb3⟩
      have HB1 : Hid (Below W2.heap.size W2 w3) := below_step HB.out (Nat.le_refl _) hb3
      clear hb3 HB
      have HB := HB1
      clear HB1
      refine hK.out _ _ (HS.out _ HB.out) (fun hHeld => ?_)
      clear hK K
      refine tk 10 (v := ?_) rfl rfl ?_ ?_
      rotate_left
      · intro w hSw; (try dsimp only at hSw); go_simp; try with_reducible rfl
      try simp only [Act.put, za, zb, zc]
      refine tk 11 (v := ?_) rfl rfl ?_ ?_
      rotate_left
      · intro w hSw; (try dsimp only at hSw); go_simp; try with_reducible rfl
      try simp only [Act.put, za, zb, zc]
      refine tn 12 rfl rfl ?_
      try simp only [Act.put, za, zb, zc]
      refine tn 13 rfl rfl ?_
      try simp only [Act.put, za, zb, zc]
      refine tn 14 rfl rfl ?_
      try simp only [Act.put, za, zb, zc]
      refine tn 15 rfl rfl ?_
      try simp only [Act.put, za, zb, zc]
      refine tk 16 (v := ?_) rfl rfl ?_ ?_
      rotate_left
      · intro w hSw; (try dsimp only at hSw); go_simp; try with_reducible rfl
      try simp only [Act.put, za, zb, zc]
      refine tk 17 (v := ?_) rfl rfl ?_ ?_
      rotate_left
      · intro w hSw; (try dsimp only at hSw); go_simp; try with_reducible rfl
      try simp only [Act.put, za, zb, zc]
      refine tn 18 rfl rfl ?_
      try simp only [Act.put, za, zb, zc]
      refine tn 19 rfl rfl ?_
      try simp only [Act.put, za, zb, zc]
      refine tn 20 rfl rfl ?_
      try simp only [Act.put, za, zb, zc]
      refine tn 21 rfl rfl ?_
      try simp only [Act.put, za, zb, zc]
      refine tk 22 (v := ?_) rfl rfl ?_ ?_
      rotate_left
      · intro w hSw; (try dsimp only at hSw); go_simp; try with_reducible rfl
      try simp only [Act.put, za, zb, zc]
      refine tk 23 (v := ?_) rfl rfl ?_ ?_
      rotate_left
      · intro w hSw; (try dsimp only at hSw); go_simp; try with_reducible rfl
      try simp only [Act.put, za, zb, zc]
      refine tn 24 rfl rfl ?_
      try simp only [Act.put, za, zb, zc]
      refine tn 25 rfl rfl ?_
      try simp only [Act.put, za, zb, zc]
      refine tn 26 rfl rfl ?_
      try simp only [Act.put, za, zb, zc]
      refine tn 27 rfl rfl ?_
      try simp only [Act.put, za, zb, zc]
      refine tn 28 rfl rfl ?_
      try simp only [Act.put, za, zb, zc]
      refine tn 29 rfl rfl ?_
      try simp only [Act.put, za, zb, zc]
      refine tn 30 rfl rfl ?_
      try simp only [Act.put, za, zb, zc]
      refine tn 31 rfl rfl ?_
      try simp only [Act.put, za, zb, zc]
      refine tn 32 rfl rfl ?_
      try simp only [Act.put, za, zb, zc]
      refine tn 33 rfl rfl ?_
      try simp only [Act.put, za, zb, zc]
      refine tn 34 rfl rfl ?_
      try simp only [Act.put, za, zb, zc]
      refine tn 35 rfl rfl ?_
      try simp only [Act.put, za, zb, zc]
      refine tn 36 rfl rfl ?_
      try simp only [Act.put, za, zb, zc]
      refine tn 37 rfl rfl ?_
      try simp only [Act.put, za, zb, zc]
      refine tn 38 rfl rfl ?_
      try simp only [Act.put, za, zb, zc]
      refine tk 39 (v := ?_) rfl rfl ?_ ?_
      rotate_left
      · intro w hSw; (try dsimp only at hSw); go_simp; try with_reducible rfl
      try simp only [Act.put, za, zb, zc]
      refine wpAnyH_done (by kernel_rfl) (NoPanic.normal ?_) _
      go_wp2
      go_ret
      exact ⟨rfl, below_step HW.out (Nat.le_refl _) HB.out⟩
    · rw [decide_eq_false hL] at CL'
      have CL : Hid (∀ w, Calls Tryz.prog 51 #[.agg #[.int .i64 b1, .int .i64 b2], .agg #[.int .i64 m1, .int .i64 m2]] w fun e w' => e = .returned (.bool false) ∧ Below w.heap.size w w') := CL'
      by_cases hN : NameP m5
      · have CN : Hid (∀ w, Calls Tryz.prog 79 #[.string m5] w fun e w' => e = .returned (.int .i64 0) ∧ Below w.heap.size w w') := fun w => name_on m5 0 (.inl ⟨rfl, hN⟩) w w (Below.refl _ _) hs
        by_cases hV : m6.size ≤ 64
        · have gV : decide ((64 : Int) < (m6.size : Int)) = false := by simp; omega
          have gV2 : decide (64 < m6.size) = false := by simp; omega
          have HQ : Hid (D = true ↔ if m3 = 0 then ParS (m3, m4) else (0 ≤ findI l (m3, m4) ∧ underF l (m1, m2) (l.length + 1) (m3, m4) = false)) := ⟨fun h => (hD.1 h).2, fun h => hD.2 ⟨⟨hM, hL, hN, hV⟩, h⟩⟩
          clear hD hM hL hN hV CM' CL'
          go_enter Tryz.func66, Tryz.ntmps66
          go_wp2_with fail
          rw [← hg, ← hW2]
          clear hg hW2
          have HB : Hid (Below W2.heap.size W2 W2.drew) := (Below.refl _ _).drew
          have hS0 := HS.out _ HB.out
          refine wp_region_noPanic ?_
          refine wp_region_held_drew (S := fun w' => (w'.cell? ⟨g, 0, none⟩ = some (.slice (some ⟨b, off, none⟩) n c) ∧ w'.cell? ⟨g, 2, none⟩ = some (.int .i64 b1) ∧ w'.cell? ⟨g, 3, none⟩ = some (.int .i64 b2)) ∧ (w'.cell? ⟨g + 1, 0, none⟩ = some (.int .i64 m1) ∧ w'.cell? ⟨g + 1, 1, none⟩ = some (.int .i64 m2) ∧ w'.cell? ⟨g + 1, 2, none⟩ = some (.int .i64 m3) ∧ w'.cell? ⟨g + 1, 3, none⟩ = some (.int .i64 m4) ∧ w'.cell? ⟨g + 1, 4, none⟩ = some (.string m5) ∧ w'.cell? ⟨g + 1, 5, none⟩ = some (.string m6))) (by kernel_rfl) (by first | exact trivial | assumption | exact ⟨by assumption, by assumption⟩) (fun hHeld => ?_)
          refine tk 0 (v := ?_) rfl rfl ?_ ?_
          rotate_left
          · intro w hSw; (try dsimp only at hSw); go_simp; try with_reducible rfl
          try simp only [Act.put, za, zb, zc]
          refine tk 1 (v := ?_) rfl rfl ?_ ?_
          rotate_left
          · intro w hSw; (try dsimp only at hSw); go_simp; try with_reducible rfl
          try simp only [Act.put, za, zb, zc]
          refine wpAnyH_ready (rs := [2]) (by kernel_rfl) (by simp) ?_
          refine AllReadyH.cons rfl (fun K hK => ?_) AllReadyH.nil
          go_simp
          refine (CM.out _).mono ?_
          rintro e w3 ⟨rfl, hb3⟩
          have HB1 : Hid (Below W2.heap.size W2 w3) := below_step HB.out (Nat.le_refl _) hb3
          clear hb3 HB
          have HB := HB1
          clear HB1
          refine hK.out _ _ (HS.out _ HB.out) (fun hHeld => ?_)
          clear hK K
          refine tk 3 (v := ?_) rfl rfl ?_ ?_
          rotate_left
          · intro w hSw; (try dsimp only at hSw); go_simp; try with_reducible rfl
          try simp only [Act.put, za, zb, zc]
          refine tk 4 (v := ?_) rfl rfl ?_ ?_
          rotate_left
          · intro w hSw; (try dsimp only at hSw); go_simp; try with_reducible rfl
          try simp only [Act.put, za, zb, zc]
          refine tk 5 (v := ?_) rfl rfl ?_ ?_
          rotate_left
          · intro w hSw; (try dsimp only at hSw); go_simp; try with_reducible rfl
          try simp only [Act.put, za, zb, zc]
          refine tk 6 (v := ?_) rfl rfl ?_ ?_
          rotate_left
          · intro w hSw; (try dsimp only at hSw); go_simp; try with_reducible rfl
          try simp only [Act.put, za, zb, zc]
          refine tk 7 (v := ?_) rfl rfl ?_ ?_
          rotate_left
          · intro w hSw; (try dsimp only at hSw); go_simp; try with_reducible rfl
          try simp only [Act.put, za, zb, zc]
          refine tk 8 (v := ?_) rfl rfl ?_ ?_
          rotate_left
          · intro w hSw; (try dsimp only at hSw); go_simp; try with_reducible rfl
          try simp only [Act.put, za, zb, zc]
          refine wpAnyH_ready (rs := [9]) (by kernel_rfl) (by simp) ?_
          refine AllReadyH.cons rfl (fun K hK => ?_) AllReadyH.nil
          go_simp
          refine (CL.out _).mono ?_
          rintro e w3 ⟨rfl, hb3⟩
          have HB1 : Hid (Below W2.heap.size W2 w3) := below_step HB.out (Nat.le_refl _) hb3
          clear hb3 HB
          have HB := HB1
          clear HB1
          refine hK.out _ _ (HS.out _ HB.out) (fun hHeld => ?_)
          clear hK K
          refine tk 10 (v := ?_) rfl rfl ?_ ?_
          rotate_left
          · intro w hSw; (try dsimp only at hSw); go_simp; try with_reducible rfl
          try simp only [Act.put, za, zb, zc]
          refine tk 11 (v := ?_) rfl rfl ?_ ?_
          rotate_left
          · intro w hSw; (try dsimp only at hSw); go_simp; try with_reducible rfl
          try simp only [Act.put, za, zb, zc]
          refine tk 12 (v := ?_) rfl rfl ?_ ?_
          rotate_left
          · intro w hSw; (try dsimp only at hSw); go_simp; try with_reducible rfl
          try simp only [Act.put, za, zb, zc]
          refine tk 13 (v := ?_) rfl rfl ?_ ?_
          rotate_left
          · intro w hSw; (try dsimp only at hSw); go_simp; try with_reducible rfl
          try simp only [Act.put, za, zb, zc]
          refine wpAnyH_ready (rs := [14]) (by kernel_rfl) (by simp) ?_
          refine AllReadyH.cons rfl (fun K hK => ?_) AllReadyH.nil
          go_simp
          refine (CN.out _).mono ?_
          rintro e w3 ⟨rfl, hb3⟩
          have HB1 : Hid (Below W2.heap.size W2 w3) := below_step HB.out (Nat.le_refl _) hb3
          clear hb3 HB
          have HB := HB1
          clear HB1
          refine hK.out _ _ (HS.out _ HB.out) (fun hHeld => ?_)
          clear hK K
          refine tk 15 (v := ?_) rfl rfl ?_ ?_
          rotate_left
          · intro w hSw; (try dsimp only at hSw); go_simp; try with_reducible rfl
          try simp only [Act.put, za, zb, zc]
          refine tk 16 (v := ?_) rfl rfl ?_ ?_
          rotate_left
          · intro w hSw; (try dsimp only at hSw); go_simp; try with_reducible rfl
          try simp only [Act.put, za, zb, zc]
          refine tk 17 (v := ?_) rfl rfl ?_ ?_
          rotate_left
          · intro w hSw; (try dsimp only at hSw); go_simp; try with_reducible rfl
          try simp only [Act.put, za, zb, zc]
          refine tk 18 (v := ?_) rfl rfl ?_ ?_
          rotate_left
          · intro w hSw; (try dsimp only at hSw); go_simp; try with_reducible rfl
          try simp only [Act.put, za, zb, zc]
          refine tk 19 (v := ?_) rfl rfl ?_ ?_
          rotate_left
          · intro w hSw; (try dsimp only at hSw); go_simp; try with_reducible rfl
          try simp only [Act.put, za, zb, zc]
          refine tk 20 (v := ?_) rfl rfl ?_ ?_
          rotate_left
          · intro w hSw; (try dsimp only at hSw); go_simp; try with_reducible rfl
          try simp only [Act.put, za, zb, zc]
          refine tk 21 (v := ?_) rfl rfl ?_ ?_
          rotate_left
          · intro w hSw; (try dsimp only at hSw); go_simp; try with_reducible rfl
          try simp only [Act.put, za, zb, zc]
          refine tk 22 (v := ?_) rfl rfl ?_ ?_
          rotate_left
          · intro w hSw; (try dsimp only at hSw); go_simp; try with_reducible rfl
          try simp only [Act.put, za, zb, zc]
          refine tk 23 (v := ?_) rfl rfl ?_ ?_
          rotate_left
          · intro w hSw; (try dsimp only at hSw); go_simp; try with_reducible rfl
          try simp only [Act.put, za, zb, zc]
          refine tk 24 (v := ?_) rfl rfl ?_ ?_
          rotate_left
          · intro w hSw; (try dsimp only at hSw); go_simp; try with_reducible rfl
          try simp only [Act.put, za, zb, zc]
          refine tk 25 (v := ?_) rfl rfl ?_ ?_
          rotate_left
          · intro w hSw; (try dsimp only at hSw); go_simp; try with_reducible rfl
          try simp only [Act.put, za, zb, zc]
          refine tk 26 (v := ?_) rfl rfl ?_ ?_
          rotate_left
          · intro w hSw; (try dsimp only at hSw); go_simp; try with_reducible rfl
          try simp only [Act.put, za, zb, zc]
          refine tn 27 rfl rfl ?_
          try simp only [Act.put, za, zb, zc]
          refine tn 28 rfl rfl ?_
          try simp only [Act.put, za, zb, zc]
          refine tn 29 rfl rfl ?_
          try simp only [Act.put, za, zb, zc]
          refine tn 30 rfl rfl ?_
          try simp only [Act.put, za, zb, zc]
          refine tn 31 rfl rfl ?_
          try simp only [Act.put, za, zb, zc]
          refine tn 32 rfl rfl ?_
          try simp only [Act.put, za, zb, zc]
          refine tn 33 rfl rfl ?_
          try simp only [Act.put, za, zb, zc]
          refine tn 34 rfl rfl ?_
          try simp only [Act.put, za, zb, zc]
          refine tn 35 rfl rfl ?_
          try simp only [Act.put, za, zb, zc]
          refine tn 36 rfl rfl ?_
          try simp only [Act.put, za, zb, zc]
          refine tn 37 rfl rfl ?_
          try simp only [Act.put, za, zb, zc]
          refine tk 38 (v := ?_) rfl rfl ?_ ?_
          rotate_left
          · intro w hSw; (try dsimp only at hSw); go_simp; try with_reducible rfl
          try simp only [Act.put, za, zb, zc]
          refine tk 39 (v := ?_) rfl rfl ?_ ?_
          rotate_left
          · intro w hSw; (try dsimp only at hSw); go_simp; try with_reducible rfl
          try simp only [Act.put, za, zb, zc]
          refine wpAnyH_done (by kernel_rfl) (NoPanic.normal ?_) _
          have hc := HS.out _ HB.out
          obtain ⟨⟨y0, _, _⟩, z0, z1, z2, z3, z4, z5⟩ := hc
          try clear hc
          by_cases hm3 : m3 = 0
          · subst hm3
            have CR : Hid (∀ w, Calls Tryz.prog 80 #[.agg #[.int .i64 0, .int .i64 m4]] w fun e w' => e = .returned (.bool D) ∧ Below w.heap.size w w') := fun w => by
              have := rparent_any (0, m4) w
              rw [show decide (ParS (0, m4)) = D by
                have hq := HQ.out
                rw [if_pos rfl] at hq
                cases D
                · exact decide_eq_false (fun h => by have := hq.2 h; cases this)
                · exact decide_eq_true (hq.1 rfl)] at this
              exact this
            clear HQ
            go_wp2_with fail
            refine (CR.out _).mono ?_
            rintro e w4 ⟨rfl, hb4⟩
            have B4 : Hid (Below w.heap.size w w4) := below_step (below_step HW.out (Nat.le_refl _) HB.out) (Nat.le_refl _) hb4
            clear hb4
            go_wp2
            go_ret
            exact ⟨rfl, B4.out⟩
          · have gm3 : (m3 == 0) = false := by rw [beq_eq_false_iff_ne]; exact hm3
            have hq := HQ.out
            rw [if_neg hm3] at hq
            have HN3 := HNA.out _ HB.out
            rcases findI_lt l (m3, m4) with hr | ⟨j, hr, hj, _⟩
            · obtain rfl : D = false := by
                cases D
                · rfl
                · have := (hq.1 rfl).1; omega
              have CF : Hid (Calls Tryz.prog 81 #[.slice (some ⟨b, off, none⟩) n c, .agg #[.int .i64 m3, .int .i64 m4]] w3 fun e w' => e = .returned (.int .i64 (-1)) ∧ Below w3.heap.size w3 w') := by
                have := rfind_any l (m3, m4) _ (findI_E l _) (some ⟨b, off, none⟩) n c w3 (by omega) HN3
                rw [hr] at this; exact this
              clear hq HQ hr HN3
              go_wp2_with fail
              refine Calls.mono CF.out ?_
              rintro e w4 ⟨rfl, hb4⟩
              have B4 : Hid (Below w.heap.size w w4) := below_step (below_step HW.out (Nat.le_refl _) HB.out) (Nat.le_refl _) hb4
              clear hb4
              go_wp2
              go_ret
              exact ⟨rfl, B4.out⟩
            · have CF : Hid (Calls Tryz.prog 81 #[.slice (some ⟨b, off, none⟩) n c, .agg #[.int .i64 m3, .int .i64 m4]] w3 fun e w' => e = .returned (.int .i64 (j : Int)) ∧ Below w3.heap.size w3 w') := by
                have := rfind_any l (m3, m4) _ (findI_E l _) (some ⟨b, off, none⟩) n c w3 (by omega) HN3
                rw [hr] at this; exact this
              have j3 : decide ((0 : Int) ≤ (j : Int)) = true := by simp
              have HU : Hid (underF l (m1, m2) (n + 1) (m3, m4) = !D) := by
                show _ = _
                rw [← HLN.out]
                cases D
                · cases hu : underF l (m1, m2) (l.length + 1) (m3, m4) with
                  | true => rfl
                  | false =>
                    have := hq.2 ⟨by omega, hu⟩
                    cases this
                · exact (hq.1 rfl).2
              have HNB := fun w' hb => runder_any l (m3, m4) (m1, m2) (some ⟨b, off, none⟩) n c w' (by omega) (HNA.out w' hb)
              rw [HU.out] at HNB
              have CU : Hid (∀ w', Below W2.heap.size W2 w' → Calls Tryz.prog 82 #[.slice (some ⟨b, off, none⟩) n c, .agg #[.int .i64 m3, .int .i64 m4], .agg #[.int .i64 m1, .int .i64 m2]] w' fun e w'' => e = .returned (.bool (!D)) ∧ Below w'.heap.size w' w'') := HNB
              clear hq HQ hr HN3 HU HNB
              go_wp2_with fail
              refine Calls.mono CF.out ?_
              rintro e w4 ⟨rfl, hb4⟩
              have HB4 : Hid (Below W2.heap.size W2 w4) := below_step HB.out (Nat.le_refl _) hb4
              clear hb4 y0 z0 z1 z2 z3 z4 z5 CF HB
              have HB := HB4
              clear HB4
              have hc := HS.out _ HB.out
              obtain ⟨⟨y0, _, _⟩, z0, z1, z2, z3, z4, z5⟩ := hc
              try clear hc
              go_wp2_with fail
              refine (CU.out _ HB.out).mono ?_
              rintro e w5 ⟨rfl, hb5⟩
              have B5 : Hid (Below w.heap.size w w5) := below_step (below_step HW.out (Nat.le_refl _) HB.out) (Nat.le_refl _) hb5
              clear hb5
              cases D
              · go_wp2
                go_ret
                exact ⟨rfl, B5.out⟩
              · go_wp2
                go_ret
                exact ⟨rfl, B5.out⟩
        · have gV : decide ((64 : Int) < (m6.size : Int)) = true := by simp; omega
          have gV2 : decide (64 < m6.size) = true := by simp; omega
          obtain rfl : D = false := by
            cases D
            · rfl
            · exact absurd (hD.1 rfl).1.2.2.2 hV
          clear hD hM hL hN hV CM' CL'
          go_enter Tryz.func66, Tryz.ntmps66
          go_wp2_with fail
          rw [← hg, ← hW2]
          clear hg hW2
          have HB : Hid (Below W2.heap.size W2 W2.drew) := (Below.refl _ _).drew
          have hS0 := HS.out _ HB.out
          refine wp_region_noPanic ?_
          refine wp_region_held_drew (S := fun w' => (w'.cell? ⟨g, 0, none⟩ = some (.slice (some ⟨b, off, none⟩) n c) ∧ w'.cell? ⟨g, 2, none⟩ = some (.int .i64 b1) ∧ w'.cell? ⟨g, 3, none⟩ = some (.int .i64 b2)) ∧ (w'.cell? ⟨g + 1, 0, none⟩ = some (.int .i64 m1) ∧ w'.cell? ⟨g + 1, 1, none⟩ = some (.int .i64 m2) ∧ w'.cell? ⟨g + 1, 2, none⟩ = some (.int .i64 m3) ∧ w'.cell? ⟨g + 1, 3, none⟩ = some (.int .i64 m4) ∧ w'.cell? ⟨g + 1, 4, none⟩ = some (.string m5) ∧ w'.cell? ⟨g + 1, 5, none⟩ = some (.string m6))) (by kernel_rfl) (by first | exact trivial | assumption | exact ⟨by assumption, by assumption⟩) (fun hHeld => ?_)
          refine tk 0 (v := ?_) rfl rfl ?_ ?_
          rotate_left
          · intro w hSw; (try dsimp only at hSw); go_simp; try with_reducible rfl
          try simp only [Act.put, za, zb, zc]
          refine tk 1 (v := ?_) rfl rfl ?_ ?_
          rotate_left
          · intro w hSw; (try dsimp only at hSw); go_simp; try with_reducible rfl
          try simp only [Act.put, za, zb, zc]
          refine wpAnyH_ready (rs := [2]) (by kernel_rfl) (by simp) ?_
          refine AllReadyH.cons rfl (fun K hK => ?_) AllReadyH.nil
          go_simp
          refine (CM.out _).mono ?_
          rintro e w3 ⟨rfl, hb3⟩
          have HB1 : Hid (Below W2.heap.size W2 w3) := below_step HB.out (Nat.le_refl _) hb3
          clear hb3 HB
          have HB := HB1
          clear HB1
          refine hK.out _ _ (HS.out _ HB.out) (fun hHeld => ?_)
          clear hK K
          refine tk 3 (v := ?_) rfl rfl ?_ ?_
          rotate_left
          · intro w hSw; (try dsimp only at hSw); go_simp; try with_reducible rfl
          try simp only [Act.put, za, zb, zc]
          refine tk 4 (v := ?_) rfl rfl ?_ ?_
          rotate_left
          · intro w hSw; (try dsimp only at hSw); go_simp; try with_reducible rfl
          try simp only [Act.put, za, zb, zc]
          refine tk 5 (v := ?_) rfl rfl ?_ ?_
          rotate_left
          · intro w hSw; (try dsimp only at hSw); go_simp; try with_reducible rfl
          try simp only [Act.put, za, zb, zc]
          refine tk 6 (v := ?_) rfl rfl ?_ ?_
          rotate_left
          · intro w hSw; (try dsimp only at hSw); go_simp; try with_reducible rfl
          try simp only [Act.put, za, zb, zc]
          refine tk 7 (v := ?_) rfl rfl ?_ ?_
          rotate_left
          · intro w hSw; (try dsimp only at hSw); go_simp; try with_reducible rfl
          try simp only [Act.put, za, zb, zc]
          refine tk 8 (v := ?_) rfl rfl ?_ ?_
          rotate_left
          · intro w hSw; (try dsimp only at hSw); go_simp; try with_reducible rfl
          try simp only [Act.put, za, zb, zc]
          refine wpAnyH_ready (rs := [9]) (by kernel_rfl) (by simp) ?_
          refine AllReadyH.cons rfl (fun K hK => ?_) AllReadyH.nil
          go_simp
          refine (CL.out _).mono ?_
          rintro e w3 ⟨rfl, hb3⟩
          have HB1 : Hid (Below W2.heap.size W2 w3) := below_step HB.out (Nat.le_refl _) hb3
          clear hb3 HB
          have HB := HB1
          clear HB1
          refine hK.out _ _ (HS.out _ HB.out) (fun hHeld => ?_)
          clear hK K
          refine tk 10 (v := ?_) rfl rfl ?_ ?_
          rotate_left
          · intro w hSw; (try dsimp only at hSw); go_simp; try with_reducible rfl
          try simp only [Act.put, za, zb, zc]
          refine tk 11 (v := ?_) rfl rfl ?_ ?_
          rotate_left
          · intro w hSw; (try dsimp only at hSw); go_simp; try with_reducible rfl
          try simp only [Act.put, za, zb, zc]
          refine tk 12 (v := ?_) rfl rfl ?_ ?_
          rotate_left
          · intro w hSw; (try dsimp only at hSw); go_simp; try with_reducible rfl
          try simp only [Act.put, za, zb, zc]
          refine tk 13 (v := ?_) rfl rfl ?_ ?_
          rotate_left
          · intro w hSw; (try dsimp only at hSw); go_simp; try with_reducible rfl
          try simp only [Act.put, za, zb, zc]
          refine wpAnyH_ready (rs := [14]) (by kernel_rfl) (by simp) ?_
          refine AllReadyH.cons rfl (fun K hK => ?_) AllReadyH.nil
          go_simp
          refine (CN.out _).mono ?_
          rintro e w3 ⟨rfl, hb3⟩
          have HB1 : Hid (Below W2.heap.size W2 w3) := below_step HB.out (Nat.le_refl _) hb3
          clear hb3 HB
          have HB := HB1
          clear HB1
          refine hK.out _ _ (HS.out _ HB.out) (fun hHeld => ?_)
          clear hK K
          refine tk 15 (v := ?_) rfl rfl ?_ ?_
          rotate_left
          · intro w hSw; (try dsimp only at hSw); go_simp; try with_reducible rfl
          try simp only [Act.put, za, zb, zc]
          refine tk 16 (v := ?_) rfl rfl ?_ ?_
          rotate_left
          · intro w hSw; (try dsimp only at hSw); go_simp; try with_reducible rfl
          try simp only [Act.put, za, zb, zc]
          refine tk 17 (v := ?_) rfl rfl ?_ ?_
          rotate_left
          · intro w hSw; (try dsimp only at hSw); go_simp; try with_reducible rfl
          try simp only [Act.put, za, zb, zc]
          refine tk 18 (v := ?_) rfl rfl ?_ ?_
          rotate_left
          · intro w hSw; (try dsimp only at hSw); go_simp; try with_reducible rfl
          try simp only [Act.put, za, zb, zc]
          refine tk 19 (v := ?_) rfl rfl ?_ ?_
          rotate_left
          · intro w hSw; (try dsimp only at hSw); go_simp; try with_reducible rfl
          try simp only [Act.put, za, zb, zc]
          refine tk 20 (v := ?_) rfl rfl ?_ ?_
          rotate_left
          · intro w hSw; (try dsimp only at hSw); go_simp; try with_reducible rfl
          try simp only [Act.put, za, zb, zc]
          refine tk 21 (v := ?_) rfl rfl ?_ ?_
          rotate_left
          · intro w hSw; (try dsimp only at hSw); go_simp; try with_reducible rfl
          try simp only [Act.put, za, zb, zc]
          refine tk 22 (v := ?_) rfl rfl ?_ ?_
          rotate_left
          · intro w hSw; (try dsimp only at hSw); go_simp; try with_reducible rfl
          try simp only [Act.put, za, zb, zc]
          refine tk 23 (v := ?_) rfl rfl ?_ ?_
          rotate_left
          · intro w hSw; (try dsimp only at hSw); go_simp; try with_reducible rfl
          try simp only [Act.put, za, zb, zc]
          refine tn 24 rfl rfl ?_
          try simp only [Act.put, za, zb, zc]
          refine tn 25 rfl rfl ?_
          try simp only [Act.put, za, zb, zc]
          refine tn 26 rfl rfl ?_
          try simp only [Act.put, za, zb, zc]
          refine tn 27 rfl rfl ?_
          try simp only [Act.put, za, zb, zc]
          refine tn 28 rfl rfl ?_
          try simp only [Act.put, za, zb, zc]
          refine tn 29 rfl rfl ?_
          try simp only [Act.put, za, zb, zc]
          refine tn 30 rfl rfl ?_
          try simp only [Act.put, za, zb, zc]
          refine tn 31 rfl rfl ?_
          try simp only [Act.put, za, zb, zc]
          refine tn 32 rfl rfl ?_
          try simp only [Act.put, za, zb, zc]
          refine tn 33 rfl rfl ?_
          try simp only [Act.put, za, zb, zc]
          refine tn 34 rfl rfl ?_
          try simp only [Act.put, za, zb, zc]
          refine tn 35 rfl rfl ?_
          try simp only [Act.put, za, zb, zc]
          refine tn 36 rfl rfl ?_
          try simp only [Act.put, za, zb, zc]
          refine tn 37 rfl rfl ?_
          try simp only [Act.put, za, zb, zc]
          refine tn 38 rfl rfl ?_
          try simp only [Act.put, za, zb, zc]
          refine tk 39 (v := ?_) rfl rfl ?_ ?_
          rotate_left
          · intro w hSw; (try dsimp only at hSw); go_simp; try with_reducible rfl
          try simp only [Act.put, za, zb, zc]
          refine wpAnyH_done (by kernel_rfl) (NoPanic.normal ?_) _
          go_wp2
          go_ret
          exact ⟨rfl, below_step HW.out (Nat.le_refl _) HB.out⟩
      · have CN : Hid (∀ w, Calls Tryz.prog 79 #[.string m5] w fun e w' => e = .returned (.int .i64 80) ∧ Below w.heap.size w w') := fun w => name_on m5 80 (.inr ⟨rfl, hN⟩) w w (Below.refl _ _) hs
        obtain rfl : D = false := by
          cases D
          · rfl
          · exact absurd (hD.1 rfl).1.2.2.1 hN
        clear hD hM hL hN CM' CL'
        go_enter Tryz.func66, Tryz.ntmps66
        go_wp2_with fail
        rw [← hg, ← hW2]
        clear hg hW2
        have HB : Hid (Below W2.heap.size W2 W2.drew) := (Below.refl _ _).drew
        have hS0 := HS.out _ HB.out
        refine wp_region_noPanic ?_
        refine wp_region_held_drew (S := fun w' => (w'.cell? ⟨g, 0, none⟩ = some (.slice (some ⟨b, off, none⟩) n c) ∧ w'.cell? ⟨g, 2, none⟩ = some (.int .i64 b1) ∧ w'.cell? ⟨g, 3, none⟩ = some (.int .i64 b2)) ∧ (w'.cell? ⟨g + 1, 0, none⟩ = some (.int .i64 m1) ∧ w'.cell? ⟨g + 1, 1, none⟩ = some (.int .i64 m2) ∧ w'.cell? ⟨g + 1, 2, none⟩ = some (.int .i64 m3) ∧ w'.cell? ⟨g + 1, 3, none⟩ = some (.int .i64 m4) ∧ w'.cell? ⟨g + 1, 4, none⟩ = some (.string m5) ∧ w'.cell? ⟨g + 1, 5, none⟩ = some (.string m6))) (by kernel_rfl) (by first | exact trivial | assumption | exact ⟨by assumption, by assumption⟩) (fun hHeld => ?_)
        refine tk 0 (v := ?_) rfl rfl ?_ ?_
        rotate_left
        · intro w hSw; (try dsimp only at hSw); go_simp; try with_reducible rfl
        try simp only [Act.put, za, zb, zc]
        refine tk 1 (v := ?_) rfl rfl ?_ ?_
        rotate_left
        · intro w hSw; (try dsimp only at hSw); go_simp; try with_reducible rfl
        try simp only [Act.put, za, zb, zc]
        refine wpAnyH_ready (rs := [2]) (by kernel_rfl) (by simp) ?_
        refine AllReadyH.cons rfl (fun K hK => ?_) AllReadyH.nil
        go_simp
        refine (CM.out _).mono ?_
        rintro e w3 ⟨rfl, hb3⟩
        have HB1 : Hid (Below W2.heap.size W2 w3) := below_step HB.out (Nat.le_refl _) hb3
        clear hb3 HB
        have HB := HB1
        clear HB1
        refine hK.out _ _ (HS.out _ HB.out) (fun hHeld => ?_)
        clear hK K
        refine tk 3 (v := ?_) rfl rfl ?_ ?_
        rotate_left
        · intro w hSw; (try dsimp only at hSw); go_simp; try with_reducible rfl
        try simp only [Act.put, za, zb, zc]
        refine tk 4 (v := ?_) rfl rfl ?_ ?_
        rotate_left
        · intro w hSw; (try dsimp only at hSw); go_simp; try with_reducible rfl
        try simp only [Act.put, za, zb, zc]
        refine tk 5 (v := ?_) rfl rfl ?_ ?_
        rotate_left
        · intro w hSw; (try dsimp only at hSw); go_simp; try with_reducible rfl
        try simp only [Act.put, za, zb, zc]
        refine tk 6 (v := ?_) rfl rfl ?_ ?_
        rotate_left
        · intro w hSw; (try dsimp only at hSw); go_simp; try with_reducible rfl
        try simp only [Act.put, za, zb, zc]
        refine tk 7 (v := ?_) rfl rfl ?_ ?_
        rotate_left
        · intro w hSw; (try dsimp only at hSw); go_simp; try with_reducible rfl
        try simp only [Act.put, za, zb, zc]
        refine tk 8 (v := ?_) rfl rfl ?_ ?_
        rotate_left
        · intro w hSw; (try dsimp only at hSw); go_simp; try with_reducible rfl
        try simp only [Act.put, za, zb, zc]
        refine wpAnyH_ready (rs := [9]) (by kernel_rfl) (by simp) ?_
        refine AllReadyH.cons rfl (fun K hK => ?_) AllReadyH.nil
        go_simp
        refine (CL.out _).mono ?_
        rintro e w3 ⟨rfl, hb3⟩
        have HB1 : Hid (Below W2.heap.size W2 w3) := below_step HB.out (Nat.le_refl _) hb3
        clear hb3 HB
        have HB := HB1
        clear HB1
        refine hK.out _ _ (HS.out _ HB.out) (fun hHeld => ?_)
        clear hK K
        refine tk 10 (v := ?_) rfl rfl ?_ ?_
        rotate_left
        · intro w hSw; (try dsimp only at hSw); go_simp; try with_reducible rfl
        try simp only [Act.put, za, zb, zc]
        refine tk 11 (v := ?_) rfl rfl ?_ ?_
        rotate_left
        · intro w hSw; (try dsimp only at hSw); go_simp; try with_reducible rfl
        try simp only [Act.put, za, zb, zc]
        refine tk 12 (v := ?_) rfl rfl ?_ ?_
        rotate_left
        · intro w hSw; (try dsimp only at hSw); go_simp; try with_reducible rfl
        try simp only [Act.put, za, zb, zc]
        refine tk 13 (v := ?_) rfl rfl ?_ ?_
        rotate_left
        · intro w hSw; (try dsimp only at hSw); go_simp; try with_reducible rfl
        try simp only [Act.put, za, zb, zc]
        refine wpAnyH_ready (rs := [14]) (by kernel_rfl) (by simp) ?_
        refine AllReadyH.cons rfl (fun K hK => ?_) AllReadyH.nil
        go_simp
        refine (CN.out _).mono ?_
        rintro e w3 ⟨rfl, hb3⟩
        have HB1 : Hid (Below W2.heap.size W2 w3) := below_step HB.out (Nat.le_refl _) hb3
        clear hb3 HB
        have HB := HB1
        clear HB1
        refine hK.out _ _ (HS.out _ HB.out) (fun hHeld => ?_)
        clear hK K
        refine tk 15 (v := ?_) rfl rfl ?_ ?_
        rotate_left
        · intro w hSw; (try dsimp only at hSw); go_simp; try with_reducible rfl
        try simp only [Act.put, za, zb, zc]
        refine tk 16 (v := ?_) rfl rfl ?_ ?_
        rotate_left
        · intro w hSw; (try dsimp only at hSw); go_simp; try with_reducible rfl
        try simp only [Act.put, za, zb, zc]
        refine tk 17 (v := ?_) rfl rfl ?_ ?_
        rotate_left
        · intro w hSw; (try dsimp only at hSw); go_simp; try with_reducible rfl
        try simp only [Act.put, za, zb, zc]
        refine tn 18 rfl rfl ?_
        try simp only [Act.put, za, zb, zc]
        refine tn 19 rfl rfl ?_
        try simp only [Act.put, za, zb, zc]
        refine tn 20 rfl rfl ?_
        try simp only [Act.put, za, zb, zc]
        refine tn 21 rfl rfl ?_
        try simp only [Act.put, za, zb, zc]
        refine tk 22 (v := ?_) rfl rfl ?_ ?_
        rotate_left
        · intro w hSw; (try dsimp only at hSw); go_simp; try with_reducible rfl
        try simp only [Act.put, za, zb, zc]
        refine tk 23 (v := ?_) rfl rfl ?_ ?_
        rotate_left
        · intro w hSw; (try dsimp only at hSw); go_simp; try with_reducible rfl
        try simp only [Act.put, za, zb, zc]
        refine tn 24 rfl rfl ?_
        try simp only [Act.put, za, zb, zc]
        refine tn 25 rfl rfl ?_
        try simp only [Act.put, za, zb, zc]
        refine tn 26 rfl rfl ?_
        try simp only [Act.put, za, zb, zc]
        refine tn 27 rfl rfl ?_
        try simp only [Act.put, za, zb, zc]
        refine tn 28 rfl rfl ?_
        try simp only [Act.put, za, zb, zc]
        refine tn 29 rfl rfl ?_
        try simp only [Act.put, za, zb, zc]
        refine tn 30 rfl rfl ?_
        try simp only [Act.put, za, zb, zc]
        refine tn 31 rfl rfl ?_
        try simp only [Act.put, za, zb, zc]
        refine tn 32 rfl rfl ?_
        try simp only [Act.put, za, zb, zc]
        refine tn 33 rfl rfl ?_
        try simp only [Act.put, za, zb, zc]
        refine tn 34 rfl rfl ?_
        try simp only [Act.put, za, zb, zc]
        refine tn 35 rfl rfl ?_
        try simp only [Act.put, za, zb, zc]
        refine tn 36 rfl rfl ?_
        try simp only [Act.put, za, zb, zc]
        refine tn 37 rfl rfl ?_
        try simp only [Act.put, za, zb, zc]
        refine tn 38 rfl rfl ?_
        try simp only [Act.put, za, zb, zc]
        refine tk 39 (v := ?_) rfl rfl ?_ ?_
        rotate_left
        · intro w hSw; (try dsimp only at hSw); go_simp; try with_reducible rfl
        try simp only [Act.put, za, zb, zc]
        refine wpAnyH_done (by kernel_rfl) (NoPanic.normal ?_) _
        go_wp2
        go_ret
        exact ⟨rfl, below_step HW.out (Nat.le_refl _) HB.out⟩
  · rw [decide_eq_false hM] at CM'
    have CM : Hid (∀ w, Calls Tryz.prog 65 #[.agg #[.int .i64 m1, .int .i64 m2]] w fun e w' => e = .returned (.bool false) ∧ Below w.heap.size w w') := CM'
    obtain rfl : D = false := by
      cases D
      · rfl
      · exact absurd (hD.1 rfl).1.1 hM
    clear hD hM CM' CL'
    go_enter Tryz.func66, Tryz.ntmps66
    go_wp2_with fail
    rw [← hg, ← hW2]
    clear hg hW2
    have HB : Hid (Below W2.heap.size W2 W2.drew) := (Below.refl _ _).drew
    have hS0 := HS.out _ HB.out
    refine wp_region_noPanic ?_
    refine wp_region_held_drew (S := fun w' => (w'.cell? ⟨g, 0, none⟩ = some (.slice (some ⟨b, off, none⟩) n c) ∧ w'.cell? ⟨g, 2, none⟩ = some (.int .i64 b1) ∧ w'.cell? ⟨g, 3, none⟩ = some (.int .i64 b2)) ∧ (w'.cell? ⟨g + 1, 0, none⟩ = some (.int .i64 m1) ∧ w'.cell? ⟨g + 1, 1, none⟩ = some (.int .i64 m2) ∧ w'.cell? ⟨g + 1, 2, none⟩ = some (.int .i64 m3) ∧ w'.cell? ⟨g + 1, 3, none⟩ = some (.int .i64 m4) ∧ w'.cell? ⟨g + 1, 4, none⟩ = some (.string m5) ∧ w'.cell? ⟨g + 1, 5, none⟩ = some (.string m6))) (by kernel_rfl) (by first | exact trivial | assumption | exact ⟨by assumption, by assumption⟩) (fun hHeld => ?_)
    refine tk 0 (v := ?_) rfl rfl ?_ ?_
    rotate_left
    · intro w hSw; (try dsimp only at hSw); go_simp; try with_reducible rfl
    try simp only [Act.put, za, zb, zc]
    refine tk 1 (v := ?_) rfl rfl ?_ ?_
    rotate_left
    · intro w hSw; (try dsimp only at hSw); go_simp; try with_reducible rfl
    try simp only [Act.put, za, zb, zc]
    refine wpAnyH_ready (rs := [2]) (by kernel_rfl) (by simp) ?_
    refine AllReadyH.cons rfl (fun K hK => ?_) AllReadyH.nil
    go_simp
    refine (CM.out _).mono ?_
    rintro e w3 ⟨rfl, hb3⟩
    have HB1 : Hid (Below W2.heap.size W2 w3) := below_step HB.out (Nat.le_refl _) hb3
    clear hb3 HB
    have HB := HB1
    clear HB1
    refine hK.out _ _ (HS.out _ HB.out) (fun hHeld => ?_)
    clear hK K
    refine tk 3 (v := ?_) rfl rfl ?_ ?_
    rotate_left
    · intro w hSw; (try dsimp only at hSw); go_simp; try with_reducible rfl
    try simp only [Act.put, za, zb, zc]
    refine tk 4 (v := ?_) rfl rfl ?_ ?_
    rotate_left
    · intro w hSw; (try dsimp only at hSw); go_simp; try with_reducible rfl
    try simp only [Act.put, za, zb, zc]
    refine tn 5 rfl rfl ?_
    try simp only [Act.put, za, zb, zc]
    refine tn 6 rfl rfl ?_
    try simp only [Act.put, za, zb, zc]
    refine tn 7 rfl rfl ?_
    try simp only [Act.put, za, zb, zc]
    refine tn 8 rfl rfl ?_
    try simp only [Act.put, za, zb, zc]
    refine tn 9 rfl rfl ?_
    try simp only [Act.put, za, zb, zc]
    refine tk 10 (v := ?_) rfl rfl ?_ ?_
    rotate_left
    · intro w hSw; (try dsimp only at hSw); go_simp; try with_reducible rfl
    try simp only [Act.put, za, zb, zc]
    refine tk 11 (v := ?_) rfl rfl ?_ ?_
    rotate_left
    · intro w hSw; (try dsimp only at hSw); go_simp; try with_reducible rfl
    try simp only [Act.put, za, zb, zc]
    refine tn 12 rfl rfl ?_
    try simp only [Act.put, za, zb, zc]
    refine tn 13 rfl rfl ?_
    try simp only [Act.put, za, zb, zc]
    refine tn 14 rfl rfl ?_
    try simp only [Act.put, za, zb, zc]
    refine tn 15 rfl rfl ?_
    try simp only [Act.put, za, zb, zc]
    refine tk 16 (v := ?_) rfl rfl ?_ ?_
    rotate_left
    · intro w hSw; (try dsimp only at hSw); go_simp; try with_reducible rfl
    try simp only [Act.put, za, zb, zc]
    refine tk 17 (v := ?_) rfl rfl ?_ ?_
    rotate_left
    · intro w hSw; (try dsimp only at hSw); go_simp; try with_reducible rfl
    try simp only [Act.put, za, zb, zc]
    refine tn 18 rfl rfl ?_
    try simp only [Act.put, za, zb, zc]
    refine tn 19 rfl rfl ?_
    try simp only [Act.put, za, zb, zc]
    refine tn 20 rfl rfl ?_
    try simp only [Act.put, za, zb, zc]
    refine tn 21 rfl rfl ?_
    try simp only [Act.put, za, zb, zc]
    refine tk 22 (v := ?_) rfl rfl ?_ ?_
    rotate_left
    · intro w hSw; (try dsimp only at hSw); go_simp; try with_reducible rfl
    try simp only [Act.put, za, zb, zc]
    refine tk 23 (v := ?_) rfl rfl ?_ ?_
    rotate_left
    · intro w hSw; (try dsimp only at hSw); go_simp; try with_reducible rfl
    try simp only [Act.put, za, zb, zc]
    refine tn 24 rfl rfl ?_
    try simp only [Act.put, za, zb, zc]
    refine tn 25 rfl rfl ?_
    try simp only [Act.put, za, zb, zc]
    refine tn 26 rfl rfl ?_
    try simp only [Act.put, za, zb, zc]
    refine tn 27 rfl rfl ?_
    try simp only [Act.put, za, zb, zc]
    refine tn 28 rfl rfl ?_
    try simp only [Act.put, za, zb, zc]
    refine tn 29 rfl rfl ?_
    try simp only [Act.put, za, zb, zc]
    refine tn 30 rfl rfl ?_
    try simp only [Act.put, za, zb, zc]
    refine tn 31 rfl rfl ?_
    try simp only [Act.put, za, zb, zc]
    refine tn 32 rfl rfl ?_
    try simp only [Act.put, za, zb, zc]
    refine tn 33 rfl rfl ?_
    try simp only [Act.put, za, zb, zc]
    refine tn 34 rfl rfl ?_
    try simp only [Act.put, za, zb, zc]
    refine tn 35 rfl rfl ?_
    try simp only [Act.put, za, zb, zc]
    refine tn 36 rfl rfl ?_
    try simp only [Act.put, za, zb, zc]
    refine tn 37 rfl rfl ?_
    try simp only [Act.put, za, zb, zc]
    refine tn 38 rfl rfl ?_
    try simp only [Act.put, za, zb, zc]
    refine tk 39 (v := ?_) rfl rfl ?_ ?_
    rotate_left
    · intro w hSw; (try dsimp only at hSw); go_simp; try with_reducible rfl
    try simp only [Act.put, za, zb, zc]
    refine wpAnyH_done (by kernel_rfl) (NoPanic.normal ?_) _
    go_wp2
    go_ret
    exact ⟨rfl, below_step HW.out (Nat.le_refl _) HB.out⟩

end Go.Proofs.YtogbkfakihnbdaaGreatDoor
