import Derived.Test.YtogbkfakihnbdaaGreatDoorL1
import Derived.Test.YtogbkfakihnbdaaGreatDoorSnA
/- The code's rise of operations (layer 13). -/
namespace Go.Proofs.YtogbkfakihnbdaaGreatDoor
open Go.RowKit
set_option linter.unusedSimpArgs false

/-- Stamps of operations that rise, one behind the other. -/
def RiseO (l : List OpT) : Prop := ∀ k, 0 < k → k < l.length → LessS (oL l (k - 1)).2.1 (oL l k).2.1

set_option maxRecDepth 100000 in
set_option maxHeartbeats 4000000 in
theorem riseO_any (l : List OpT) (a : Option Addr) (n c : Nat) (w : World) (hn : n ≤ 60000) (hI : OpsAt w a n l) (D : Bool) (hD : D = true ↔ RiseO l) :
    Calls Tryz.prog 29 #[.slice a n c] w fun e w' => e = .returned (.bool D) ∧ Below w.heap.size w w' := by
  have HD : Hid (D = true ↔ RiseO l) := hD
  have HI : Hid (OpsAt w a n l) := hI
  have HN : Hid (l.length = n) := hI.1
  clear hI hD
  go_enter Tryz.func29, Tryz.ntmps29
  go_wp2_with fail
  go_loopw [6] (fun i wr => ∃ k : Nat, k ≤ n ∧ i = .int .i64 k ∧ Hid (∀ j, 0 < j → j < k → LessS (oL l (j - 1)).2.1 (oL l j).2.1) ∧ Hid (Below w.heap.size w wr)) (fun i _ => n - (intOf i).toNat)
  case atStart => exact ⟨0, by omega, rfl, fun j _ h => absurd h (Nat.not_lt_zero _), Below.refl _ _⟩
  case round =>
    obtain ⟨k, hk, rfl, HL, HB⟩ := hrel
    by_cases hlt : k < n
    · have b0 : (k : Int) < (n : Int) := by omega
      obtain ⟨b, off, rfl, _⟩ := HI.out.2.some (by omega)
      have hat := HI.out.below HB.out
      by_cases hk0 : k = 0
      · have b1 : ¬ ((0 : Int) < (k : Int)) := by omega
        have b1' : ¬ (0 < k) := by omega
        have HL' : Hid (∀ j, 0 < j → j < k + 1 → LessS (oL l (j - 1)).2.1 (oL l j).2.1) := fun j h1 h2 => by omega
        clear hk0 hat HL
        go_wp2_with fail
        refine wp_region_noPanic ?_
        refine wp_region_held_drew (S := fun _ => True) (by kernel_rfl) (by first | exact trivial | assumption | exact ⟨by assumption, by assumption⟩) (fun hHeld => ?_)
        refine tk 0 (v := ?_) rfl rfl ?_ ?_
        rotate_left
        · intro w hSw; (try dsimp only at hSw); go_simp; try with_reducible rfl
        try simp only [Act.put, za, zb, zc]
        refine tk 1 (v := ?_) rfl rfl ?_ ?_
        rotate_left
        · intro w hSw; (try dsimp only at hSw); go_simp; try with_reducible rfl
        try simp only [Act.put, za, zb, zc]
        refine tk 2 (v := ?_) rfl rfl ?_ ?_
        rotate_left
        · intro w hSw; (try dsimp only at hSw); go_simp; try with_reducible rfl
        try simp only [Act.put, za, zb, zc]
        refine tn 3 rfl rfl ?_
        try simp only [Act.put, za, zb, zc]
        refine tn 4 rfl rfl ?_
        try simp only [Act.put, za, zb, zc]
        refine tn 5 rfl rfl ?_
        try simp only [Act.put, za, zb, zc]
        refine tn 6 rfl rfl ?_
        try simp only [Act.put, za, zb, zc]
        refine tn 7 rfl rfl ?_
        try simp only [Act.put, za, zb, zc]
        refine tn 8 rfl rfl ?_
        try simp only [Act.put, za, zb, zc]
        refine tn 9 rfl rfl ?_
        try simp only [Act.put, za, zb, zc]
        refine tn 10 rfl rfl ?_
        try simp only [Act.put, za, zb, zc]
        refine tn 11 rfl rfl ?_
        try simp only [Act.put, za, zb, zc]
        refine tn 12 rfl rfl ?_
        try simp only [Act.put, za, zb, zc]
        refine tn 13 rfl rfl ?_
        try simp only [Act.put, za, zb, zc]
        refine tn 14 rfl rfl ?_
        try simp only [Act.put, za, zb, zc]
        refine tn 15 rfl rfl ?_
        try simp only [Act.put, za, zb, zc]
        refine tk 16 (v := ?_) rfl rfl ?_ ?_
        rotate_left
        · intro w hSw; (try dsimp only at hSw); go_simp; try with_reducible rfl
        try simp only [Act.put, za, zb, zc]
        refine wpAnyH_done (by kernel_rfl) (NoPanic.normal ?_) _
        have HB' : Hid (Below w.heap.size w wr.drew) := HB.out.drew
        clear HB
        go_wp2_with fail
        refine ⟨?_, ?_⟩
        · first
          | exact ⟨k + 1, by omega, by go_num, HL', HB'⟩
          | ((repeat apply Exists.intro); refine ⟨?_, rfl⟩; exact ⟨k + 1, by omega, by go_num, HL', HB'⟩)
        · simp [intOf] <;> omega
      · obtain ⟨j, hkj⟩ : ∃ j, k = j + 1 := ⟨k - 1, by omega⟩
        have b1 : (0 : Int) < (k : Int) := by omega
        have b1' : 0 < k := by omega
        have b5 : (j : Int) < (n : Int) := by omega
        have hq0 : IntKind.i64.wrap ((k : Int) - 1) = (j : Int) := by rw [IntKind.wrap_i64]; omega
        obtain ⟨_, u0, u1, _⟩ := hat.cells j (by omega)
        obtain ⟨_, v0, v1, _⟩ := hat.cells k hlt
        have HJ : Hid (k - 1 = j) := by show _ = _; omega
        obtain ⟨X, hX⟩ : ∃ X, decide (LessS (oL l j).2.1 (oL l k).2.1) = X := ⟨_, rfl⟩
        have HX : Hid (X = true ↔ LessS (oL l j).2.1 (oL l k).2.1) := by show _ ↔ _; rw [← hX]; simp
        have CL : Hid (∀ W, _) := fun W => less_any (oL l j).2.1 (oL l k).2.1 W
        rw [hX] at CL
        obtain ⟨⟨j1, j2⟩, hj⟩ : ∃ s, s = (oL l j).2.1 := ⟨_, rfl⟩
        obtain ⟨⟨i1, i2⟩, hi⟩ : ∃ s, s = (oL l k).2.1 := ⟨_, rfl⟩
        rw [← hj] at u0 u1 CL
        rw [← hi] at v0 v1 CL
        simp only [stampV] at CL
        have hS0 : wr.cell? ⟨b, off + j * 9 + 1, none⟩ = some (.int .i64 j1) ∧ wr.cell? ⟨b, off + j * 9 + 2, none⟩ = some (.int .i64 j2) ∧ wr.cell? ⟨b, off + k * 9 + 1, none⟩ = some (.int .i64 i1) ∧ wr.cell? ⟨b, off + k * 9 + 2, none⟩ = some (.int .i64 i2) := ⟨u0, u1, v0, v1⟩
        clear hj hi hat hkj hk0 hX
        go_wp2_with fail
        refine wp_region_noPanic ?_
        refine wp_region_held_drew (S := fun W => W.cell? ⟨b, off + j * 9 + 1, none⟩ = some (.int .i64 j1) ∧ W.cell? ⟨b, off + j * 9 + 2, none⟩ = some (.int .i64 j2) ∧ W.cell? ⟨b, off + k * 9 + 1, none⟩ = some (.int .i64 i1) ∧ W.cell? ⟨b, off + k * 9 + 2, none⟩ = some (.int .i64 i2)) (by kernel_rfl) (by first | exact trivial | assumption | exact ⟨by assumption, by assumption⟩) (fun hHeld => ?_)
        refine tk 0 (v := ?_) rfl rfl ?_ ?_
        rotate_left
        · intro w hSw; (try dsimp only at hSw); go_simp; try with_reducible rfl
        try simp only [Act.put, za, zb, zc]
        refine tk 1 (v := ?_) rfl rfl ?_ ?_
        rotate_left
        · intro w hSw; (try dsimp only at hSw); go_simp; try with_reducible rfl
        try simp only [Act.put, za, zb, zc]
        refine tk 2 (v := ?_) rfl rfl ?_ ?_
        rotate_left
        · intro w hSw; (try dsimp only at hSw); go_simp; try with_reducible rfl
        try simp only [Act.put, za, zb, zc]
        refine tk 3 (v := ?_) rfl rfl ?_ ?_
        rotate_left
        · intro w hSw; (try dsimp only at hSw); go_simp; try with_reducible rfl
        try simp only [Act.put, za, zb, zc]
        refine tk 4 (v := ?_) rfl rfl ?_ ?_
        rotate_left
        · intro w hSw; (try dsimp only at hSw); go_simp; try with_reducible rfl
        try simp only [Act.put, za, zb, zc]
        refine tk 5 (v := ?_) rfl rfl ?_ ?_
        rotate_left
        · intro w hSw; (try dsimp only at hSw); go_simp; try with_reducible rfl
        try simp only [Act.put, za, zb, zc]
        refine tk 6 (v := ?_) rfl rfl ?_ ?_
        rotate_left
        · intro w hSw; (try dsimp only at hSw); go_simp; try with_reducible rfl
        try simp only [Act.put, za, zb, zc]
        refine tk 7 (v := ?_) rfl rfl ?_ ?_
        rotate_left
        · intro w hSw; (try dsimp only at hSw); go_simp; try with_reducible rfl
        try simp only [Act.put, za, zb, zc]
        refine tk 8 (v := ?_) rfl rfl ?_ ?_
        rotate_left
        · intro w hSw; (try dsimp only at hSw); go_simp; try with_reducible rfl
        try simp only [Act.put, za, zb, zc]
        refine tk 9 (v := ?_) rfl rfl ?_ ?_
        rotate_left
        · intro w hSw; (try dsimp only at hSw); go_simp; try with_reducible rfl
        try simp only [Act.put, za, zb, zc]
        refine tk 10 (v := ?_) rfl rfl ?_ ?_
        rotate_left
        · intro w hSw; (try dsimp only at hSw); go_simp; try with_reducible rfl
        try simp only [Act.put, za, zb, zc]
        refine tk 11 (v := ?_) rfl rfl ?_ ?_
        rotate_left
        · intro w hSw; (try dsimp only at hSw); go_simp; try with_reducible rfl
        try simp only [Act.put, za, zb, zc]
        refine tk 12 (v := ?_) rfl rfl ?_ ?_
        rotate_left
        · intro w hSw; (try dsimp only at hSw); go_simp; try with_reducible rfl
        try simp only [Act.put, za, zb, zc]
        refine tk 13 (v := ?_) rfl rfl ?_ ?_
        rotate_left
        · intro w hSw; (try dsimp only at hSw); go_simp; try with_reducible rfl
        try simp only [Act.put, za, zb, zc]
        refine wpAnyH_ready (rs := [14]) (by kernel_rfl) (by simp) ?_
        refine AllReadyH.cons rfl (fun K hK => ?_) AllReadyH.nil
        go_simp
        refine (CL.out _).mono ?_
        rintro e w2 ⟨rfl, hb2⟩
        have hb3 : Below wr.heap.size wr w2 := below_step (Below.refl _ _).drew (Nat.le_refl _) hb2
        refine hK.out _ _ ⟨by rw [hb3.cell (World.block_lt_of_cell? wr _ u0)]; exact u0, by rw [hb3.cell (World.block_lt_of_cell? wr _ u1)]; exact u1, by rw [hb3.cell (World.block_lt_of_cell? wr _ v0)]; exact v0, by rw [hb3.cell (World.block_lt_of_cell? wr _ v1)]; exact v1⟩ (fun hHeld => ?_)
        clear hK K
        have HB2 : Hid (Below w.heap.size w w2) := below_step HB.out (Nat.le_refl _) hb3
        cases X with
        | true =>
          refine tk 15 (v := ?_) rfl rfl ?_ ?_
          rotate_left
          · intro w hSw; (try dsimp only at hSw); go_simp; try with_reducible rfl
          try simp only [Act.put, za, zb, zc]
          refine tk 16 (v := ?_) rfl rfl ?_ ?_
          rotate_left
          · intro w hSw; (try dsimp only at hSw); go_simp; try with_reducible rfl
          try simp only [Act.put, za, zb, zc]
          refine wpAnyH_done (by kernel_rfl) (NoPanic.normal ?_) _
          have hls := HX.out.1 (by first | rfl | trivial)
          have HL' : Hid (∀ i, 0 < i → i < k + 1 → LessS (oL l (i - 1)).2.1 (oL l i).2.1) := fun i h1 h2 => by
            by_cases e : i = k
            · rw [e, HJ.out]; exact hls
            · exact HL.out i h1 (by omega)
          clear CL hb2 hb3 u0 u1 v0 v1 hS0 hq0 b5 HB hls HL HX HJ
          go_wp2_with fail
          refine ⟨?_, ?_⟩
          · first
            | exact ⟨k + 1, by omega, by go_num, HL', HB2⟩
            | ((repeat apply Exists.intro); refine ⟨?_, rfl⟩; exact ⟨k + 1, by omega, by go_num, HL', HB2⟩)
          · simp [intOf] <;> omega
        | false =>
          refine tk 15 (v := ?_) rfl rfl ?_ ?_
          rotate_left
          · intro w hSw; (try dsimp only at hSw); go_simp; try with_reducible rfl
          try simp only [Act.put, za, zb, zc]
          refine tk 16 (v := ?_) rfl rfl ?_ ?_
          rotate_left
          · intro w hSw; (try dsimp only at hSw); go_simp; try with_reducible rfl
          try simp only [Act.put, za, zb, zc]
          refine wpAnyH_done (by kernel_rfl) (NoPanic.normal ?_) _
          obtain rfl : D = false := by
            cases D with
            | false => rfl
            | true =>
              have h := (HD.out.1 rfl) k b1' (by rw [HN.out]; exact hlt)
              rw [HJ.out] at h
              have := HX.out.2 h
              first | cases this | exact absurd this (by simp)
          clear CL hb2 hb3 u0 u1 v0 v1 hS0 hq0 b5 HB HL HX HJ
          go_wp2_with fail
          go_ret
          exact ⟨rfl, HB2.out⟩
    · obtain rfl : k = n := by omega
      have b0 : ¬ ((k : Int) < (k : Int)) := by omega
      obtain rfl : D = true := HD.out.2 (fun j h1 h2 => HL.out j h1 (by rw [HN.out] at h2; exact h2))
      go_wp2_with fail
      go_ret
      exact ⟨rfl, HB.out⟩

end Go.Proofs.YtogbkfakihnbdaaGreatDoor
