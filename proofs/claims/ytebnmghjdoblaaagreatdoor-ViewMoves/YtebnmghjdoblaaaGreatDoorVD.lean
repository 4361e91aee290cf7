import Derived.Test.YtebnmghjdoblaaaGreatDoorTk
import Derived.Test.YtebnmghjdoblaaaGreatDoorVC
import Derived.Test.YtebnmghjdoblaaaGreatDoorCkA
import Derived.Test.YtebnmghjdoblaaaGreatDoorL8
import Derived.Test.YtebnmghjdoblaaaGreatDoorMP
import Derived.WideKeyEntry
import Derived.Maps.AppendAt
/- The code's rise (layer 12). -/
namespace Go.Proofs.YtebnmghjdoblaaaGreatDoor
open Go.RowKit
set_option linter.unusedSimpArgs false

/-- Numbers that rise, one behind the other. -/
def RiseV (l : List NodeT) : Prop := ∀ k, 0 < k → k < l.length → LessS (nL l (k - 1)).1 (nL l k).1

set_option maxRecDepth 100000 in
set_option maxHeartbeats 4000000 in
theorem riseV_any (l : List NodeT) (a : Option Addr) (n c : Nat) (w : World) (hn : n ≤ 60000) (hI : NodesAt w a n l) (D : Bool) (hD : D = true ↔ RiseV l) :
    Calls Tryz.prog 33 #[.slice a n c] w fun e w' => e = .returned (.bool D) ∧ Below w.heap.size w w' := by
  have HD : Hid (D = true ↔ RiseV l) := hD
  have HI : Hid (NodesAt w a n l) := hI
  have HN : Hid (l.length = n) := hI.1
  clear hI hD
  go_enter Tryz.func33, Tryz.ntmps33
  go_wp2_with fail
  go_loopw [6] (fun i wr => ∃ k : Nat, k ≤ n ∧ i = .int .i64 k ∧ Hid (∀ j, 0 < j → j < k → LessS (nL l (j - 1)).1 (nL l j).1) ∧ Hid (Below w.heap.size w wr)) (fun i _ => n - (intOf i).toNat)
  case atStart => exact ⟨0, by omega, rfl, fun j _ h => absurd h (Nat.not_lt_zero _), Below.refl _ _⟩
  case round =>
    obtain ⟨k, hk, rfl, HL, HB⟩ := hrel
    by_cases hlt : k < n
    · have b0 : (k : Int) < (n : Int) := by omega
      obtain ⟨b, off, rfl, _⟩ := HI.out.2.some (by omega)
      have hat := HI.out.below HB.out
      by_cases hk0 : k = 0
      · have b1 : ¬ ((0 : Int) < (k : Int)) := by omega
        have b1' : ¬ (0 < k) := by omega
        have HL' : Hid (∀ j, 0 < j → j < k + 1 → LessS (nL l (j - 1)).1 (nL l j).1) := fun j h1 h2 => by omega
        clear hk0 hat HL
        go_wp2_with fail
        refine wp_region_noPanic ?_
        refine wp_region_held_drew (S := fun _ => True) (by kernel_rfl) (by first | exact trivial | assumption | exact ⟨by assumption, by assumption⟩) (fun hHeld => ?_)
        refine tk 0 (v := ?_) rfl rfl ?_ ?_
        rotate_left
        · intro w hSw; (try dsimp only at hSw); go_simp; try with_reducible rfl
        try simp only [Act.put, za, zb, zc]
        refine tk 1 (v := ?_) rfl rfl ?_ ?_
        rotate_left
        · intro w hSw; (try dsimp only at hSw); go_simp; try with_reducible rfl
        try simp only [Act.put, za, zb, zc]
        refine tk 2 (v := ?_) rfl rfl ?_ ?_
        rotate_left
        · intro w hSw; (try dsimp only at hSw); go_simp; try with_reducible rfl
        try simp only [Act.put, za, zb, zc]
        refine tn 3 rfl rfl ?_
        try simp only [Act.put, za, zb, zc]
        refine tn 4 rfl rfl ?_
        try simp only [Act.put, za, zb, zc]
        refine tn 5 rfl rfl ?_
        try simp only [Act.put, za, zb, zc]
        refine tn 6 rfl rfl ?_
        try simp only [Act.put, za, zb, zc]
        refine tn 7 rfl rfl ?_
        try simp only [Act.put, za, zb, zc]
        refine tn 8 rfl rfl ?_
        try simp only [Act.put, za, zb, zc]
        refine tn 9 rfl rfl ?_
        try simp only [Act.put, za, zb, zc]
        refine tn 10 rfl rfl ?_
        try simp only [Act.put, za, zb, zc]
        refine tn 11 rfl rfl ?_
        try simp only [Act.put, za, zb, zc]
        refine tn 12 rfl rfl ?_
        try simp only [Act.put, za, zb, zc]
        refine tn 13 rfl rfl ?_
        try simp only [Act.put, za, zb, zc]
        refine tn 14 rfl rfl ?_
        try simp only [Act.put, za, zb, zc]
        refine tn 15 rfl rfl ?_
        try simp only [Act.put, za, zb, zc]
        refine tk 16 (v := ?_) rfl rfl ?_ ?_
        rotate_left
        · intro w hSw; (try dsimp only at hSw); go_simp; try with_reducible rfl
        try simp only [Act.put, za, zb, zc]
        refine wpAnyH_done (by kernel_rfl) (NoPanic.normal ?_) _
        have HB' : Hid (Below w.heap.size w wr.drew) := HB.out.drew
        clear HB
        go_wp2_with fail
        refine ⟨?_, ?_⟩
        · first
          | exact ⟨k + 1, by omega, by go_num, HL', HB'⟩
          | ((repeat apply Exists.intro); refine ⟨?_, rfl⟩; exact ⟨k + 1, by omega, by go_num, HL', HB'⟩)
        · simp [intOf] <;> omega
      · obtain ⟨j, hkj⟩ : ∃ j, k = j + 1 := ⟨k - 1, by omega⟩
        have b1 : (0 : Int) < (k : Int) := by omega
        have b1' : 0 < k := by omega
        have b5 : (j : Int) < (n : Int) := by omega
        have hq0 : IntKind.i64.wrap ((k : Int) - 1) = (j : Int) := by rw [IntKind.wrap_i64]; omega
        obtain ⟨u0, u1, _⟩ := hat.cells j (by omega)
        obtain ⟨v0, v1, _⟩ := hat.cells k hlt
        have HJ : Hid (k - 1 = j) := by show _ = _; omega
        obtain ⟨X, hX⟩ : ∃ X, decide (LessS (nL l j).1 (nL l k).1) = X := ⟨_, rfl⟩
        have HX : Hid (X = true ↔ LessS (nL l j).1 (nL l k).1) := by show _ ↔ _; rw [← hX]; simp
        have CL : Hid (∀ W, _) := fun W => less_any (nL l j).1 (nL l k).1 W
        rw [hX] at CL
        obtain ⟨⟨j1, j2⟩, hj⟩ : ∃ s, s = (nL l j).1 := ⟨_, rfl⟩
        obtain ⟨⟨i1, i2⟩, hi⟩ : ∃ s, s = (nL l k).1 := ⟨_, rfl⟩
        rw [← hj] at u0 u1 CL
        rw [← hi] at v0 v1 CL
        simp only [stampV] at CL
        have hS0 : wr.cell? ⟨b, off + j * 6, none⟩ = some (.int .i64 j1) ∧ wr.cell? ⟨b, off + j * 6 + 1, none⟩ = some (.int .i64 j2) ∧ wr.cell? ⟨b, off + k * 6, none⟩ = some (.int .i64 i1) ∧ wr.cell? ⟨b, off + k * 6 + 1, none⟩ = some (.int .i64 i2) := ⟨u0, u1, v0, v1⟩
        clear hj hi hat hkj hk0 hX
        go_wp2_with fail
        refine wp_region_noPanic ?_
        refine wp_region_held_drew (S := fun W => W.cell? ⟨b, off + j * 6, none⟩ = some (.int .i64 j1) ∧ W.cell? ⟨b, off + j * 6 + 1, none⟩ = some (.int .i64 j2) ∧ W.cell? ⟨b, off + k * 6, none⟩ = some (.int .i64 i1) ∧ W.cell? ⟨b, off + k * 6 + 1, none⟩ = some (.int .i64 i2)) (by kernel_rfl) (by first | exact trivial | assumption | exact ⟨by assumption, by assumption⟩) (fun hHeld => ?_)
        refine tk 0 (v := ?_) rfl rfl ?_ ?_
        rotate_left
        · intro w hSw; (try dsimp only at hSw); go_simp; try with_reducible rfl
        try simp only [Act.put, za, zb, zc]
        refine tk 1 (v := ?_) rfl rfl ?_ ?_
        rotate_left
        · intro w hSw; (try dsimp only at hSw); go_simp; try with_reducible rfl
        try simp only [Act.put, za, zb, zc]
        refine tk 2 (v := ?_) rfl rfl ?_ ?_
        rotate_left
        · intro w hSw; (try dsimp only at hSw); go_simp; try with_reducible rfl
        try simp only [Act.put, za, zb, zc]
        refine tk 3 (v := ?_) rfl rfl ?_ ?_
        rotate_left
        · intro w hSw; (try dsimp only at hSw); go_simp; try with_reducible rfl
        try simp only [Act.put, za, zb, zc]
        refine tk 4 (v := ?_) rfl rfl ?_ ?_
        rotate_left
        · intro w hSw; (try dsimp only at hSw); go_simp; try with_reducible rfl
        try simp only [Act.put, za, zb, zc]
        refine tk 5 (v := ?_) rfl rfl ?_ ?_
        rotate_left
        · intro w hSw; (try dsimp only at hSw); go_simp; try with_reducible rfl
        try simp only [Act.put, za, zb, zc]
        refine tk 6 (v := ?_) rfl rfl ?_ ?_
        rotate_left
        · intro w hSw; (try dsimp only at hSw); go_simp; try with_reducible rfl
        try simp only [Act.put, za, zb, zc]
        refine tk 7 (v := ?_) rfl rfl ?_ ?_
        rotate_left
        · intro w hSw; (try dsimp only at hSw); go_simp; try with_reducible rfl
        try simp only [Act.put, za, zb, zc]
        refine tk 8 (v := ?_) rfl rfl ?_ ?_
        rotate_left
        · intro w hSw; (try dsimp only at hSw); go_simp; try with_reducible rfl
        try simp only [Act.put, za, zb, zc]
        refine tk 9 (v := ?_) rfl rfl ?_ ?_
        rotate_left
        · intro w hSw; (try dsimp only at hSw); go_simp; try with_reducible rfl
        try simp only [Act.put, za, zb, zc]
        refine tk 10 (v := ?_) rfl rfl ?_ ?_
        rotate_left
        · intro w hSw; (try dsimp only at hSw); go_simp; try with_reducible rfl
        try simp only [Act.put, za, zb, zc]
        refine tk 11 (v := ?_) rfl rfl ?_ ?_
        rotate_left
        · intro w hSw; (try dsimp only at hSw); go_simp; try with_reducible rfl
        try simp only [Act.put, za, zb, zc]
        refine tk 12 (v := ?_) rfl rfl ?_ ?_
        rotate_left
        · intro w hSw; (try dsimp only at hSw); go_simp; try with_reducible rfl
        try simp only [Act.put, za, zb, zc]
        refine tk 13 (v := ?_) rfl rfl ?_ ?_
        rotate_left
        · intro w hSw; (try dsimp only at hSw); go_simp; try with_reducible rfl
        try simp only [Act.put, za, zb, zc]
        refine wpAnyH_ready (rs := [14]) (by kernel_rfl) (by simp) ?_
        refine AllReadyH.cons rfl (fun K hK => ?_) AllReadyH.nil
        go_simp
        refine (CL.out _).mono ?_
        rintro e w2 ⟨rfl, hb2⟩
        have hb3 : Below wr.heap.size wr w2 := below_step (Below.refl _ _).drew (Nat.le_refl _) hb2
        refine hK.out _ _ ⟨by rw [hb3.cell (World.block_lt_of_cell? wr _ u0)]; exact u0, by rw [hb3.cell (World.block_lt_of_cell? wr _ u1)]; exact u1, by rw [hb3.cell (World.block_lt_of_cell? wr _ v0)]; exact v0, by rw [hb3.cell (World.block_lt_of_cell? wr _ v1)]; exact v1⟩ (fun hHeld => ?_)
        clear hK K
        have HB2 : Hid (Below w.heap.size w w2) := below_step HB.out (Nat.le_refl _) hb3
        cases X with
        | true =>
          refine tk 15 (v := ?_) rfl rfl ?_ ?_
          rotate_left
          · intro w hSw; (try dsimp only at hSw); go_simp; try with_reducible rfl
          try simp only [Act.put, za, zb, zc]
          refine tk 16 (v := ?_) rfl rfl ?_ ?_
          rotate_left
          · intro w hSw; (try dsimp only at hSw); go_simp; try with_reducible rfl
          try simp only [Act.put, za, zb, zc]
          refine wpAnyH_done (by kernel_rfl) (NoPanic.normal ?_) _
          have hls := HX.out.1 (by first | rfl | trivial)
          have HL' : Hid (∀ i, 0 < i → i < k + 1 → LessS (nL l (i - 1)).1 (nL l i).1) := fun i h1 h2 => by
            by_cases e : i = k
            · rw [e, HJ.out]; exact hls
            · exact HL.out i h1 (by omega)
          clear CL hb2 hb3 u0 u1 v0 v1 hS0 hq0 b5 HB hls HL HX HJ
          go_wp2_with fail
          refine ⟨?_, ?_⟩
          · first
            | exact ⟨k + 1, by omega, by go_num, HL', HB2⟩
            | ((repeat apply Exists.intro); refine ⟨?_, rfl⟩; exact ⟨k + 1, by omega, by go_num, HL', HB2⟩)
          · simp [intOf] <;> omega
        | false =>
          refine tk 15 (v := ?_) rfl rfl ?_ ?_
          rotate_left
          · intro w hSw; (try dsimp only at hSw); go_simp; try with_reducible rfl
          try simp only [Act.put, za, zb, zc]
          refine tk 16 (v := ?_) rfl rfl ?_ ?_
          rotate_left
          · intro w hSw; (try dsimp only at hSw); go_simp; try with_reducible rfl
          try simp only [Act.put, za, zb, zc]
          refine wpAnyH_done (by kernel_rfl) (NoPanic.normal ?_) _
          obtain rfl : D = false := by
            cases D with
            | false => rfl
            | true =>
              have h := (HD.out.1 rfl) k b1' (by rw [HN.out]; exact hlt)
              rw [HJ.out] at h
              have := HX.out.2 h
              first | cases this | exact absurd this (by simp)
          clear CL hb2 hb3 u0 u1 v0 v1 hS0 hq0 b5 HB HL HX HJ
          go_wp2_with fail
          go_ret
          exact ⟨rfl, HB2.out⟩
    · obtain rfl : k = n := by omega
      have b0 : ¬ ((k : Int) < (k : Int)) := by omega
      obtain rfl : D = true := HD.out.2 (fun j h1 h2 => HL.out j h1 (by rw [HN.out] at h2; exact h2))
      go_wp2_with fail
      go_ret
      exact ⟨rfl, HB.out⟩

end Go.Proofs.YtebnmghjdoblaaaGreatDoor

/- The code's eachMayBe (layer 12). -/
namespace Go.Proofs.YtebnmghjdoblaaaGreatDoor
open Go.RowKit
set_option linter.unusedSimpArgs false

/-- What may be told of a node on its own. -/
def OneV (x : NodeT) : Prop := MayS x.1 ∧ NameP x.2.2.1 ∧ x.2.2.2.size ≤ 64

theorem each_one (l : List NodeT) : EachV l ↔ RiseV l ∧ ∀ k, k < l.length → OneV (nL l k) := by
  constructor
  · intro h
    exact ⟨fun k h0 hk => (h k hk).2.1 h0, fun k hk => ⟨(h k hk).1, (h k hk).2.2⟩⟩
  · rintro ⟨h1, h2⟩ k hk
    exact ⟨(h2 k hk).1, fun h0 => h1 k h0 hk, (h2 k hk).2⟩

set_option maxRecDepth 100000 in
set_option maxHeartbeats 8000000 in
theorem eachMay_any (l : List NodeT) (a : Option Addr) (n c : Nat) (w : World) (hn : n ≤ 60000) (hz : ∀ k, k < n → (nL l k).2.2.1.size ≤ 1048576 ∧ (nL l k).2.2.2.size ≤ maxLen) (hI : NodesAt w a n l) (hG : Glob8 w) (D : Bool) (hD : D = true ↔ ∀ k, k < l.length → OneV (nL l k)) :
    Calls Tryz.prog 34 #[.slice a n c] w fun e w' => e = .returned (.bool D) ∧ Below w.heap.size w w' := by
  have HD : Hid (D = true ↔ ∀ k, k < l.length → OneV (nL l k)) := hD
  have HI : Hid (NodesAt w a n l) := hI
  have HG : Hid (Glob8 w) := hG
  have HN : Hid (l.length = n) := hI.1
  have HZ : Hid (∀ k, k < n → (nL l k).2.2.1.size ≤ 1048576 ∧ (nL l k).2.2.2.size ≤ maxLen) := hz
  clear hI hD hG hz
  go_enter Tryz.func34, Tryz.ntmps34
  go_wp2_with fail
  go_loopw [7] (fun i wr => ∃ k : Nat, k ≤ n ∧ i = .int .i64 k ∧ Hid (∀ j, j < k → OneV (nL l j)) ∧ Hid (Below w.heap.size w wr)) (fun i _ => n - (intOf i).toNat)
  case atStart => exact ⟨0, by omega, rfl, fun j h => absurd h (Nat.not_lt_zero _), Below.refl _ _⟩
  case round =>
    obtain ⟨k, hk, rfl, HL, HB⟩ := hrel
    by_cases hlt : k < n
    · have b0 : (k : Int) < (n : Int) := by omega
      obtain ⟨b, off, rfl, _⟩ := HI.out.2.some (by omega)
      have hat := HI.out.below HB.out
      obtain ⟨x0, x1', x2', x3', x4', x5'⟩ := hat.cells k hlt
      have C1' : ∀ W, _ := fun W => checkS_any (nL l k).1 W
      obtain ⟨X, hX⟩ := nameX_is (nL l k).2.2.1
      have C2' : ∀ W, Glob8 W → Calls Tryz.prog 56 #[.string (nL l k).2.2.1] W fun e w' => e = .returned (.int .i64 X) ∧ Below W.heap.size W w' := fun W hW => (ncheck_any (nL l k).2.2.1 W (HZ.out k hlt).1 hW).mono (fun e w' h => by
        obtain ⟨x, e1, e2, e3⟩ := h
        rw [e1, NameE.uniq e2 hX]
        exact ⟨rfl, e3⟩)
      have HDk : Hid (D = true → OneV (nL l k)) := fun h => (HD.out.1 h) k (by rw [HN.out]; exact hlt)
      have hz6 : (nL l k).2.2.2.size ≤ maxLen := (HZ.out k hlt).2
      unfold maxLen at hz6
      obtain ⟨⟨⟨m1, m2⟩, ⟨m3, m4⟩, m5, m6⟩, hnd⟩ : ∃ nd, nd = nL l k := ⟨_, rfl⟩
      rw [← hnd] at x0 x1' x2' x3' x4' x5' HDk hX hz6
      simp only [← hnd, stampV] at C1' C2'
      simp only at x0 x1' x2' x3' x4' x5' hX hz6
      clear hat
      go_wp2_with fail
      obtain ⟨W1, hW1⟩ : ∃ W1, wr.alloc (.cells #[.int .i64 m1, .int .i64 m2, .int .i64 m3, .int .i64 m4, .string m5, .string m6] 45) = W1 := ⟨_, rfl⟩
      obtain ⟨hp, hhp⟩ : ∃ hp, wr.heap.size = hp := ⟨_, rfl⟩
      have HB1w : Hid (Below wr.heap.size wr W1) := by show Below _ _ _; rw [← hW1]; exact below_new _ _
      have HKn : Hid (Blk W1 45 hp #[.int .i64 m1, .int .i64 m2, .int .i64 m3, .int .i64 m4, .string m5, .string m6]) := by show Blk _ _ _ _; rw [← hW1, ← hhp]; exact Blk.new _ _ _
      have HBw : Hid (Below w.heap.size w W1) := below_step HB.out (Nat.le_refl _) HB1w.out
      have HGl : Hid (Glob8 W1) := HG.out.below HBw.out
      have HSS : Hid (∀ W, Below W1.heap.size W1 W → (W.cell? ⟨hp, 0, none⟩ = some (.int .i64 m1) ∧ W.cell? ⟨hp, 1, none⟩ = some (.int .i64 m2) ∧ W.cell? ⟨hp, 2, none⟩ = some (.int .i64 m3) ∧ W.cell? ⟨hp, 3, none⟩ = some (.int .i64 m4) ∧ W.cell? ⟨hp, 4, none⟩ = some (.string m5) ∧ W.cell? ⟨hp, 5, none⟩ = some (.string m6))) := fun W hW => by
        have n := HKn.out.on hW
        exact ⟨n.cell 0, n.cell 1, n.cell 2, n.cell 3, n.cell 4, n.cell 5⟩
      have hS0 := HSS.out W1 (Below.refl _ _)
      rw [hW1, hhp]
      have HND : Hid (((m1, m2), (m3, m4), m5, m6) = nL l k) := hnd
      clear hW1 hhp x0 x1' x2' x3' x4' x5' hnd
      by_cases h1 : MayS (m1, m2)
      · rw [if_pos h1] at C1'
        have C1 : Hid (∀ W, _) := C1'
        rcases hX with ⟨rfl, h2⟩ | ⟨rfl, h2⟩
        · have C2 : Hid (∀ W, Glob8 W → _) := C2'
          by_cases h3 : m6.size ≤ 64
          · have HHk : Hid (OneV ((m1, m2), (m3, m4), m5, m6)) := ⟨h1, h2, h3⟩
            have b3 : ¬ ((64 : Int) < (m6.size : Int)) := by omega
            have b3' : ¬ (64 < m6.size) := by omega
            clear C1' C2' h1 h2 h3
            refine (C1.out _).mono ?_
            rintro e x1 ⟨rfl, hb1⟩
            have hB1 : Below W1.heap.size W1 x1 := hb1
            have hS1 := HSS.out _ hB1
            clear hb1 C1
            go_wp2_with fail
            refine (C2.out _ (HGl.out.below hB1)).mono ?_
            rintro e x2 ⟨rfl, hb2⟩
            have hB2 : Below W1.heap.size W1 x2 := below_step hB1 (Nat.le_refl _) hb2
            have hS2 := HSS.out _ hB2
            clear hb2 C2 hS1
            have HBe : Hid (Below w.heap.size w x2) := below_step HBw.out (Nat.le_refl _) hB2
            have HL' : Hid (∀ j, j < k + 1 → OneV (nL l j)) := fun j hj => by
              by_cases e : j = k
              · rw [e, ← HND.out]; exact HHk.out
              · exact HL.out j (by omega)
            clear HSS HB HBw hB1 hS0 HL
            go_wp2_with fail
            refine ⟨?_, ?_⟩
            · first
              | exact ⟨k + 1, by omega, by go_num, HL', HBe⟩
              | ((repeat apply Exists.intro); refine ⟨?_, rfl⟩; exact ⟨k + 1, by omega, by go_num, HL', HBe⟩)
            · simp [intOf] <;> omega
          · have hno : ¬ OneV ((m1, m2), (m3, m4), m5, m6) := fun hh => h3 hh.2.2
            have b3 : (64 : Int) < (m6.size : Int) := by omega
            have b3' : 64 < m6.size := by omega
            clear C1' C2' h1 h2 h3
            refine (C1.out _).mono ?_
            rintro e x1 ⟨rfl, hb1⟩
            have hB1 : Below W1.heap.size W1 x1 := hb1
            have hS1 := HSS.out _ hB1
            clear hb1 C1
            go_wp2_with fail
            refine (C2.out _ (HGl.out.below hB1)).mono ?_
            rintro e x2 ⟨rfl, hb2⟩
            have hB2 : Below W1.heap.size W1 x2 := below_step hB1 (Nat.le_refl _) hb2
            have hS2 := HSS.out _ hB2
            clear hb2 C2 hS1
            obtain rfl : D = false := by
              cases D with
              | false => rfl
              | true => exact absurd (HDk.out rfl) hno
            have HBe : Hid (Below w.heap.size w x2) := below_step HBw.out (Nat.le_refl _) hB2
            clear HSS hno HB HBw hB1 hS0
            go_wp2_with fail
            go_ret
            exact ⟨rfl, HBe.out⟩
        · have C2 : Hid (∀ W, Glob8 W → _) := C2'
          have hno : ¬ OneV ((m1, m2), (m3, m4), m5, m6) := fun hh => h2 hh.2.1
          clear C1' C2' h1 h2
          refine (C1.out _).mono ?_
          rintro e x1 ⟨rfl, hb1⟩
          have hB1 : Below W1.heap.size W1 x1 := hb1
          have hS1 := HSS.out _ hB1
          clear hb1 C1
          go_wp2_with fail
          refine (C2.out _ (HGl.out.below hB1)).mono ?_
          rintro e x2 ⟨rfl, hb2⟩
          have hB2 : Below W1.heap.size W1 x2 := below_step hB1 (Nat.le_refl _) hb2
          have hS2 := HSS.out _ hB2
          clear hb2 C2 hS1
          obtain rfl : D = false := by
            cases D with
            | false => rfl
            | true => exact absurd (HDk.out rfl) hno
          have HBe : Hid (Below w.heap.size w x2) := below_step HBw.out (Nat.le_refl _) hB2
          clear HSS hno HB HBw hB1 hS0
          go_wp2_with fail
          go_ret
          exact ⟨rfl, HBe.out⟩
      · rw [if_neg h1] at C1'
        have C1 : Hid (∀ W, _) := C1'
        have C2 : Hid (∀ W, Glob8 W → _) := C2'
        have hno : ¬ OneV ((m1, m2), (m3, m4), m5, m6) := fun hh => h1 hh.1
        clear C1' C2' h1 hX
        refine (C1.out _).mono ?_
        rintro e x1 ⟨rfl, hb1⟩
        have hB1 : Below W1.heap.size W1 x1 := hb1
        have hS1 := HSS.out _ hB1
        clear hb1 C1
        obtain rfl : D = false := by
          cases D with
          | false => rfl
          | true => exact absurd (HDk.out rfl) hno
        have HBe : Hid (Below w.heap.size w x1) := below_step HBw.out (Nat.le_refl _) hB1
        clear HSS hno HB HBw hB1 hS0
        go_wp2_with fail
        go_ret
        exact ⟨rfl, HBe.out⟩
    · obtain rfl : k = n := by omega
      have b0 : ¬ ((k : Int) < (k : Int)) := by omega
      obtain rfl : D = true := HD.out.2 (fun j h => HL.out j (by rw [HN.out] at h; exact h))
      go_wp2_with fail
      go_ret
      exact ⟨rfl, HB.out⟩
end Go.Proofs.YtebnmghjdoblaaaGreatDoor

/- Maps keyed by stamps: 'm[k] = f(m[k], ..)', the entry found once. -/
namespace Go.Proofs.YtebnmghjdoblaaaGreatDoor
open Go.RowKit Go.WideElems
set_option linter.unusedSimpArgs false
set_option maxRecDepth 100000

theorem MapSV.entry {w : World} {r : Nat} {l : List ((Int × Int) × Value)} (h : MapSV w r l) (t et : TypeId) (ht : Tryz.prog.underlying t = some (.map 36 et)) (z : Value) (hz : ∀ w, (zeroValue et).run Tryz.prog w = .ok z w) (k : Int × Int) :
    ∃ (st : Int) (w1 : World), (Instr.mapEntry t (.map (some r)) (keyV k)).run Tryz.prog w = .ok (.tuple #[(lookM l k).getD z, .int .i64 st]) w1 ∧ w.grownBy w1 (some r) ∧
      ∀ (w2 : World) (val : Value), w2.heap[r]? = w1.heap[r]? → ∃ w3, (Instr.entryStore t (.map (some r)) (.int .i64 st) val).run Tryz.prog w2 = .ok () w3 ∧ MapSV w3 r (putM l k val) ∧ w2.grownBy w3 (some r) := by
  have hP := fun val => MapSV.put h t et ht k val
  obtain ⟨es, clock, h1, h2, hb1, hb2⟩ := h
  have hlt : r < w.heap.size := (Array.getElem?_eq_some_iff.1 h1).1
  have fr : ∀ (w : World) (o : Obj), w.grownBy { w with heap := w.heap.setIfInBounds r o } (some r) := fun w o => ⟨rfl, rfl, rfl, by simp, fun j hj hne => by
    rw [Array.getElem?_setIfInBounds, if_neg (fun e => hne (by rw [e]))]⟩
  have at_ : ∀ (w : World) (o : Obj), r < w.heap.size → ({ w with heap := w.heap.setIfInBounds r o } : World).heap[r]? = some o := fun w o hlt => by
    show (w.heap.setIfInBounds r o)[r]? = _
    rw [Array.getElem?_setIfInBounds, if_pos rfl, if_pos hlt]
  cases hf : findM k l 0 with
  | none =>
    have hl : (lookM l k).getD z = z := by unfold lookM; rw [hf]; rfl
    refine ⟨clock, { w with heap := w.heap.setIfInBounds r (.map (es.push { key := keyV k, val := z, born := clock }) (clock + 1)) }, ?_, fr w _, fun w2 val hw2 => ?_⟩
    · unfold Instr.mapEntry
      simp only [Sem.run_bind, Sem.run_pure, run_underlying ht, Result.andThen_ok, MapKept.run_getObj_map h1, checkKey_ok, findKey_run k w l es.toList h2, hf, hz, MapKept.run_setObj_map _ h1, hl]
      rfl
    · rw [at_ w _ hlt] at hw2
      have hlt2 : r < w2.heap.size := (Array.getElem?_eq_some_iff.1 hw2).1
      have hidx : (es.push ⟨keyV k, z, clock⟩).findIdx? (fun e => ((e.born : Nat) : Int) == ((clock : Nat) : Int)) = some es.size := by
        rw [findIdx_arr]
        have := findIdx_born (l := (es.push ⟨keyV k, z, clock⟩).toList) (j := es.size) (e0 := ⟨keyV k, z, clock⟩) (by
          simp only [Array.toList_push, List.map_append, List.map_cons, List.map_nil]
          refine List.nodup_append.2 ⟨hb2, by simp, fun a ha c hc e1 => ?_⟩
          simp only [List.mem_singleton] at hc
          obtain ⟨x, hx, rfl⟩ := List.mem_map.1 ha
          have := hb1 x hx
          omega) (by simp)
        exact this
      have hmod : (es.push ⟨keyV k, z, clock⟩).modify es.size (fun e => { e with val := val }) = es.push ⟨keyV k, val, clock⟩ := by
        apply Array.ext'
        rw [Array.toList_modify, Array.toList_push, Array.toList_push, ← Array.length_toList, modify_last]
      refine ⟨{ w2 with heap := w2.heap.setIfInBounds r (.map (es.push ⟨keyV k, val, clock⟩) (clock + 1)) }, ?_, ?_, fr w2 _⟩
      · simp [Instr.entryStore, MapKept.run_getObj_map hw2, asInt, asIntOf, hidx, hmod, MapKept.run_setObj_map _ hw2, Result.andThen]
      · obtain ⟨w', hrun, hM, _⟩ := hP val
        have hrun2 : (Instr.mapUpdate t (.map (some r)) (keyV k) val).run Tryz.prog w = .ok () { w with heap := w.heap.setIfInBounds r (.map (es.push ⟨keyV k, val, clock⟩) (clock + 1)) } := by
          unfold Instr.mapUpdate
          simp only [Sem.run_bind, Sem.run_pure, run_underlying ht, Result.andThen_ok, MapKept.run_getObj_map h1, checkKey_ok, findKey_run k w l es.toList h2, hf, MapKept.run_setObj_map _ h1]
        rw [hrun2] at hrun
        injection hrun with _ hrun
        rw [← hrun] at hM
        exact hM.block (by rw [at_ w2 _ hlt2, at_ w _ hlt])
  | some p =>
    obtain ⟨j, v0⟩ := p
    have hl : (lookM l k).getD z = v0 := by unfold lookM; rw [hf]; rfl
    obtain ⟨_, hj⟩ := findM_at k l 0 j v0 hf
    rw [Nat.sub_zero] at hj
    have hjl : j < l.length := (List.getElem?_eq_some_iff.1 hj).1
    have hlen : es.toList.length = l.length := by
      have := congrArg List.length h2
      simpa using this
    have hje : j < es.size := by rw [← Array.length_toList]; omega
    have hkey : (es[j]'hje).key = keyV k := by
      have e1 : (es.toList.map (fun e => (e.key, e.val)))[j]? = some ((es[j]'hje).key, (es[j]'hje).val) := by
        rw [List.getElem?_map, Array.getElem?_toList, Array.getElem?_eq_getElem hje]; rfl
      rw [h2, List.getElem?_map, hj] at e1
      have := Option.some.inj e1
      exact (congrArg Prod.fst this).symm
    have hsame : Instr.sameBits 10000 (keyV k) (keyV k) = true := by
      rw [show (10000 : Nat) = 9998 + 1 + 1 from rfl]
      simp [Instr.sameBits, keyV]
    refine ⟨(es[j]'hje).born, { w with heap := w.heap.setIfInBounds r (.map (es.modify j fun e => { e with key := keyV k }) clock) }, ?_, fr w _, fun w2 val hw2 => ?_⟩
    · unfold Instr.mapEntry
      simp only [Sem.run_bind, Sem.run_pure, run_underlying ht, Result.andThen_ok, MapKept.run_getObj_map h1, checkKey_ok, findKey_run k w l es.toList h2, hf, hl]
      rw [Array.getElem?_eq_getElem hje]
      simp only [Option.map_some, Option.getD_some, hkey, Instr.keyThatStays, hsame, if_true, Sem.run_pure, Sem.run_bind, Result.andThen_ok, MapKept.run_setObj_map _ h1]
      rfl
    · rw [at_ w _ hlt] at hw2
      have hlt2 : r < w2.heap.size := (Array.getElem?_eq_some_iff.1 hw2).1
      have hm : (es.modify j fun e => { e with key := keyV k }).toList.map (·.born) = es.toList.map (·.born) := by
        rw [Array.toList_modify]
        apply List.ext_getElem?
        intro i
        rw [List.getElem?_map, List.getElem?_modify, List.getElem?_map]
        cases es.toList[i]? with
        | none => rfl
        | some x => by_cases e : j = i <;> simp [e]
      have hidx : (es.modify j fun e => { e with key := keyV k }).findIdx? (fun e => ((e.born : Nat) : Int) == (((es[j]'hje).born : Nat) : Int)) = some j := by
        rw [findIdx_arr]
        exact findIdx_born (l := (es.modify j fun e => { e with key := keyV k }).toList) (j := j) (e0 := { (es[j]'hje) with key := keyV k }) (by rw [hm]; exact hb2) (by
          rw [Array.toList_modify, List.getElem?_modify, Array.getElem?_toList, Array.getElem?_eq_getElem hje]
          simp)
      have hmod : (es.modify j fun e => { e with key := keyV k }).modify j (fun e => { e with val := val }) = es.modify j (fun e => { e with key := keyV k, val := val }) := by
        apply Array.ext'
        rw [Array.toList_modify, Array.toList_modify, Array.toList_modify]
        apply List.ext_getElem?
        intro i
        rw [List.getElem?_modify, List.getElem?_modify, List.getElem?_modify]
        cases es.toList[i]? with
        | none => rfl
        | some x => by_cases e : j = i <;> simp [e]
      refine ⟨{ w2 with heap := w2.heap.setIfInBounds r (.map (es.modify j (fun e => { e with key := keyV k, val := val })) clock) }, ?_, ?_, fr w2 _⟩
      · simp [Instr.entryStore, MapKept.run_getObj_map hw2, asInt, asIntOf, hidx, hmod, MapKept.run_setObj_map _ hw2, Result.andThen]
      · obtain ⟨w', hrun, hM, _⟩ := hP val
        have hrun2 : (Instr.mapUpdate t (.map (some r)) (keyV k) val).run Tryz.prog w = .ok () { w with heap := w.heap.setIfInBounds r (.map (es.modify j (fun e => { e with key := keyV k, val := val })) clock) } := by
          unfold Instr.mapUpdate
          simp only [Sem.run_bind, Sem.run_pure, run_underlying ht, Result.andThen_ok, MapKept.run_getObj_map h1, checkKey_ok, findKey_run k w l es.toList h2, hf]
          rw [Array.getElem?_eq_getElem hje]
          simp only [Option.map_some, Option.getD_some, hkey, Instr.keyThatStays, hsame, if_true, Sem.run_pure, Result.andThen_ok, MapKept.run_setObj_map _ h1]
        rw [hrun2] at hrun
        injection hrun with _ hrun
        rw [← hrun] at hM
        exact hM.block (by rw [at_ w2 _ hlt2, at_ w _ hlt])
end Go.Proofs.YtebnmghjdoblaaaGreatDoor

/- Maps of rows of nodes; the code's childrenOf (layer 12). -/
namespace Go.Proofs.YtebnmghjdoblaaaGreatDoor
open Go.RowKit
set_option linter.unusedSimpArgs false

/-- A key's row in a map. -/
def rowM (l : List ((Int × Int) × Value)) (k : Int × Int) : Value := (lookM l k).getD (.slice none 0 0)

/-- Block r is a map of rows of nodes of the call's own, no two of them in one block. -/
def MapG (w : World) (B r : Nat) (G : Int × Int → List NodeT) : Prop := ∃ l, MapSV w r l ∧ (∀ k, OwnN w B (rowM l k) (G k)) ∧ ∀ k q, k ≠ q → (rowM l k).ownBlock = none ∨ (rowM l k).ownBlock ≠ (rowM l q).ownBlock

theorem MapG.lt {w : World} {B r : Nat} {G : Int × Int → List NodeT} (h : MapG w B r G) : r < w.heap.size := by
  obtain ⟨l, h, _⟩ := h; exact h.lt

theorem MapG.made (w : World) : MapG (w.alloc (.map #[] 0)) (w.heap.size + 1) w.heap.size (fun _ => []) := ⟨[], MapSV.made w, fun _ => OwnN.nil _ _, fun _ _ _ => .inl rfl⟩

theorem MapG.on {w w' : World} {B r : Nat} {G : Int × Int → List NodeT} (h : MapG w B r G) (hb : Below w.heap.size w w') : MapG w' B r G := by
  obtain ⟨l, h1, h2, h3⟩ := h
  exact ⟨l, h1.on hb, fun k => owns_on (h2 k) hb, h3⟩

theorem MapG.ext {w : World} {B r : Nat} {G G' : Int × Int → List NodeT} (h : MapG w B r G) (e : ∀ q, G q = G' q) : MapG w B r G' := by
  have : G = G' := funext e
  rw [← this]; exact h

/-- 'c[k]'. -/
theorem MapG.look {w : World} {B r : Nat} {G : Int × Int → List NodeT} (h : MapG w B r G) (t et : TypeId) (ht : Tryz.prog.underlying t = some (.map 36 et)) (hz : ∀ w, (zeroValue et).run Tryz.prog w = .ok (.slice none 0 0) w) (k : Int × Int) :
    ∃ v, (Instr.lookup t (.map (some r)) (keyV k) false).run Tryz.prog w = .ok v w ∧ OwnN w B v (G k) := by
  obtain ⟨l, h1, h2, _⟩ := h
  exact ⟨rowM l k, MapSV.look h1 t et ht _ hz k false, h2 k⟩

/-- 'c[k] = append(c[k], x)'. -/
theorem MapG.step {w : World} {B r : Nat} {G : Int × Int → List NodeT} (h : MapG w B r G) (hr : r < B) (t et : TypeId) (ht : Tryz.prog.underlying t = some (.map 36 et)) (hz : ∀ w, (zeroValue et).run Tryz.prog w = .ok (.slice none 0 0) w) (k : Int × Int) :
    ∃ (v : Value) (st : Int) (w1 : World), (Instr.mapEntry t (.map (some r)) (keyV k)).run Tryz.prog w = .ok (.tuple #[v, .int .i64 st]) w1 ∧ w.grownBy w1 (some r) ∧ OwnN w1 B v (G k) ∧
      ∀ (w2 : World) (v' : Value) (x : NodeT), w1.grownBy w2 v.ownBlock → OwnN w2 B v' (G k ++ [x]) → (v'.ownBlock = v.ownBlock ∨ v'.ownBlock = some w1.heap.size) →
        ∃ w3, (Instr.entryStore t (.map (some r)) (.int .i64 st) v').run Tryz.prog w2 = .ok () w3 ∧ MapG w3 B r (fun q => if q = k then G k ++ [x] else G q) ∧ w2.grownBy w3 (some r) := by
  obtain ⟨l, h1, h2, h3⟩ := h
  obtain ⟨st, w1, e1, g1, back⟩ := MapSV.entry h1 t et ht _ hz k
  have off : ∀ q, (rowM l q).ownBlock = none ∨ (rowM l q).ownBlock ≠ some r := fun q => .inr (fun e => by have := (World.ownsRow.lt (h2 q) r e).1; omega)
  have hk1 : ∀ q, OwnN w1 B (rowM l q) (G q) := fun q => World.ownsRow.kept (h2 q) g1 (off q)
  refine ⟨rowM l k, st, w1, e1, g1, hk1 k, fun w2 v' x g2 ho hloc => ?_⟩
  have hrw : r < w1.heap.size := Nat.lt_of_lt_of_le h1.lt g1.size
  have hrk : some r ≠ (rowM l k).ownBlock := fun e => by have := (World.ownsRow.lt (h2 k) r e.symm).1; omega
  obtain ⟨w3, e3, m3, g3⟩ := back w2 v' (g2.block r hrw hrk)
  have look : ∀ q, rowM (putM l k v') q = if q = k then v' else rowM l q := fun q => by
    unfold rowM
    rw [lookM_put]
    by_cases e : q = k
    · rw [if_pos e, if_pos e]; rfl
    · rw [if_neg e, if_neg e]
  have hq2 : ∀ q, q ≠ k → OwnN w2 B (rowM l q) (G q) := fun q hq => World.ownsRow.kept (hk1 q) g2 (h3 q k hq)
  have hv' : v'.ownBlock = none ∨ v'.ownBlock ≠ some r := .inr (fun e => by have := (World.ownsRow.lt ho r e).1; omega)
  have apart : ∀ q, q ≠ k → (rowM l q).ownBlock = none ∨ (rowM l q).ownBlock ≠ v'.ownBlock := fun q hq => by
    rcases hloc with e | e
    · rw [e]; exact h3 q k hq
    · refine .inr (fun e2 => ?_)
      rw [e] at e2
      have := (World.ownsRow.lt (hk1 q) _ e2).2
      omega
  refine ⟨w3, e3, ⟨_, m3, fun q => ?_, fun q p hne => ?_⟩, g3⟩
  · show OwnN w3 B _ (if q = k then G k ++ [x] else G q)
    rw [look]
    by_cases e : q = k
    · rw [if_pos e, if_pos e]; exact World.ownsRow.kept ho g3 hv'
    · rw [if_neg e, if_neg e]; exact World.ownsRow.kept (hq2 q e) g3 (off q)
  · rw [look, look]
    by_cases e : q = k
    · have hp : p ≠ k := fun e2 => hne (e.trans e2.symm)
      rw [if_pos e, if_neg hp]
      rcases apart p hp with h | h
      · rw [h]
        cases hv : v'.ownBlock with
        | none => exact .inl rfl
        | some g => exact .inr (by simp)
      · exact .inr (fun e2 => h e2.symm)
    · rw [if_neg e]
      by_cases e2 : p = k
      · rw [if_pos e2]; exact apart q e
      · rw [if_neg e2]; exact h3 q p hne

theorem zeroRowN (w : World) : (zeroValue 22).run Tryz.prog w = .ok (.slice none 0 0) w := by kernel_rfl

theorem size_newV (W : World) (o : Obj) : (W.alloc o).heap.size = W.heap.size + 1 := by simp

theorem cells_newV (W : World) (cs : Array Value) (e : TypeId) : ∀ j u, cs.toList[j]? = some u → (W.alloc (.cells cs e)).cell? ((⟨W.heap.size, 0, none⟩ : Addr).add j) = some u := by
  intro j u hj
  rw [Go.WideShapes.add_plain, Nat.zero_add, cell_of_row _ _ _ cs e (0, 0) (heap_alloc_last W _)]
  simpa using hj

set_option maxRecDepth 100000 in
set_option maxHeartbeats 8000000 in
theorem childrenOf_any (l : List NodeT) (a : Option Addr) (n c : Nat) (w : World) (hn : n ≤ 60000) (hI : NodesAt w a n l) :
    Calls Tryz.prog 27 #[.slice a n c] w fun e w' => e = .returned (.map (some w.heap.size)) ∧ MapG w' (w.heap.size + 1) w.heap.size (fun q => kidsP l q l.length) ∧ Below w.heap.size w w' := by
  have HI : Hid (NodesAt w a n l) := hI
  have HN : Hid (l.length = n) := hI.1
  obtain ⟨i0, hi, hz0, hz1, hz2⟩ := info_parts Tryz.infoNodeV
  have HM0 : Hid (MapG (w.alloc (.map #[] 0)) (w.heap.size + 1) w.heap.size (fun q => kidsP l q 0)) := (MapG.made w).ext (fun _ => rfl)
  have HB0 : Hid (Below w.heap.size w (w.alloc (.map #[] 0))) := below_new _ _
  have hmm := @run_makeMap Tryz.prog
  clear hI
  go_enter Tryz.func27, Tryz.ntmps27
  go_wp2_with fail
  clear hmm
  go_loopw [9] (fun i wr => ∃ k : Nat, k ≤ n ∧ i = .int .i64 k ∧ Hid (MapG wr (w.heap.size + 1) w.heap.size (fun q => kidsP l q k)) ∧ Hid (Below w.heap.size w wr)) (fun i _ => n - (intOf i).toNat)
  case atStart => exact ⟨0, Nat.zero_le _, rfl, HM0, HB0⟩
  case round =>
    obtain ⟨k, hk, rfl, HM, HB⟩ := hrel
    by_cases hlt : k < n
    · have b0 : (k : Int) < (n : Int) := by omega
      obtain ⟨b, off, rfl, _⟩ := HI.out.2.some (by omega)
      have hat := HI.out.below HB.out
      obtain ⟨x0, x1, x2, x3, x4, x5⟩ := hat.cells k hlt
      have HK : Hid (∀ q, (if q = (nL l k).2.1 then kidsP l (nL l k).2.1 k ++ [nL l k] else kidsP l q k) = kidsP l q (k + 1)) := fun q => by
        show _ = if (nL l k).2.1 = q then kidsP l q k ++ [nL l k] else kidsP l q k
        by_cases e : q = (nL l k).2.1
        · rw [if_pos e, if_pos e.symm, e]
        · rw [if_neg e, if_neg (fun h => e h.symm)]
      obtain ⟨O, hO⟩ : ∃ O, kidsP l (nL l k).2.1 k = O := ⟨_, rfl⟩
      have hOl : O.length ≤ k := by rw [← hO]; exact kidsP_len _ _ _
      obtain ⟨⟨⟨m1, m2⟩, ⟨m3, m4⟩, m5, m6⟩, hnd⟩ : ∃ nd, nd = nL l k := ⟨_, rfl⟩
      rw [← hnd] at x0 x1 x2 x3 x4 x5 hO HK
      simp only at x0 x1 x2 x3 x4 x5 hO
      have HM2 := (HM.out.on (below_new wr (.cells #[.int .i64 m1, .int .i64 m2, .int .i64 m3, .int .i64 m4, .string m5, .string m6] 45))).on (below_new _ (.cells #[.int .i64 m1, .int .i64 m2, .int .i64 m3, .int .i64 m4, .string m5, .string m6] 45))
      obtain ⟨v, st, w3, hent, g3, ho3, back⟩ := HM2.step (Nat.lt_succ_self _) 61 22 Tryz.underlying61 zeroRowN (m3, m4)
      simp only [keyV] at hent
      simp only [hO] at ho3 back
      have hMlt := HM.out.lt
      have HC : Hid (∀ j u, (#[.int .i64 m1, .int .i64 m2, .int .i64 m3, .int .i64 m4, .string m5, .string m6] : Array Value).toList[j]? = some u → w3.cell? ((⟨wr.heap.size + 1, 0, none⟩ : Addr).add j) = some u) := fun j u hj => by
        have h1 := cells_newV (wr.alloc (.cells #[.int .i64 m1, .int .i64 m2, .int .i64 m3, .int .i64 m4, .string m5, .string m6] 45)) #[.int .i64 m1, .int .i64 m2, .int .i64 m3, .int .i64 m4, .string m5, .string m6] 45 j u hj
        have hsz : (wr.alloc (.cells #[.int .i64 m1, .int .i64 m2, .int .i64 m3, .int .i64 m4, .string m5, .string m6] 45)).heap.size = wr.heap.size + 1 := size_newV _ _
        rw [hsz] at h1
        rw [Go.WideShapes.add_plain, Nat.zero_add] at h1 ⊢
        refine g3.cell h1 (fun e => ?_)
        have : wr.heap.size + 1 = w.heap.size := Option.some.inj e
        omega
      have HB3 : Hid (Below w.heap.size w w3) := by
        have h1 : Below w.heap.size w ((wr.alloc (.cells #[.int .i64 m1, .int .i64 m2, .int .i64 m3, .int .i64 m4, .string m5, .string m6] 45)).alloc (.cells #[.int .i64 m1, .int .i64 m2, .int .i64 m3, .int .i64 m4, .string m5, .string m6] 45)) := below_step (below_step HB.out (Nat.le_refl _) (below_new _ _)) (Nat.le_refl _) (below_new _ _)
        exact h1.grown g3 h1.size (fun j e => by cases e; exact Nat.le_refl _)
      have HS3 : Hid (w.heap.size + 1 ≤ w3.heap.size) := by
        show _ ≤ _
        have := g3.size
        rw [size_newV, size_newV] at this
        omega
      have HG3 : Hid (w3.heap.size = w3.heap.size) := rfl
      have HO3 : Hid (OwnN w3 (w.heap.size + 1) v O) := ho3
      have HBk : Hid (∀ (w2 : World) (v' : Value) (x : NodeT), w3.grownBy w2 v.ownBlock → OwnN w2 (w.heap.size + 1) v' (O ++ [x]) → (v'.ownBlock = v.ownBlock ∨ v'.ownBlock = some w3.heap.size) → _) := back
      clear hat hnd ho3 back g3 HM2
      go_wp2_with (at_builtin; refine wpList_append_own_at _ rfl (.tmp 16) (.tmp 18) 22 rfl (w.heap.size + 1) 45 i0 _ 6 64 Tryz.underlying22 hi hz0 hz1 hz2 rfl (by decide) v O.length _ rfl HO3.out ⟨wr.heap.size + 1, 0, none⟩ 1 1 (#[.int .i64 m1, .int .i64 m2, .int .i64 m3, .int .i64 m4, .string m5, .string m6] : Array Value).toList rfl rfl HC.out (nodeA_oneV ((m1, m2), (m3, m4), m5, m6)) (by unfold maxLen; omega) (by omega) HS3.out ?_)
      intro v' w4 ho4 g4 _ hloc
      obtain ⟨w5, hst, hM5, g5⟩ := HBk.out w4 v' ((m1, m2), (m3, m4), m5, m6) g4 (by unfold OwnN; rw [cellsN_snoc, List.length_append]; exact ho4) hloc
      have HB5 : Hid (Below w.heap.size w w5) := by
        have h4 : Below w.heap.size w w4 := HB3.out.grown g4 HB3.out.size (fun j e => by have := (World.ownsRow.lt HO3.out j e).1; omega)
        exact h4.grown g5 h4.size (fun j e => by cases e; exact Nat.le_refl _)
      have HM5 : Hid (MapG w5 (w.heap.size + 1) w.heap.size (fun q => kidsP l q (k + 1))) := hM5.ext (fun q => by
        rw [← HK.out q, hO])
      clear hM5 g4 g5 hloc ho4 HBk HO3 HC HS3 HB3 hent HG3
      go_wp2_with fail
      refine ⟨?_, ?_⟩
      · first
        | exact ⟨k + 1, by omega, by go_num, HM5, HB5⟩
        | ((repeat apply Exists.intro); refine ⟨?_, rfl⟩; exact ⟨k + 1, by omega, by go_num, HM5, HB5⟩)
      · simp [intOf] <;> omega
    · obtain rfl : k = n := by omega
      have b0 : ¬ ((k : Int) < (k : Int)) := by omega
      have HF : Hid (MapG wr (w.heap.size + 1) w.heap.size (fun q => kidsP l q l.length)) := by show MapG _ _ _ _; rw [HN.out]; exact HM.out
      go_wp2_with fail
      go_ret
      exact ⟨rfl, HF.out, HB.out⟩
end Go.Proofs.YtebnmghjdoblaaaGreatDoor

/- The code's below (layer 12): it calls itself. -/
namespace Go.Proofs.YtebnmghjdoblaaaGreatDoor
open Go.RowKit
set_option linter.unusedSimpArgs false

theorem idsD_lenK (l : List NodeT) (f : Nat) (p : Int × Int) : (idsD l (f + 1) p).length = (kidS l p).length + ((kidS l p).map (fun q => (idsD l f q).length)).sum := by
  show ((kidS l p).flatMap (fun q => q :: idsD l f q)).length = _
  induction kidS l p with
  | nil => rfl
  | cons q qs ih => rw [List.flatMap_cons, List.length_append, ih]; simp; omega

/-- How many stand below the first ones of a row. -/
def sumB (l : List NodeT) (f : Nat) (ks : List NodeT) : Nat → Nat
  | 0 => 0
  | k + 1 => sumB l f ks k + (idsD l f (nL ks k).1).length

theorem sumB_all (l : List NodeT) (f : Nat) (ks : List NodeT) : ∀ k, k ≤ ks.length → sumB l f ks k = ((ks.take k).map (fun x => (idsD l f x.1).length)).sum := by
  intro k
  induction k with
  | zero => intro _; rfl
  | succ k ih =>
    intro h
    rw [List.take_succ_eq_append_getElem (by omega), List.map_append, List.sum_append, ← ih (by omega), ← nL_getE ks k (by omega)]
    simp [sumB]

theorem sumB_mono (l : List NodeT) (f : Nat) (ks : List NodeT) {i j : Nat} (h : i ≤ j) : sumB l f ks i ≤ sumB l f ks j := by
  induction j with
  | zero => have : i = 0 := by omega
            rw [this]; exact Nat.le_refl _
  | succ j ih =>
    by_cases e : i = j + 1
    · rw [e]; exact Nat.le_refl _
    · have := ih (by omega)
      show _ ≤ sumB l f ks j + _
      omega

theorem idsD_sumB (l : List NodeT) (f : Nat) (p : Int × Int) : (idsD l (f + 1) p).length = (kidsP l p l.length).length + sumB l f (kidsP l p l.length) (kidsP l p l.length).length := by
  rw [idsD_lenK, sumB_all _ _ _ _ (Nat.le_refl _), List.take_length]
  unfold kidS
  rw [List.length_map, List.map_map]
  rfl

set_option maxRecDepth 100000 in
set_option maxHeartbeats 8000000 in
theorem below_any (l : List NodeT) (hnd : (l.map (fun x => x.1)).Nodup) (r0 : Int × Int) (hr0 : ∀ y ∈ l, y.1 ≠ r0) (hl : l.length ≤ 60000) (B r : Nat) : ∀ (f d : Nat) (p : Int × Int) (w : World), Low l f p → UpTo l r0 d p → MapG w B r (fun q => kidsP l q l.length) →
    Calls Tryz.prog 57 #[.map (some r), .agg #[.int .i64 p.1, .int .i64 p.2]] w fun e w' => e = .returned (.int .i64 (idsD l f p).length) ∧ Below w.heap.size w w' := by
  intro f
  induction f with
  | zero => intro d p w h; exact absurd h id
  | succ f ih =>
    intro d p w hlow hup hG
    have HT : Hid ((idsD l (f + 1) p).length = (kidsP l p l.length).length + sumB l f (kidsP l p l.length) (kidsP l p l.length).length) := idsD_sumB l f p
    have hle : (idsD l (f + 1) p).length ≤ l.length := by
      have := pigeon _ _ (idsD_nodup hnd hr0 (f + 1) d p hup) (fun v hv => idsD_sub hv)
      rwa [List.length_map] at this
    obtain ⟨T, hT⟩ : ∃ T, (idsD l (f + 1) p).length = T := ⟨_, rfl⟩
    rw [hT] at HT hle ⊢
    have HC : Hid (∀ k, k < (kidsP l p l.length).length → ∀ W, MapG W B r (fun q => kidsP l q l.length) → Calls Tryz.prog 57 #[.map (some r), .agg #[.int .i64 (nL (kidsP l p l.length) k).1.1, .int .i64 (nL (kidsP l p l.length) k).1.2]] W fun e w' => e = .returned (.int .i64 (idsD l f (nL (kidsP l p l.length) k).1).length) ∧ Below W.heap.size W w') := fun k hk W hW => by
      have hm : (nL (kidsP l p l.length) k).1 ∈ kidS l p := List.mem_map.2 ⟨_, (by rw [nL_getE _ k hk]; exact List.getElem_mem hk), rfl⟩
      exact ih (1 + d) _ W (hlow _ hm) (upTo_add hup (upTo_kid hm)) hW
    have hkl : (kidsP l p l.length).length ≤ l.length := kidsP_len _ _ _
    obtain ⟨v, hlk, hov⟩ := (hG.on (below_new w (.cells #[.int .i64 p.1, .int .i64 p.2] 36))).look 61 22 Tryz.underlying61 zeroRowN p
    obtain ⟨ad, cap, rfl, hat⟩ := OwnN.nodes hov
    have HG : Hid (MapG (w.alloc (.cells #[.int .i64 p.1, .int .i64 p.2] 36)) B r (fun q => kidsP l q l.length)) := hG.on (below_new _ _)
    obtain ⟨KS, hKS⟩ : ∃ KS, kidsP l p l.length = KS := ⟨_, rfl⟩
    simp only [hKS] at hlk hov hat HC HT hkl
    have HAt : Hid (NodesAt (w.alloc (.cells #[.int .i64 p.1, .int .i64 p.2] 36)) ad KS.length KS) := hat
    obtain ⟨n, hn⟩ : ∃ n, KS.length = n := ⟨_, rfl⟩
    rw [hn] at hlk HAt HC HT hkl
    have HB0 : Hid (Below w.heap.size w (w.alloc (.cells #[.int .i64 p.1, .int .i64 p.2] 36))) := below_new _ _
    have HLw : Hid (∀ k, k ≤ n → n + sumB l f KS k ≤ T) := fun k hk => by have := HT.out; have := sumB_mono l f KS hk; omega
    have x0 : (w.alloc (.cells #[.int .i64 p.1, .int .i64 p.2] 36)).cell? ⟨w.heap.size, 0, none⟩ = some (.int .i64 p.1) := (Blk.new _ _ _).cell 0
    have x1 : (w.alloc (.cells #[.int .i64 p.1, .int .i64 p.2] 36)).cell? ⟨w.heap.size, 1, none⟩ = some (.int .i64 p.2) := (Blk.new _ _ _).cell 1
    obtain ⟨t, u⟩ := p
    simp only [keyV] at hlk x0 x1 HG HAt HB0 ⊢
    clear ih hlow hup hG hov hat hKS hn hT
    go_enter Tryz.func57, Tryz.ntmps57
    go_wp2_with fail
    obtain ⟨W0, hW0⟩ : ∃ W0, w.alloc (.cells #[.int .i64 t, .int .i64 u] 36) = W0 := ⟨_, rfl⟩
    rw [hW0] at HG HAt HB0
    try rw [hW0]
    clear hlk x0 x1 hW0
    go_loopw [5, 16] (fun s i wr => ∃ k X : Nat, k ≤ n ∧ i = .int .i64 k ∧ s = .int .i64 X ∧ X ≤ T ∧ Hid (X = n + sumB l f KS k) ∧ Hid (Below W0.heap.size W0 wr)) (fun _ i _ => n - (intOf i).toNat)
    case atStart => exact ⟨0, n, Nat.zero_le _, rfl, rfl, by have := HLw.out 0 (Nat.zero_le _); omega, rfl, Below.refl _ _⟩
    case round =>
      obtain ⟨k, X, hk, rfl, rfl, hXT, HX, HB⟩ := hrel
      by_cases hlt : k < n
      · have b0 : (k : Int) < (n : Int) := by omega
        obtain ⟨b, off, rfl, _⟩ := HAt.out.2.some (by omega)
        obtain ⟨x0, x1, x2, x3, x4, x5⟩ := (HAt.out.below HB.out).cells k hlt
        have CK : ∀ W, MapG W B r (fun q => kidsP l q l.length) → _ := fun W hW => HC.out k hlt W hW
        have hX1 : X + (idsD l f (nL KS k).1).length = n + sumB l f KS (k + 1) := by rw [HX.out]; show _ = n + (sumB l f KS k + _); omega
        have hXT1 : X + (idsD l f (nL KS k).1).length ≤ T := by rw [hX1]; exact HLw.out (k + 1) (by omega)
        obtain ⟨Y, hY⟩ : ∃ Y, (idsD l f (nL KS k).1).length = Y := ⟨_, rfl⟩
        rw [hY] at hX1 hXT1
        simp only [hY] at CK
        have HX1 : Hid (X + Y = n + sumB l f KS (k + 1)) := hX1
        have w9 : IntKind.i64.wrap ((X : Int) + (Y : Int)) = ((X + Y : Nat) : Int) := by rw [IntKind.wrap_i64]; omega
        obtain ⟨⟨⟨m1, m2⟩, ⟨m3, m4⟩, m5, m6⟩, hnd'⟩ : ∃ nd, nd = nL KS k := ⟨_, rfl⟩
        rw [← hnd'] at x0 x1 x2 x3 x4 x5
        simp only [← hnd'] at CK
        simp only at x0 x1 x2 x3 x4 x5
        have HCK : Hid (∀ W, MapG W B r (fun q => kidsP l q l.length) → _) := CK
        clear hnd' CK hY hX1
        go_wp2_with fail
        obtain ⟨W1, hW1⟩ : ∃ W1, wr.alloc (.cells #[.int .i64 m1, .int .i64 m2, .int .i64 m3, .int .i64 m4, .string m5, .string m6] 45) = W1 := ⟨_, rfl⟩
        have HB1 : Hid (Below W0.heap.size W0 W1) := by show Below _ _ _; rw [← hW1]; exact below_step HB.out (Nat.le_refl _) (below_new _ _)
        try rw [hW1]
        clear hW1 x0 x1 x2 x3 x4 x5
        refine (HCK.out W1 (HG.out.on HB1.out)).mono ?_
        rintro e w2 ⟨rfl, hb2⟩
        have HB2 : Hid (Below W0.heap.size W0 w2) := below_step HB1.out (Nat.le_refl _) hb2
        clear hb2 HCK
        go_wp2_with fail
        refine ⟨?_, ?_⟩
        · first
          | exact ⟨k + 1, X + Y, by omega, by go_num, by go_num, hXT1, HX1, HB2⟩
          | ((repeat apply Exists.intro); refine ⟨?_, rfl⟩; exact ⟨k + 1, X + Y, by omega, by go_num, by go_num, hXT1, HX1, HB2⟩)
        · simp [intOf] <;> omega
      · obtain rfl : k = n := by omega
        have b0 : ¬ ((k : Int) < (k : Int)) := by omega
        obtain rfl : X = T := by rw [HX.out, HT.out]
        go_wp2_with fail
        go_ret
        exact ⟨rfl, below_step HB0.out (Nat.le_refl _) HB.out⟩
end Go.Proofs.YtebnmghjdoblaaaGreatDoor

/- The code's root, trash, leadUp, Check (layer 12). -/
namespace Go.Proofs.YtebnmghjdoblaaaGreatDoor
open Go.RowKit
set_option linter.unusedSimpArgs false

set_option maxHeartbeats 1000000 in
theorem rootV_any (w : World) : Calls Tryz.prog 29 #[] w fun e w' => e = .returned (.agg #[.int .i64 0, .int .i64 0]) ∧ Below w.heap.size w w' := by
  have HB : Hid (Blk (w.alloc (.cells #[.int .i64 0, .int .i64 0] 36)) 36 w.heap.size #[.int .i64 0, .int .i64 0]) := Blk.new _ _ _
  go_enter Tryz.func29, Tryz.ntmps29
  go_wp2_with fail
  exact bodyPost_row rfl w.heap.size #[.int .i64 0, .int .i64 0] rfl rfl HB.out _ Tryz.underlying36 rfl (by kernel_rfl) ⟨rfl, below_new w _⟩

set_option maxHeartbeats 1000000 in
theorem trashV_any (w : World) : Calls Tryz.prog 58 #[] w fun e w' => e = .returned (.agg #[.int .i64 0, .int .i64 1]) ∧ Below w.heap.size w w' := by
  have HB : Hid (Blk (w.alloc (.cells #[.int .i64 0, .int .i64 0] 36)) 36 w.heap.size #[.int .i64 0, .int .i64 0]) := Blk.new _ _ _
  go_enter Tryz.func58, Tryz.ntmps58
  go_wp2_with (with_reducible refine wpList_storeBlk rfl 36 _ _ rfl w.heap.size #[.int .i64 0, .int .i64 0] #[.int .i64 0, .int .i64 1] ?hx ?hy HB.out rfl ?hi ?h1 ?_)
  try (case hx => rfl)
  try (case hy => rfl)
  try (case hi => kernel_rfl)
  try (case h1 => simp [Value.oneCell'])
  exact bodyPost_row rfl w.heap.size #[.int .i64 0, .int .i64 1] rfl rfl (HB.out.setRow _) _ Tryz.underlying36 rfl (by kernel_rfl) ⟨rfl, below_setRow (below_new w _) (Nat.le_refl _) _⟩

set_option maxRecDepth 100000 in
set_option maxHeartbeats 8000000 in
theorem leadUp_any (l : List NodeT) (hE : EachV l) (a : Option Addr) (n c : Nat) (w : World) (hn : n ≤ 60000) (hI : NodesAt w a n l) (D : Bool) (hD : D = true ↔ (idsD l (l.length + 1) (0, 0)).length + (idsD l (l.length + 1) (0, 1)).length = l.length) :
    Calls Tryz.prog 35 #[.slice a n c] w fun e w' => e = .returned (.bool D) ∧ Below w.heap.size w w' := by
  have hN : l.length = n := hI.1
  have CO : Hid (Calls _ _ _ _ _) := childrenOf_any l a n c w hn hI
  have h0 := each_out hE (r := (0, 0)) rfl
  have h1 := each_out hE (r := (0, 1)) rfl
  have hnd := each_nodup hE
  have HC0 : Hid (∀ W, MapG W (w.heap.size + 1) w.heap.size (fun q => kidsP l q l.length) → _) := fun W hW => below_any l hnd (0, 0) h0 (by omega) _ _ (l.length + 1) 0 (0, 0) W (low_of hnd h0 _ 0 _ rfl (by omega)) rfl hW
  have HC1 : Hid (∀ W, MapG W (w.heap.size + 1) w.heap.size (fun q => kidsP l q l.length) → _) := fun W hW => below_any l hnd (0, 1) h1 (by omega) _ _ (l.length + 1) 0 (0, 1) W (low_of hnd h1 _ 0 _ rfl (by omega)) rfl hW
  have l0 := idsD_len hnd h0 (l.length + 1)
  have l1 := idsD_len hnd h1 (l.length + 1)
  obtain ⟨X, hX⟩ : ∃ X, (idsD l (l.length + 1) (0, 0)).length = X := ⟨_, rfl⟩
  obtain ⟨Y, hY⟩ : ∃ Y, (idsD l (l.length + 1) (0, 1)).length = Y := ⟨_, rfl⟩
  rw [hX] at HC0 l0 hD
  rw [hY] at HC1 l1 hD
  rw [hN] at l0 l1 hD
  have w9 : IntKind.i64.wrap ((X : Int) + (Y : Int)) = ((X + Y : Nat) : Int) := by rw [IntKind.wrap_i64]; omega
  have hd : (decide (((X + Y : Nat) : Int) = (n : Int))) = D := by
    cases D with
    | true => exact decide_eq_true (by have := hD.1 rfl; omega)
    | false => exact decide_eq_false (fun e => by have := hD.2 (by omega); cases this)
  clear hX hY hnd h0 h1 hI
  go_enter Tryz.func35, Tryz.ntmps35
  go_wp2_with fail
  refine CO.out.mono ?_
  rintro e w1 ⟨rfl, hM1, hb1⟩
  have HM1 : Hid (MapG w1 (w.heap.size + 1) w.heap.size (fun q => kidsP l q l.length)) := hM1
  have HB1 : Hid (Below w.heap.size w w1) := hb1
  clear CO hM1 hb1
  go_wp2_with fail
  refine (rootV_any _).mono ?_
  rintro e w2 ⟨rfl, hb2⟩
  have HM2 : Hid (MapG w2 (w.heap.size + 1) w.heap.size (fun q => kidsP l q l.length)) := HM1.out.on hb2
  have HB2 : Hid (Below w.heap.size w w2) := below_step HB1.out (Nat.le_refl _) hb2
  clear hb2 HM1 HB1
  go_wp2_with fail
  refine (HC0.out _ HM2.out).mono ?_
  rintro e w3 ⟨rfl, hb3⟩
  have HM3 : Hid (MapG w3 (w.heap.size + 1) w.heap.size (fun q => kidsP l q l.length)) := HM2.out.on hb3
  have HB3 : Hid (Below w.heap.size w w3) := below_step HB2.out (Nat.le_refl _) hb3
  clear hb3 HM2 HB2
  go_wp2_with fail
  refine (trashV_any _).mono ?_
  rintro e w4 ⟨rfl, hb4⟩
  have HM4 : Hid (MapG w4 (w.heap.size + 1) w.heap.size (fun q => kidsP l q l.length)) := HM3.out.on hb4
  have HB4 : Hid (Below w.heap.size w w4) := below_step HB3.out (Nat.le_refl _) hb4
  clear hb4 HM3 HB3
  go_wp2_with fail
  refine (HC1.out _ HM4.out).mono ?_
  rintro e w5 ⟨rfl, hb5⟩
  have HB5 : Hid (Below w.heap.size w w5) := below_step HB4.out (Nat.le_refl _) hb5
  clear hb5 HM4 HB4 HC0 HC1
  go_wp2_with fail
  go_ret
  exact ⟨by rw [← hd]; simp; rfl, HB5.out⟩

theorem boolOf (P : Prop) : ∃ b : Bool, b = true ↔ P := ⟨@decide P (Classical.propDecidable _), by simp⟩

set_option maxRecDepth 100000 in
set_option maxHeartbeats 8000000 in
theorem checkC_any (l : List NodeT) (a : Option Addr) (n c : Nat) (w : World) (hn : n ≤ 60000) (hz : ∀ k, k < n → (nL l k).2.2.1.size ≤ 1048576 ∧ (nL l k).2.2.2.size ≤ maxLen) (hI : NodesAt w a n l) (hG : Glob8 w) (D : Bool) (hD : D = true ↔ MayV l) :
    Calls Tryz.prog 15 #[.slice a n c] w fun e w' => e = .returned (.int .i64 (if D = true then 0 else 1)) ∧ Below w.heap.size w w' := by
  have hN : l.length = n := hI.1
  rw [mayV_count, each_one, hN] at hD
  have HI : Hid (NodesAt w a n l) := hI
  have HG : Hid (Glob8 w) := hG
  have HZ : Hid (∀ k, k < n → (nL l k).2.2.1.size ≤ 1048576 ∧ (nL l k).2.2.2.size ≤ maxLen) := hz
  obtain ⟨b1, hb1⟩ : ∃ b : Bool, b = true ↔ RiseV l := boolOf _
  obtain ⟨b2, hb2⟩ : ∃ b : Bool, b = true ↔ ∀ k, k < l.length → OneV (nL l k) := boolOf _
  obtain ⟨b3, hb3⟩ : ∃ b : Bool, b = true ↔ (idsD l (l.length + 1) (0, 0)).length + (idsD l (l.length + 1) (0, 1)).length = l.length := boolOf _
  have C1 : Hid (Calls _ _ _ _ _) := riseV_any l a n c w hn hI b1 hb1
  have C2 : Hid (∀ W, Below w.heap.size w W → Calls _ _ _ W _) := fun W hW => eachMay_any l a n c W hn hz (HI.out.below hW) (hG.below hW) b2 hb2
  have C3 : Hid (b1 = true → b2 = true → ∀ W, Below w.heap.size w W → Calls _ _ _ W _) := fun e1 e2 W hW => leadUp_any l ((each_one l).2 ⟨hb1.1 e1, hb2.1 e2⟩) a n c W hn (HI.out.below hW) b3 hb3
  have hb3' : b3 = true ↔ (idsD l (n + 1) (0, 0)).length + (idsD l (n + 1) (0, 1)).length = n := by rw [hN] at hb3; exact hb3
  have HDD : Hid (D = true ↔ n ≤ 512 ∧ (b1 = true ∧ b2 = true) ∧ b3 = true) := by show _ ↔ _; rw [hD, hb1, hb2, hb3', hN]
  clear hD hb1 hb2 hb3 hb3' hI hG hz
  by_cases h5 : n ≤ 512
  · have b0 : ¬ ((512 : Int) < (n : Int)) := by omega
    go_enter Tryz.func15, Tryz.ntmps15
    go_wp2_with fail
    refine C1.out.mono ?_
    rintro e w1 ⟨rfl, hB1⟩
    have HB1 : Hid (Below w.heap.size w w1) := hB1
    clear C1 hB1
    cases b1 with
    | false =>
      obtain rfl : D = false := by
        cases D with
        | false => rfl
        | true => exact absurd (HDD.out.1 rfl).2.1.1 (by simp)
      clear C2 C3 HDD
      go_wp2_with fail
      go_ret
      exact ⟨rfl, HB1.out⟩
    | true =>
      have C2' : Hid (Calls _ _ _ _ _) := C2.out w1 HB1.out
      clear C2
      go_wp2_with fail
      refine C2'.out.mono ?_
      rintro e w2 ⟨rfl, hB2⟩
      have HB2 : Hid (Below w.heap.size w w2) := below_step HB1.out (Nat.le_refl _) hB2
      clear C2' hB2 HB1
      cases b2 with
      | false =>
        obtain rfl : D = false := by
          cases D with
          | false => rfl
          | true => exact absurd (HDD.out.1 rfl).2.1.2 (by simp)
        clear C3 HDD
        go_wp2_with fail
        go_ret
        exact ⟨rfl, HB2.out⟩
      | true =>
        have C3' : Hid (Calls _ _ _ _ _) := C3.out (by first | rfl | trivial) (by first | rfl | trivial) w2 HB2.out
        clear C3
        go_wp2_with fail
        refine C3'.out.mono ?_
        rintro e w3 ⟨rfl, hB3⟩
        have HB3 : Hid (Below w.heap.size w w3) := below_step HB2.out (Nat.le_refl _) hB3
        clear C3' hB3 HB2
        cases b3 with
        | false =>
          obtain rfl : D = false := by
            cases D with
            | false => rfl
            | true => exact absurd (HDD.out.1 rfl).2.2 (by simp)
          clear HDD
          go_wp2_with fail
          go_ret
          exact ⟨rfl, HB3.out⟩
        | true =>
          obtain rfl : D = true := HDD.out.2 ⟨h5, ⟨by first | rfl | trivial, by first | rfl | trivial⟩, by first | rfl | trivial⟩
          clear HDD
          go_wp2_with fail
          go_ret
          exact ⟨rfl, HB3.out⟩
  · have b0 : (512 : Int) < (n : Int) := by omega
    obtain rfl : D = false := by
      cases D with
      | false => rfl
      | true => exact absurd (HDD.out.1 rfl).1 h5
    clear C1 C2 C3 HDD
    go_enter Tryz.func15, Tryz.ntmps15
    go_wp2_with fail
    go_ret
    exact ⟨rfl, Below.refl _ _⟩
end Go.Proofs.YtebnmghjdoblaaaGreatDoor
