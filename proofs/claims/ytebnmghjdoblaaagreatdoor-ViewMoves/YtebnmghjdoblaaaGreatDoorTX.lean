import Derived.Test.YtebnmghjdoblaaaGreatDoorRT
import Derived.Test.YtebnmghjdoblaaaGreatDoorR8
/- The document's with (layer 11). -/
namespace Go.Proofs.YtebnmghjdoblaaaGreatDoor
open Go.RowKit
set_option linter.unusedSimpArgs false

theorem Tryz.infoNode : (Tryz.prog.info? 45).map (fun i => (i.zero, i.size, i.bytes)) = some (some (.agg #[.int .i64 0, .int .i64 0, .int .i64 0, .int .i64 0, .string ⟨#[]⟩, .string ⟨#[]⟩]), 6, 64) := by kernel_rfl

theorem nodeA_one (x : (Int × Int) × (Int × Int) × ByteArray × ByteArray) : ∀ u ∈ (nodeA x).toList, u.oneCell' = true := by
  intro u hu
  simp [nodeA] at hu
  rcases hu with rfl | rfl | rfl | rfl | rfl | rfl <;> rfl

theorem own_on {w w' : World} {B : Nat} {v : Value} {l : List ((Int × Int) × (Int × Int) × ByteArray × ByteArray)} (h : OwnN w B v l) (hb : Below w.heap.size w w') : OwnN w' B v l := by
  obtain ⟨hl, h | ⟨g, cap, cur, hv, hB, hc, r⟩⟩ := h
  · exact ⟨hl, .inl h⟩
  · exact ⟨hl, .inr ⟨g, cap, cur, hv, hB, by rw [hb.block g (Array.getElem?_eq_some_iff.1 hc).1]; exact hc, r⟩⟩

theorem own_less {w : World} {B B' : Nat} {v : Value} {l : List ((Int × Int) × (Int × Int) × ByteArray × ByteArray)} (h : OwnN w B v l) (hb : B' ≤ B) : OwnN w B' v l := by
  obtain ⟨hl, h | ⟨g, cap, cur, hv, hB, r⟩⟩ := h
  · exact ⟨hl, .inl h⟩
  · exact ⟨hl, .inr ⟨g, cap, cur, hv, Nat.le_trans hb hB, r⟩⟩

set_option maxRecDepth 100000 in
set_option maxHeartbeats 4000000 in
theorem rwith11_any (l : List ((Int × Int) × (Int × Int) × ByteArray × ByteArray)) (nd : (Int × Int) × (Int × Int) × ByteArray × ByteArray) (a : Option Addr) (n c : Nat) (w : World) (hn : n ≤ 65536) (hI : NodesAt w a n l) :
    Calls Tryz.prog 67 #[.slice a n c, .agg (nodeA nd)] w fun e w' => ∃ v, e = .returned v ∧ OwnN w' w.heap.size v (withP l nd) ∧ Below w.heap.size w w' := by
  obtain ⟨i0, hi, hz0, hz1, hz2⟩ := info_parts Tryz.infoNode
  have hln := hI.1
  obtain ⟨⟨n1, n2⟩, ⟨n3, n4⟩, n5, n6⟩ := nd
  obtain ⟨X, hX⟩ : ∃ X : (Int × Int) × (Int × Int) × ByteArray × ByteArray, X = ((n1, n2), (n3, n4), n5, n6) := ⟨_, rfl⟩
  rw [← hX]
  have hXA : nodeA X = #[.int .i64 n1, .int .i64 n2, .int .i64 n3, .int .i64 n4, .string n5, .string n6] := by rw [hX]; rfl
  rw [hXA]
  have HI : Hid (NodesAt w a n l) := hI
  have HX : Hid (X = ((n1, n2), (n3, n4), n5, n6)) := hX
  clear hI hX
  go_enter Tryz.func67, Tryz.ntmps67
  go_wp2_with fail
  generalize hq : World.alloc w _ = w0
  have hb0 : Below w.heap.size w w0 := by rw [← hq]; exact below_new w _
  have hs0 : w.heap.size ≤ w0.heap.size := hb0.size
  have d0 : w0.cell? ⟨w.heap.size, 0, none⟩ = some (.int .i64 n1) := by rw [← hq]; simp
  have d1 : w0.cell? ⟨w.heap.size, 1, none⟩ = some (.int .i64 n2) := by rw [← hq]; simp
  have d2 : w0.cell? ⟨w.heap.size, 2, none⟩ = some (.int .i64 n3) := by rw [← hq]; simp
  have d3 : w0.cell? ⟨w.heap.size, 3, none⟩ = some (.int .i64 n4) := by rw [← hq]; simp
  have d4 : w0.cell? ⟨w.heap.size, 4, none⟩ = some (.string n5) := by rw [← hq]; simp
  have d5 : w0.cell? ⟨w.heap.size, 5, none⟩ = some (.string n6) := by rw [← hq]; simp
  have HI0 : Hid (NodesAt w0 a n l) := HI.out.below hb0
  clear hq HI
  go_loopw [5, 6, 7] (fun v d i wr => ∃ k : Nat, k ≤ n ∧ i = .int .i64 k ∧ d = .bool (withF l X k).2 ∧ OwnN wr w0.heap.size v (withF l X k).1 ∧ Below w0.heap.size w0 wr) (fun _ _ i _ => n - (intOf i).toNat)
  case atStart => exact ⟨0, Nat.zero_le _, rfl, rfl, OwnN.nil _ _, Below.refl _ _⟩
  case round =>
    obtain ⟨k, hk, rfl, rfl, hown, hbl⟩ := hrel
    have hle := withF_le l X k
    by_cases hlt : k < n
    · obtain ⟨b, off, rfl, _⟩ := HI0.out.2.some (by omega)
      obtain ⟨q0, q1, q2, q3, q4, q5⟩ := HI0.out.cells k hlt
      have b0 : (k : Int) < (n : Int) := by omega
      obtain ⟨Y, hY⟩ : ∃ Y, Y = nL l k := ⟨_, rfl⟩
      have HS : Hid (withF l X (k + 1) = if (nL l k).1 = X.1 then (if (withF l X k).2 = false ∧ ¬ LessS (nL l k).1 X.1 then ((withF l X k).1 ++ [X], true) else withF l X k) else ((if (withF l X k).2 = false ∧ ¬ LessS (nL l k).1 X.1 then ((withF l X k).1 ++ [X], true) else withF l X k).1 ++ [nL l k], (if (withF l X k).2 = false ∧ ¬ LessS (nL l k).1 X.1 then ((withF l X k).1 ++ [X], true) else withF l X k).2)) := rfl
      rw [← hY] at q0 q1 q2 q3 q4 q5 HS
      clear hY
      obtain ⟨⟨O, D⟩, hO⟩ : ∃ p, p = withF l X k := ⟨_, rfl⟩
      rw [← hO] at hown hle HS ⊢
      clear hO
      obtain ⟨⟨p1, p2⟩, ⟨p3, p4⟩, p5, p6⟩ := Y
      have hX1 : X.1 = (n1, n2) := by rw [HX.out]
      rw [hX1] at HS
      have CL := fun w => rless_any (p1, p2) (n1, n2) w
      cases D with
      | true =>

        have hOl : O.length ≤ k + 1 := by simpa using hle
        have HS1 : Hid (withF l X (k + 1) = if (p1, p2) = (n1, n2) then (O, true) else (O ++ [((p1, p2), (p3, p4), p5, p6)], true)) := by
          show _ = _
          rw [HS.out]
          simp only [Bool.true_eq_false, false_and, if_false]
        clear HS CL hle
        go_wp2_with fail
        go_quiet (fail)
        go_wp2_with fail
        generalize hq1 : World.drewN wr _ = w1
        have hB1 : Below w0.heap.size w0 w1 := by rw [← hq1]; exact below_drewN hbl _
        have hown1 : OwnN w1 w0.heap.size u5 O := by rw [← hq1]; exact hown
        clear hq1 hbl hown
        have x0 : w1.cell? ⟨b, off + k * 6, none⟩ = some (.int .i64 p1) := by rw [hB1.cell (World.block_lt_of_cell? w0 _ q0)]; exact q0
        have x1 : w1.cell? ⟨b, off + k * 6 + 1, none⟩ = some (.int .i64 p2) := by rw [hB1.cell (World.block_lt_of_cell? w0 _ q1)]; exact q1
        have x2 : w1.cell? ⟨b, off + k * 6 + 2, none⟩ = some (.int .i64 p3) := by rw [hB1.cell (World.block_lt_of_cell? w0 _ q2)]; exact q2
        have x3 : w1.cell? ⟨b, off + k * 6 + 3, none⟩ = some (.int .i64 p4) := by rw [hB1.cell (World.block_lt_of_cell? w0 _ q3)]; exact q3
        have x4 : w1.cell? ⟨b, off + k * 6 + 4, none⟩ = some (.string p5) := by rw [hB1.cell (World.block_lt_of_cell? w0 _ q4)]; exact q4
        have x5 : w1.cell? ⟨b, off + k * 6 + 5, none⟩ = some (.string p6) := by rw [hB1.cell (World.block_lt_of_cell? w0 _ q5)]; exact q5
        have e0 : w1.cell? ⟨w.heap.size, 0, none⟩ = some (.int .i64 n1) := by rw [hB1.cell (World.block_lt_of_cell? w0 _ d0)]; exact d0
        have e1 : w1.cell? ⟨w.heap.size, 1, none⟩ = some (.int .i64 n2) := by rw [hB1.cell (World.block_lt_of_cell? w0 _ d1)]; exact d1

        by_cases heq : (p1, p2) = (n1, n2)
        · have hE := fun w => stampEq_is (p1, p2) (n1, n2) true (decide_eq_true heq) w
          rw [if_pos heq] at HS1
          clear heq x2 x3 x4 x5
          go_quiet (fail)
          go_wp2_with fail
          refine ⟨⟨k + 1, by omega, by go_num, by rw [HS1.out], by rw [HS1.out]; exact hown1, below_drewN hB1 _⟩, ?_⟩
          simp [intOf]; omega
        · have hE := fun w => stampEq_is (p1, p2) (n1, n2) false (decide_eq_false heq) w
          rw [if_neg heq] at HS1
          clear heq
          go_quiet (fail)
          generalize hq2 : World.drewN w1 _ = w2
          have hB2 : Below w0.heap.size w0 w2 := by rw [← hq2]; exact below_drewN hB1 _
          have hown2 : OwnN w2 w0.heap.size u5 O := by rw [← hq2]; exact hown1
          have hs2 := hB2.size
          have x0' : w2.cell? ⟨b, off + k * 6, none⟩ = some (.int .i64 p1) := by rw [← hq2]; exact x0
          have x1' : w2.cell? ⟨b, off + k * 6 + 1, none⟩ = some (.int .i64 p2) := by rw [← hq2]; exact x1
          have x2' : w2.cell? ⟨b, off + k * 6 + 2, none⟩ = some (.int .i64 p3) := by rw [← hq2]; exact x2
          have x3' : w2.cell? ⟨b, off + k * 6 + 3, none⟩ = some (.int .i64 p4) := by rw [← hq2]; exact x3
          have x4' : w2.cell? ⟨b, off + k * 6 + 4, none⟩ = some (.string p5) := by rw [← hq2]; exact x4
          have x5' : w2.cell? ⟨b, off + k * 6 + 5, none⟩ = some (.string p6) := by rw [← hq2]; exact x5
          clear hq2 x0 x1 x2 x3 x4 x5 e0 e1 hB1 hown1 hE
          unfold OwnN at hown2
          go_wp2_with (at_builtin; refine wpList_appR rfl (.tmp 39) (.tmp 44) 22 rfl w0.heap.size 45 i0 _ 6 64 Tryz.underlying22 hi hz0 hz1 hz2 rfl (by decide) w2 u5 _ _ rfl hown2 #[.int .i64 p1, .int .i64 p2, .int .i64 p3, .int .i64 p4, .string p5, .string p6] rfl (nodeA_one ((p1, p2), (p3, p4), p5, p6)) rfl (by omega) (by unfold maxLen; omega) hs2 ?_)
          intro v3 w3 hown3 hb3
          have hB3 := hB2.trans hb3
          have hown4 : OwnN w3 w0.heap.size v3 (O ++ [((p1, p2), (p3, p4), p5, p6)]) := by
            unfold OwnN; rw [cellsN_snoc, List.length_append]; exact hown3
          clear hown3 hb3 hB2 hown2 x0' x1' x2' x3' x4' x5'
          go_wp2_with fail
          refine ⟨⟨k + 1, by omega, by go_num, by rw [HS1.out], by rw [HS1.out]; exact hown4, hB3⟩, ?_⟩
          simp [intOf]; omega
      | false =>
        have hOl : O.length ≤ k := by simp at hle; omega
        by_cases hless : LessS (p1, p2) (n1, n2)
        · skip

          have HS1 : Hid (withF l X (k + 1) = if (p1, p2) = (n1, n2) then (O, false) else (O ++ [((p1, p2), (p3, p4), p5, p6)], false)) := by
            show _ = _
            rw [HS.out]
            simp only [hless, not_true_eq_false, and_false, if_false]
          rw [decide_eq_true hless] at CL
          have CL' : Hid (∀ w, Calls Tryz.prog 47 #[.agg #[.int .i64 p1, .int .i64 p2], .agg #[.int .i64 n1, .int .i64 n2]] w fun e w' => e = .returned (.bool true) ∧ Below w.heap.size w w') := CL
          clear HS CL hle hless
          have x0 : wr.cell? ⟨b, off + k * 6, none⟩ = some (.int .i64 p1) := by rw [hbl.cell (World.block_lt_of_cell? w0 _ q0)]; exact q0
          have x1 : wr.cell? ⟨b, off + k * 6 + 1, none⟩ = some (.int .i64 p2) := by rw [hbl.cell (World.block_lt_of_cell? w0 _ q1)]; exact q1
          have d0' : wr.cell? ⟨w.heap.size, 0, none⟩ = some (.int .i64 n1) := by rw [hbl.cell (World.block_lt_of_cell? w0 _ d0)]; exact d0
          have d1' : wr.cell? ⟨w.heap.size, 1, none⟩ = some (.int .i64 n2) := by rw [hbl.cell (World.block_lt_of_cell? w0 _ d1)]; exact d1

          have hS0 : (wr.cell? ⟨b, off + k * 6, none⟩ = some (.int .i64 p1) ∧ wr.cell? ⟨b, off + k * 6 + 1, none⟩ = some (.int .i64 p2)) ∧ (wr.cell? ⟨w.heap.size, 0, none⟩ = some (.int .i64 n1) ∧ wr.cell? ⟨w.heap.size, 1, none⟩ = some (.int .i64 n2)) := ⟨⟨x0, x1⟩, d0', d1'⟩
          clear x0 x1 d0' d1'
          go_wp2_with fail
          refine wp_region_noPanic ?_
          refine wp_region_held_drew (S := fun W => (W.cell? ⟨b, off + k * 6, none⟩ = some (.int .i64 p1) ∧ W.cell? ⟨b, off + k * 6 + 1, none⟩ = some (.int .i64 p2)) ∧ (W.cell? ⟨w.heap.size, 0, none⟩ = some (.int .i64 n1) ∧ W.cell? ⟨w.heap.size, 1, none⟩ = some (.int .i64 n2))) (by kernel_rfl) (by first | exact trivial | assumption | exact ⟨by assumption, by assumption⟩) (fun hHeld => ?_)
          refine take_at (i := 0) (v := ?_) rfl rfl (by kernel_rfl) (by kernel_rfl) (by kernel_rfl) (fun _ _ _ h => h) (Or.inl ⟨by rfl, ?_⟩) (by assumption) ?_
          rotate_left
          · intro w hSw; (try dsimp only at hSw); go_simp; try with_reducible rfl
          try simp only [Act.put, List.setIfInBounds_toArray, List.set_cons_zero, List.set_cons_succ]
          refine take_at (i := 1) (v := ?_) rfl rfl (by kernel_rfl) (by kernel_rfl) (by kernel_rfl) (fun _ _ _ h => h) (Or.inl ⟨by rfl, ?_⟩) (by assumption) ?_
          rotate_left
          · intro w hSw; (try dsimp only at hSw); go_simp; try with_reducible rfl
          try simp only [Act.put, List.setIfInBounds_toArray, List.set_cons_zero, List.set_cons_succ]
          refine take_at (i := 2) (v := ?_) rfl rfl (by kernel_rfl) (by kernel_rfl) (by kernel_rfl) (fun _ _ _ h => h) (Or.inl ⟨by rfl, ?_⟩) (by assumption) ?_
          rotate_left
          · intro w hSw; (try dsimp only at hSw); go_simp; try with_reducible rfl
          try simp only [Act.put, List.setIfInBounds_toArray, List.set_cons_zero, List.set_cons_succ]
          refine take_at (i := 3) (v := ?_) rfl rfl (by kernel_rfl) (by kernel_rfl) (by kernel_rfl) (fun _ _ _ h => h) (Or.inl ⟨by rfl, ?_⟩) (by assumption) ?_
          rotate_left
          · intro w hSw; (try dsimp only at hSw); go_simp; try with_reducible rfl
          try simp only [Act.put, List.setIfInBounds_toArray, List.set_cons_zero, List.set_cons_succ]
          refine take_at (i := 4) (v := ?_) rfl rfl (by kernel_rfl) (by kernel_rfl) (by kernel_rfl) (fun _ _ _ h => h) (Or.inl ⟨by rfl, ?_⟩) (by assumption) ?_
          rotate_left
          · intro w hSw; (try dsimp only at hSw); go_simp; try with_reducible rfl
          try simp only [Act.put, List.setIfInBounds_toArray, List.set_cons_zero, List.set_cons_succ]
          refine take_at (i := 5) (v := ?_) rfl rfl (by kernel_rfl) (by kernel_rfl) (by kernel_rfl) (fun _ _ _ h => h) (Or.inl ⟨by rfl, ?_⟩) (by assumption) ?_
          rotate_left
          · intro w hSw; (try dsimp only at hSw); go_simp; try with_reducible rfl
          try simp only [Act.put, List.setIfInBounds_toArray, List.set_cons_zero, List.set_cons_succ]
          refine take_at (i := 6) (v := ?_) rfl rfl (by kernel_rfl) (by kernel_rfl) (by kernel_rfl) (fun _ _ _ h => h) (Or.inl ⟨by rfl, ?_⟩) (by assumption) ?_
          rotate_left
          · intro w hSw; (try dsimp only at hSw); go_simp; try with_reducible rfl
          try simp only [Act.put, List.setIfInBounds_toArray, List.set_cons_zero, List.set_cons_succ]
          refine take_at (i := 7) (v := ?_) rfl rfl (by kernel_rfl) (by kernel_rfl) (by kernel_rfl) (fun _ _ _ h => h) (Or.inl ⟨by rfl, ?_⟩) (by assumption) ?_
          rotate_left
          · intro w hSw; (try dsimp only at hSw); go_simp; try with_reducible rfl
          try simp only [Act.put, List.setIfInBounds_toArray, List.set_cons_zero, List.set_cons_succ]
          refine take_at (i := 8) (v := ?_) rfl rfl (by kernel_rfl) (by kernel_rfl) (by kernel_rfl) (fun _ _ _ h => h) (Or.inl ⟨by rfl, ?_⟩) (by assumption) ?_
          rotate_left
          · intro w hSw; (try dsimp only at hSw); go_simp; try with_reducible rfl
          try simp only [Act.put, List.setIfInBounds_toArray, List.set_cons_zero, List.set_cons_succ]
          refine take_at (i := 9) (v := ?_) rfl rfl (by kernel_rfl) (by kernel_rfl) (by kernel_rfl) (fun _ _ _ h => h) (Or.inl ⟨by rfl, ?_⟩) (by assumption) ?_
          rotate_left
          · intro w hSw; (try dsimp only at hSw); go_simp; try with_reducible rfl
          try simp only [Act.put, List.setIfInBounds_toArray, List.set_cons_zero, List.set_cons_succ]
          refine wpAnyH_ready (rs := [10]) (by kernel_rfl) (by simp) ?_
          refine AllReadyH.cons rfl (fun K hK => ?_) AllReadyH.nil
          go_simp
          refine (CL'.out _).mono ?_
          rintro e w1 ⟨rfl, hb1⟩
          have hB1 : Below w0.heap.size w0 w1 := below_step hbl.drew (Nat.le_refl _) hb1
          have hown1 : OwnN w1 w0.heap.size u5 O := own_on (w := wr.drew) hown hb1
          have x0 : w1.cell? ⟨b, off + k * 6, none⟩ = some (.int .i64 p1) := by rw [hB1.cell (World.block_lt_of_cell? w0 _ q0)]; exact q0
          have x1 : w1.cell? ⟨b, off + k * 6 + 1, none⟩ = some (.int .i64 p2) := by rw [hB1.cell (World.block_lt_of_cell? w0 _ q1)]; exact q1
          have x2 : w1.cell? ⟨b, off + k * 6 + 2, none⟩ = some (.int .i64 p3) := by rw [hB1.cell (World.block_lt_of_cell? w0 _ q2)]; exact q2
          have x3 : w1.cell? ⟨b, off + k * 6 + 3, none⟩ = some (.int .i64 p4) := by rw [hB1.cell (World.block_lt_of_cell? w0 _ q3)]; exact q3
          have x4 : w1.cell? ⟨b, off + k * 6 + 4, none⟩ = some (.string p5) := by rw [hB1.cell (World.block_lt_of_cell? w0 _ q4)]; exact q4
          have x5 : w1.cell? ⟨b, off + k * 6 + 5, none⟩ = some (.string p6) := by rw [hB1.cell (World.block_lt_of_cell? w0 _ q5)]; exact q5
          have e0 : w1.cell? ⟨w.heap.size, 0, none⟩ = some (.int .i64 n1) := by rw [hB1.cell (World.block_lt_of_cell? w0 _ d0)]; exact d0
          have e1 : w1.cell? ⟨w.heap.size, 1, none⟩ = some (.int .i64 n2) := by rw [hB1.cell (World.block_lt_of_cell? w0 _ d1)]; exact d1
          clear CL' hb1 hbl hown
          refine hK.out _ _ ⟨⟨x0, x1⟩, e0, e1⟩ (fun hHeld => ?_)
          clear hK K
          refine take_at (i := 11) (v := ?_) rfl rfl (by kernel_rfl) (by kernel_rfl) (by kernel_rfl) (fun _ _ _ h => h) (Or.inl ⟨by rfl, ?_⟩) (by assumption) ?_
          rotate_left
          · intro w hSw; (try dsimp only at hSw); go_simp; try with_reducible rfl
          try simp only [Act.put, List.setIfInBounds_toArray, List.set_cons_zero, List.set_cons_succ]
          refine take_at (i := 12) (v := ?_) rfl rfl (by kernel_rfl) (by kernel_rfl) (by kernel_rfl) (fun _ _ _ h => h) (Or.inl ⟨by rfl, ?_⟩) (by assumption) ?_
          rotate_left
          · intro w hSw; (try dsimp only at hSw); go_simp; try with_reducible rfl
          try simp only [Act.put, List.setIfInBounds_toArray, List.set_cons_zero, List.set_cons_succ]
          refine wpAnyH_done (by kernel_rfl) (NoPanic.normal ?_) _

          go_wp2_with fail

          by_cases heq : (p1, p2) = (n1, n2)
          · have hE := fun w => stampEq_is (p1, p2) (n1, n2) true (decide_eq_true heq) w
            rw [if_pos heq] at HS1
            clear heq x2 x3 x4 x5
            go_quiet (fail)
            go_wp2_with fail
            refine ⟨⟨k + 1, by omega, by go_num, by rw [HS1.out], by rw [HS1.out]; exact hown1, below_drewN hB1 _⟩, ?_⟩
            simp [intOf]; omega
          · have hE := fun w => stampEq_is (p1, p2) (n1, n2) false (decide_eq_false heq) w
            rw [if_neg heq] at HS1
            clear heq
            go_quiet (fail)
            generalize hq2 : World.drewN w1 _ = w2
            have hB2 : Below w0.heap.size w0 w2 := by rw [← hq2]; exact below_drewN hB1 _
            have hown2 : OwnN w2 w0.heap.size u5 O := by rw [← hq2]; exact hown1
            have hs2 := hB2.size
            have x0' : w2.cell? ⟨b, off + k * 6, none⟩ = some (.int .i64 p1) := by rw [← hq2]; exact x0
            have x1' : w2.cell? ⟨b, off + k * 6 + 1, none⟩ = some (.int .i64 p2) := by rw [← hq2]; exact x1
            have x2' : w2.cell? ⟨b, off + k * 6 + 2, none⟩ = some (.int .i64 p3) := by rw [← hq2]; exact x2
            have x3' : w2.cell? ⟨b, off + k * 6 + 3, none⟩ = some (.int .i64 p4) := by rw [← hq2]; exact x3
            have x4' : w2.cell? ⟨b, off + k * 6 + 4, none⟩ = some (.string p5) := by rw [← hq2]; exact x4
            have x5' : w2.cell? ⟨b, off + k * 6 + 5, none⟩ = some (.string p6) := by rw [← hq2]; exact x5
            clear hq2 x0 x1 x2 x3 x4 x5 e0 e1 hB1 hown1 hE
            unfold OwnN at hown2
            go_wp2_with (at_builtin; refine wpList_appR rfl (.tmp 39) (.tmp 44) 22 rfl w0.heap.size 45 i0 _ 6 64 Tryz.underlying22 hi hz0 hz1 hz2 rfl (by decide) w2 u5 _ _ rfl hown2 #[.int .i64 p1, .int .i64 p2, .int .i64 p3, .int .i64 p4, .string p5, .string p6] rfl (nodeA_one ((p1, p2), (p3, p4), p5, p6)) rfl (by omega) (by unfold maxLen; omega) hs2 ?_)
            intro v3 w3 hown3 hb3
            have hB3 := hB2.trans hb3
            have hown4 : OwnN w3 w0.heap.size v3 (O ++ [((p1, p2), (p3, p4), p5, p6)]) := by
              unfold OwnN; rw [cellsN_snoc, List.length_append]; exact hown3
            clear hown3 hb3 hB2 hown2 x0' x1' x2' x3' x4' x5'
            go_wp2_with fail
            refine ⟨⟨k + 1, by omega, by go_num, by rw [HS1.out], by rw [HS1.out]; exact hown4, hB3⟩, ?_⟩
            simp [intOf]; omega
        · skip

          have HS1 : Hid (withF l X (k + 1) = if (p1, p2) = (n1, n2) then (O ++ [X], true) else ((O ++ [X]) ++ [((p1, p2), (p3, p4), p5, p6)], true)) := by
            show _ = _
            rw [HS.out]
            simp only [hless, not_false_eq_true, and_self, if_true]
          rw [decide_eq_false hless] at CL
          have CL' : Hid (∀ w, Calls Tryz.prog 47 #[.agg #[.int .i64 p1, .int .i64 p2], .agg #[.int .i64 n1, .int .i64 n2]] w fun e w' => e = .returned (.bool false) ∧ Below w.heap.size w w') := CL
          clear HS CL hle hless
          have x0 : wr.cell? ⟨b, off + k * 6, none⟩ = some (.int .i64 p1) := by rw [hbl.cell (World.block_lt_of_cell? w0 _ q0)]; exact q0
          have x1 : wr.cell? ⟨b, off + k * 6 + 1, none⟩ = some (.int .i64 p2) := by rw [hbl.cell (World.block_lt_of_cell? w0 _ q1)]; exact q1
          have d0' : wr.cell? ⟨w.heap.size, 0, none⟩ = some (.int .i64 n1) := by rw [hbl.cell (World.block_lt_of_cell? w0 _ d0)]; exact d0
          have d1' : wr.cell? ⟨w.heap.size, 1, none⟩ = some (.int .i64 n2) := by rw [hbl.cell (World.block_lt_of_cell? w0 _ d1)]; exact d1

          have hS0 : (wr.cell? ⟨b, off + k * 6, none⟩ = some (.int .i64 p1) ∧ wr.cell? ⟨b, off + k * 6 + 1, none⟩ = some (.int .i64 p2)) ∧ (wr.cell? ⟨w.heap.size, 0, none⟩ = some (.int .i64 n1) ∧ wr.cell? ⟨w.heap.size, 1, none⟩ = some (.int .i64 n2)) := ⟨⟨x0, x1⟩, d0', d1'⟩
          clear x0 x1 d0' d1'
          go_wp2_with fail
          refine wp_region_noPanic ?_
          refine wp_region_held_drew (S := fun W => (W.cell? ⟨b, off + k * 6, none⟩ = some (.int .i64 p1) ∧ W.cell? ⟨b, off + k * 6 + 1, none⟩ = some (.int .i64 p2)) ∧ (W.cell? ⟨w.heap.size, 0, none⟩ = some (.int .i64 n1) ∧ W.cell? ⟨w.heap.size, 1, none⟩ = some (.int .i64 n2))) (by kernel_rfl) (by first | exact trivial | assumption | exact ⟨by assumption, by assumption⟩) (fun hHeld => ?_)
          refine take_at (i := 0) (v := ?_) rfl rfl (by kernel_rfl) (by kernel_rfl) (by kernel_rfl) (fun _ _ _ h => h) (Or.inl ⟨by rfl, ?_⟩) (by assumption) ?_
          rotate_left
          · intro w hSw; (try dsimp only at hSw); go_simp; try with_reducible rfl
          try simp only [Act.put, List.setIfInBounds_toArray, List.set_cons_zero, List.set_cons_succ]
          refine take_at (i := 1) (v := ?_) rfl rfl (by kernel_rfl) (by kernel_rfl) (by kernel_rfl) (fun _ _ _ h => h) (Or.inl ⟨by rfl, ?_⟩) (by assumption) ?_
          rotate_left
          · intro w hSw; (try dsimp only at hSw); go_simp; try with_reducible rfl
          try simp only [Act.put, List.setIfInBounds_toArray, List.set_cons_zero, List.set_cons_succ]
          refine take_at (i := 2) (v := ?_) rfl rfl (by kernel_rfl) (by kernel_rfl) (by kernel_rfl) (fun _ _ _ h => h) (Or.inl ⟨by rfl, ?_⟩) (by assumption) ?_
          rotate_left
          · intro w hSw; (try dsimp only at hSw); go_simp; try with_reducible rfl
          try simp only [Act.put, List.setIfInBounds_toArray, List.set_cons_zero, List.set_cons_succ]
          refine take_at (i := 3) (v := ?_) rfl rfl (by kernel_rfl) (by kernel_rfl) (by kernel_rfl) (fun _ _ _ h => h) (Or.inl ⟨by rfl, ?_⟩) (by assumption) ?_
          rotate_left
          · intro w hSw; (try dsimp only at hSw); go_simp; try with_reducible rfl
          try simp only [Act.put, List.setIfInBounds_toArray, List.set_cons_zero, List.set_cons_succ]
          refine take_at (i := 4) (v := ?_) rfl rfl (by kernel_rfl) (by kernel_rfl) (by kernel_rfl) (fun _ _ _ h => h) (Or.inl ⟨by rfl, ?_⟩) (by assumption) ?_
          rotate_left
          · intro w hSw; (try dsimp only at hSw); go_simp; try with_reducible rfl
          try simp only [Act.put, List.setIfInBounds_toArray, List.set_cons_zero, List.set_cons_succ]
          refine take_at (i := 5) (v := ?_) rfl rfl (by kernel_rfl) (by kernel_rfl) (by kernel_rfl) (fun _ _ _ h => h) (Or.inl ⟨by rfl, ?_⟩) (by assumption) ?_
          rotate_left
          · intro w hSw; (try dsimp only at hSw); go_simp; try with_reducible rfl
          try simp only [Act.put, List.setIfInBounds_toArray, List.set_cons_zero, List.set_cons_succ]
          refine take_at (i := 6) (v := ?_) rfl rfl (by kernel_rfl) (by kernel_rfl) (by kernel_rfl) (fun _ _ _ h => h) (Or.inl ⟨by rfl, ?_⟩) (by assumption) ?_
          rotate_left
          · intro w hSw; (try dsimp only at hSw); go_simp; try with_reducible rfl
          try simp only [Act.put, List.setIfInBounds_toArray, List.set_cons_zero, List.set_cons_succ]
          refine take_at (i := 7) (v := ?_) rfl rfl (by kernel_rfl) (by kernel_rfl) (by kernel_rfl) (fun _ _ _ h => h) (Or.inl ⟨by rfl, ?_⟩) (by assumption) ?_
          rotate_left
          · intro w hSw; (try dsimp only at hSw); go_simp; try with_reducible rfl
          try simp only [Act.put, List.setIfInBounds_toArray, List.set_cons_zero, List.set_cons_succ]
          refine take_at (i := 8) (v := ?_) rfl rfl (by kernel_rfl) (by kernel_rfl) (by kernel_rfl) (fun _ _ _ h => h) (Or.inl ⟨by rfl, ?_⟩) (by assumption) ?_
          rotate_left
          · intro w hSw; (try dsimp only at hSw); go_simp; try with_reducible rfl
          try simp only [Act.put, List.setIfInBounds_toArray, List.set_cons_zero, List.set_cons_succ]
          refine take_at (i := 9) (v := ?_) rfl rfl (by kernel_rfl) (by kernel_rfl) (by kernel_rfl) (fun _ _ _ h => h) (Or.inl ⟨by rfl, ?_⟩) (by assumption) ?_
          rotate_left
          · intro w hSw; (try dsimp only at hSw); go_simp; try with_reducible rfl
          try simp only [Act.put, List.setIfInBounds_toArray, List.set_cons_zero, List.set_cons_succ]
          refine wpAnyH_ready (rs := [10]) (by kernel_rfl) (by simp) ?_
          refine AllReadyH.cons rfl (fun K hK => ?_) AllReadyH.nil
          go_simp
          refine (CL'.out _).mono ?_
          rintro e wc ⟨rfl, hb1⟩
          have hBc : Below w0.heap.size w0 wc := below_step hbl.drew (Nat.le_refl _) hb1
          have hownc : OwnN wc w0.heap.size u5 O := own_on (w := wr.drew) hown hb1
          have xc0 : wc.cell? ⟨b, off + k * 6, none⟩ = some (.int .i64 p1) := by rw [hBc.cell (World.block_lt_of_cell? w0 _ q0)]; exact q0
          have xc1 : wc.cell? ⟨b, off + k * 6 + 1, none⟩ = some (.int .i64 p2) := by rw [hBc.cell (World.block_lt_of_cell? w0 _ q1)]; exact q1
          have ec0 : wc.cell? ⟨w.heap.size, 0, none⟩ = some (.int .i64 n1) := by rw [hBc.cell (World.block_lt_of_cell? w0 _ d0)]; exact d0
          have ec1 : wc.cell? ⟨w.heap.size, 1, none⟩ = some (.int .i64 n2) := by rw [hBc.cell (World.block_lt_of_cell? w0 _ d1)]; exact d1
          clear CL' hb1 hbl hown
          refine hK.out _ _ ⟨⟨xc0, xc1⟩, ec0, ec1⟩ (fun hHeld => ?_)
          clear hK K
          refine take_at (i := 11) (v := ?_) rfl rfl (by kernel_rfl) (by kernel_rfl) (by kernel_rfl) (fun _ _ _ h => h) (Or.inl ⟨by rfl, ?_⟩) (by assumption) ?_
          rotate_left
          · intro w hSw; (try dsimp only at hSw); go_simp; try with_reducible rfl
          try simp only [Act.put, List.setIfInBounds_toArray, List.set_cons_zero, List.set_cons_succ]
          refine take_at (i := 12) (v := ?_) rfl rfl (by kernel_rfl) (by kernel_rfl) (by kernel_rfl) (fun _ _ _ h => h) (Or.inl ⟨by rfl, ?_⟩) (by assumption) ?_
          rotate_left
          · intro w hSw; (try dsimp only at hSw); go_simp; try with_reducible rfl
          try simp only [Act.put, List.setIfInBounds_toArray, List.set_cons_zero, List.set_cons_succ]
          refine wpAnyH_done (by kernel_rfl) (NoPanic.normal ?_) _
          have ec2 : wc.cell? ⟨w.heap.size, 2, none⟩ = some (.int .i64 n3) := by rw [hBc.cell (World.block_lt_of_cell? w0 _ d2)]; exact d2
          have ec3 : wc.cell? ⟨w.heap.size, 3, none⟩ = some (.int .i64 n4) := by rw [hBc.cell (World.block_lt_of_cell? w0 _ d3)]; exact d3
          have ec4 : wc.cell? ⟨w.heap.size, 4, none⟩ = some (.string n5) := by rw [hBc.cell (World.block_lt_of_cell? w0 _ d4)]; exact d4
          have ec5 : wc.cell? ⟨w.heap.size, 5, none⟩ = some (.string n6) := by rw [hBc.cell (World.block_lt_of_cell? w0 _ d5)]; exact d5
          have hs1 := hBc.size
          unfold OwnN at hownc
          go_wp2_with (at_builtin; refine wpList_appR rfl (.tmp 27) (.tmp 29) 22 rfl w0.heap.size 45 i0 _ 6 64 Tryz.underlying22 hi hz0 hz1 hz2 rfl (by decide) wc u5 _ _ rfl hownc #[.int .i64 n1, .int .i64 n2, .int .i64 n3, .int .i64 n4, .string n5, .string n6] rfl (nodeA_one ((n1, n2), (n3, n4), n5, n6)) rfl (by omega) (by unfold maxLen; omega) hs1 ?_)
          intro v1 w1 hown1' hb1'
          have hB1 := hBc.trans hb1'
          have hOl2 : (O ++ [X]).length ≤ k + 1 := by rw [List.length_append]; simp; omega
          have hown1 : OwnN w1 w0.heap.size v1 (O ++ [X]) := by
            unfold OwnN; rw [cellsN_snoc, List.length_append, hXA]; exact hown1'
          clear hown1' hownc hb1' hBc xc0 xc1 ec0 ec1 ec2 ec3 ec4 ec5 hs1
          have x0 : w1.cell? ⟨b, off + k * 6, none⟩ = some (.int .i64 p1) := by rw [hB1.cell (World.block_lt_of_cell? w0 _ q0)]; exact q0
          have x1 : w1.cell? ⟨b, off + k * 6 + 1, none⟩ = some (.int .i64 p2) := by rw [hB1.cell (World.block_lt_of_cell? w0 _ q1)]; exact q1
          have x2 : w1.cell? ⟨b, off + k * 6 + 2, none⟩ = some (.int .i64 p3) := by rw [hB1.cell (World.block_lt_of_cell? w0 _ q2)]; exact q2
          have x3 : w1.cell? ⟨b, off + k * 6 + 3, none⟩ = some (.int .i64 p4) := by rw [hB1.cell (World.block_lt_of_cell? w0 _ q3)]; exact q3
          have x4 : w1.cell? ⟨b, off + k * 6 + 4, none⟩ = some (.string p5) := by rw [hB1.cell (World.block_lt_of_cell? w0 _ q4)]; exact q4
          have x5 : w1.cell? ⟨b, off + k * 6 + 5, none⟩ = some (.string p6) := by rw [hB1.cell (World.block_lt_of_cell? w0 _ q5)]; exact q5
          have e0 : w1.cell? ⟨w.heap.size, 0, none⟩ = some (.int .i64 n1) := by rw [hB1.cell (World.block_lt_of_cell? w0 _ d0)]; exact d0
          have e1 : w1.cell? ⟨w.heap.size, 1, none⟩ = some (.int .i64 n2) := by rw [hB1.cell (World.block_lt_of_cell? w0 _ d1)]; exact d1
          go_wp2_with fail

          by_cases heq : (p1, p2) = (n1, n2)
          · have hE := fun w => stampEq_is (p1, p2) (n1, n2) true (decide_eq_true heq) w
            rw [if_pos heq] at HS1
            clear heq x2 x3 x4 x5
            go_quiet (fail)
            go_wp2_with fail
            refine ⟨⟨k + 1, by omega, by go_num, by rw [HS1.out], by rw [HS1.out]; exact hown1, below_drewN hB1 _⟩, ?_⟩
            simp [intOf]; omega
          · have hE := fun w => stampEq_is (p1, p2) (n1, n2) false (decide_eq_false heq) w
            rw [if_neg heq] at HS1
            clear heq
            go_quiet (fail)
            generalize hq2 : World.drewN w1 _ = w2
            have hB2 : Below w0.heap.size w0 w2 := by rw [← hq2]; exact below_drewN hB1 _
            have hown2 : OwnN w2 w0.heap.size v1 (O ++ [X]) := by rw [← hq2]; exact hown1
            have hs2 := hB2.size
            have x0' : w2.cell? ⟨b, off + k * 6, none⟩ = some (.int .i64 p1) := by rw [← hq2]; exact x0
            have x1' : w2.cell? ⟨b, off + k * 6 + 1, none⟩ = some (.int .i64 p2) := by rw [← hq2]; exact x1
            have x2' : w2.cell? ⟨b, off + k * 6 + 2, none⟩ = some (.int .i64 p3) := by rw [← hq2]; exact x2
            have x3' : w2.cell? ⟨b, off + k * 6 + 3, none⟩ = some (.int .i64 p4) := by rw [← hq2]; exact x3
            have x4' : w2.cell? ⟨b, off + k * 6 + 4, none⟩ = some (.string p5) := by rw [← hq2]; exact x4
            have x5' : w2.cell? ⟨b, off + k * 6 + 5, none⟩ = some (.string p6) := by rw [← hq2]; exact x5
            clear hq2 x0 x1 x2 x3 x4 x5 e0 e1 hB1 hown1 hE
            unfold OwnN at hown2
            go_wp2_with (at_builtin; refine wpList_appR rfl (.tmp 39) (.tmp 44) 22 rfl w0.heap.size 45 i0 _ 6 64 Tryz.underlying22 hi hz0 hz1 hz2 rfl (by decide) w2 v1 _ _ rfl hown2 #[.int .i64 p1, .int .i64 p2, .int .i64 p3, .int .i64 p4, .string p5, .string p6] rfl (nodeA_one ((p1, p2), (p3, p4), p5, p6)) rfl (by omega) (by unfold maxLen; omega) hs2 ?_)
            intro v3 w3 hown3 hb3
            have hB3 := hB2.trans hb3
            have hown4 : OwnN w3 w0.heap.size v3 ((O ++ [X]) ++ [((p1, p2), (p3, p4), p5, p6)]) := by
              unfold OwnN; rw [cellsN_snoc, List.length_append]; simp only [List.length_append, List.length_cons, List.length_nil, Nat.zero_add]; exact hown3
            clear hown3 hb3 hB2 hown2 x0' x1' x2' x3' x4' x5'
            go_wp2_with fail
            refine ⟨⟨k + 1, by omega, by go_num, by rw [HS1.out], by rw [HS1.out]; exact hown4, hB3⟩, ?_⟩
            simp [intOf]; omega
    · have hk' : k = n := by omega
      subst hk'

      obtain ⟨⟨O, D⟩, hO⟩ : ∃ p, p = withF l X k := ⟨_, rfl⟩
      have HP : Hid (withP l X = if D then O else O ++ [X]) := by
        show _ = _
        unfold withP
        rw [hln, ← hO]
      rw [← hO] at hown hle ⊢
      clear hO
      cases D with
      | true =>
        go_wp2_with fail
        go_ret
        refine ⟨_, rfl, ?_, below_step hb0 (Nat.le_refl _) hbl⟩
        rw [HP.out]
        exact own_less hown hs0
      | false =>
        have hOl : O.length ≤ k := by simp at hle; omega
        have e0 : wr.cell? ⟨w.heap.size, 0, none⟩ = some (.int .i64 n1) := by rw [hbl.cell (World.block_lt_of_cell? w0 _ d0)]; exact d0
        have e1 : wr.cell? ⟨w.heap.size, 1, none⟩ = some (.int .i64 n2) := by rw [hbl.cell (World.block_lt_of_cell? w0 _ d1)]; exact d1
        have e2 : wr.cell? ⟨w.heap.size, 2, none⟩ = some (.int .i64 n3) := by rw [hbl.cell (World.block_lt_of_cell? w0 _ d2)]; exact d2
        have e3 : wr.cell? ⟨w.heap.size, 3, none⟩ = some (.int .i64 n4) := by rw [hbl.cell (World.block_lt_of_cell? w0 _ d3)]; exact d3
        have e4 : wr.cell? ⟨w.heap.size, 4, none⟩ = some (.string n5) := by rw [hbl.cell (World.block_lt_of_cell? w0 _ d4)]; exact d4
        have e5 : wr.cell? ⟨w.heap.size, 5, none⟩ = some (.string n6) := by rw [hbl.cell (World.block_lt_of_cell? w0 _ d5)]; exact d5
        have hs1 := hbl.size
        unfold OwnN at hown
        go_wp2_with (at_builtin; refine wpList_appR rfl (.tmp 48) (.tmp 50) 22 rfl w0.heap.size 45 i0 _ 6 64 Tryz.underlying22 hi hz0 hz1 hz2 rfl (by decide) wr u5 _ _ rfl hown #[.int .i64 n1, .int .i64 n2, .int .i64 n3, .int .i64 n4, .string n5, .string n6] rfl (nodeA_one ((n1, n2), (n3, n4), n5, n6)) rfl (by omega) (by unfold maxLen; omega) hs1 ?_)
        intro v1 w1' hown1' hb1'
        have hown1'' : OwnN w1' w0.heap.size v1 (O ++ [X]) := by
          unfold OwnN; rw [cellsN_snoc, List.length_append, hXA]; exact hown1'
        have hB1' := below_step hb0 (Nat.le_refl _) (hbl.trans hb1')
        clear hown1' hb1' hbl e0 e1 e2 e3 e4 e5
        go_wp2_with fail
        go_ret
        refine ⟨_, rfl, ?_, hB1'⟩
        rw [HP.out]
        exact own_less hown1'' hs0

end Go.Proofs.YtebnmghjdoblaaaGreatDoor

/- The document's May, Check (layer 11). -/
namespace Go.Proofs.YtebnmghjdoblaaaGreatDoor
open Go.RowKit
set_option linter.unusedSimpArgs false

/-- May an operation be? -/
def MayO (o : Int × (Int × Int) × (Int × Int) × (Int × Int) × ByteArray × ByteArray) : Prop :=
  MayS o.2.1 ∧ MayS o.2.2.1 ∧
  ((o.1 = 1 ∧ o.2.2.1 = o.2.1 ∧ ParS o.2.2.2.1 ∧ NameP o.2.2.2.2.1 ∧ o.2.2.2.2.2.size = 0) ∨
   (o.1 = 2 ∧ ParS o.2.2.2.1 ∧ o.2.2.2.2.1.size = 0 ∧ o.2.2.2.2.2.size = 0) ∨
   (o.1 = 3 ∧ o.2.2.2.1 = (0, 0) ∧ NameP o.2.2.2.2.1 ∧ o.2.2.2.2.2.size = 0) ∨
   (o.1 = 4 ∧ o.2.2.2.1 = (0, 0) ∧ o.2.2.2.2.1.size = 0 ∧ o.2.2.2.2.2.size ≤ 64) ∨
   (o.1 = 5 ∧ o.2.2.2.1 = (0, 0) ∧ o.2.2.2.2.1.size = 0 ∧ o.2.2.2.2.2.size = 0))

theorem mayS_on (s : Int × Int) (A : Bool) (hA : decide (MayS s) = A) (w w' : World) (hb : Below w.heap.size w w') :
    Calls Tryz.prog 50 #[.agg #[.int .i64 s.1, .int .i64 s.2]] w' fun e w'' => e = .returned (.bool A) ∧ Below w.heap.size w w'' := by
  have h := rmayS_any s w'
  rw [hA] at h
  exact h.mono (fun e w'' h => ⟨h.1, below_step hb (Nat.le_refl _) h.2⟩)

theorem par_on (s : Int × Int) (A : Bool) (hA : decide (ParS s) = A) (w w' : World) (hb : Below w.heap.size w w') :
    Calls Tryz.prog 65 #[.agg #[.int .i64 s.1, .int .i64 s.2]] w' fun e w'' => e = .returned (.bool A) ∧ Below w.heap.size w w'' := by
  have h := rparent_any s w'
  rw [hA] at h
  exact h.mono (fun e w'' h => ⟨h.1, below_step hb (Nat.le_refl _) h.2⟩)

theorem name_on (s : ByteArray) (x : Int) (hx : NameE s x) (w w' : World) (hb : Below w.heap.size w w') (hs : s.size ≤ 1048576) :
    Calls Tryz.prog 51 #[.string s] w' fun e w'' => e = .returned (.int .i64 x) ∧ Below w.heap.size w w'' := by
  refine (rcheckN_any s w' hs).mono ?_
  rintro e w'' ⟨y, rfl, hy, rfl⟩
  rw [NameE.uniq hy hx]
  exact ⟨rfl, hb⟩

theorem nameX_is (s : ByteArray) : ∃ x, NameE s x := by
  by_cases h : NameP s
  · exact ⟨0, .inl ⟨rfl, h⟩⟩
  · exact ⟨80, .inr ⟨rfl, h⟩⟩

theorem isE_yes (s : ByteArray) (h : s.size = 0) : s.toList.isEmpty = true := by
  have h0 : s.data.size = 0 := h
  rw [toList_data, Array.eq_empty_of_size_eq_zero h0]; rfl

theorem isE_no (s : ByteArray) (h : ¬ s.size = 0) : s.toList.isEmpty = false := by
  rw [toList_data]
  cases hl : s.data.toList with
  | nil =>
    have h2 : s.data.toList.length = 0 := by rw [hl]; rfl
    rw [Array.length_toList] at h2
    exact absurd h2 h
  | cons x r => rfl

set_option maxRecDepth 100000 in
set_option maxHeartbeats 8000000 in
theorem rmayO_any (o : Int × (Int × Int) × (Int × Int) × (Int × Int) × ByteArray × ByteArray) (D : Bool) (hD : D = true ↔ MayO o) (w : World) (hs : o.2.2.2.2.1.size ≤ 1048576) (ht : o.2.2.2.2.2.size ≤ 9223372036854775807) :
    Calls Tryz.prog 46 #[.agg (opA o)] w fun x w' => x = .returned (.bool D) ∧ Below w.heap.size w w' := by
  obtain ⟨k, ⟨a, b⟩, ⟨c, d⟩, ⟨e, f⟩, s, t⟩ := o
  unfold opA
  unfold MayO at hD
  have ht' : t.size ≤ 9223372036854775807 := ht
  show Calls Tryz.prog _ #[.agg #[.int .i64 k, .int .i64 a, .int .i64 b, .int .i64 c, .int .i64 d, .int .i64 e, .int .i64 f, .string s, .string t]] w _
  by_cases h1 : MayS (a, b)
  · obtain ⟨A1, hA1, rfl⟩ : ∃ A, decide (MayS (a, b)) = A ∧ A = true := ⟨_, rfl, decide_eq_true h1⟩
    by_cases h2 : MayS (c, d)
    · obtain ⟨A2, hA2, rfl⟩ : ∃ A, decide (MayS (c, d)) = A ∧ A = true := ⟨_, rfl, decide_eq_true h2⟩
      by_cases hk1 : k = 1
      · skip
        have gk : (k == 1) = true := by rw [beq_iff_eq]; exact hk1
        by_cases H0 : (c, d) = (a, b)
        · skip
          have hE1 := fun w => stampEq_is (c, d) (a, b) true (decide_eq_true H0) w
          by_cases H1 : ParS (e, f)
          · skip
            have hA3 : decide (ParS (e, f)) = true := decide_eq_true H1
            by_cases H2 : NameP s
            · skip
              have hA4 : NameE s 0 := .inl ⟨rfl, H2⟩
              by_cases H3 : t.size = 0
              · skip
                have gt := isE_yes t H3
                obtain rfl : D = true := hD.2 ⟨h1, h2, .inl ⟨hk1, H0, H1, H2, H3⟩⟩
                have hE2 := fun w => stampEq e f 0 0 w
                clear hD h1 h2 hk1 H0 H1 H2 H3
                go_enter Tryz.func46, Tryz.ntmps46
                go_wp2_with fail
                generalize hq : World.alloc w _ = w0
                have hb0 : Below w.heap.size w w0 := by rw [← hq]; exact below_new w _
                have hr0 : Below w0.heap.size w0 w0 := Below.refl _ _
                have hlt : w.heap.size < w0.heap.size := by rw [← hq]; simp
                have c0 : ∀ w', Below w0.heap.size w0 w' → w'.cell? ⟨w.heap.size, 0, none⟩ = some (.int .i64 k) := fun w' hb => by
                  rw [hb.cell (p := ⟨w.heap.size, 0, none⟩) hlt, ← hq]; simp
                have c1 : ∀ w', Below w0.heap.size w0 w' → w'.cell? ⟨w.heap.size, 1, none⟩ = some (.int .i64 a) := fun w' hb => by
                  rw [hb.cell (p := ⟨w.heap.size, 1, none⟩) hlt, ← hq]; simp
                have c2 : ∀ w', Below w0.heap.size w0 w' → w'.cell? ⟨w.heap.size, 2, none⟩ = some (.int .i64 b) := fun w' hb => by
                  rw [hb.cell (p := ⟨w.heap.size, 2, none⟩) hlt, ← hq]; simp
                have c3 : ∀ w', Below w0.heap.size w0 w' → w'.cell? ⟨w.heap.size, 3, none⟩ = some (.int .i64 c) := fun w' hb => by
                  rw [hb.cell (p := ⟨w.heap.size, 3, none⟩) hlt, ← hq]; simp
                have c4 : ∀ w', Below w0.heap.size w0 w' → w'.cell? ⟨w.heap.size, 4, none⟩ = some (.int .i64 d) := fun w' hb => by
                  rw [hb.cell (p := ⟨w.heap.size, 4, none⟩) hlt, ← hq]; simp
                have c5 : ∀ w', Below w0.heap.size w0 w' → w'.cell? ⟨w.heap.size, 5, none⟩ = some (.int .i64 e) := fun w' hb => by
                  rw [hb.cell (p := ⟨w.heap.size, 5, none⟩) hlt, ← hq]; simp
                have c6 : ∀ w', Below w0.heap.size w0 w' → w'.cell? ⟨w.heap.size, 6, none⟩ = some (.int .i64 f) := fun w' hb => by
                  rw [hb.cell (p := ⟨w.heap.size, 6, none⟩) hlt, ← hq]; simp
                have c7 : ∀ w', Below w0.heap.size w0 w' → w'.cell? ⟨w.heap.size, 7, none⟩ = some (.string s) := fun w' hb => by
                  rw [hb.cell (p := ⟨w.heap.size, 7, none⟩) hlt, ← hq]; simp
                have c8 : ∀ w', Below w0.heap.size w0 w' → w'.cell? ⟨w.heap.size, 8, none⟩ = some (.string t) := fun w' hb => by
                  rw [hb.cell (p := ⟨w.heap.size, 8, none⟩) hlt, ← hq]; simp
                have C1 : Hid (∀ w', Below w0.heap.size w0 w' → _) := fun w' hb => mayS_on (a, b) _ hA1 w0 w' hb
                have C2 : Hid (∀ w', Below w0.heap.size w0 w' → _) := fun w' hb => mayS_on (c, d) _ hA2 w0 w' hb
                have C3 : Hid (∀ w', Below w0.heap.size w0 w' → _) := fun w' hb => par_on (e, f) _ hA3 w0 w' hb
                have C4 : Hid (∀ w', Below w0.heap.size w0 w' → _) := fun w' hb => name_on s _ hA4 w0 w' hb hs
                clear hq hA1 hA2 hA3 hA4 hs
                refine (C1.out _ hr0).mono ?_
                rintro e1 w1 ⟨rfl, hb1⟩
                clear C1
                go_wp2_with (first
                  | (go_at_call 50; refine (C2.out _ (by assumption)).mono ?_; rintro e1 w2 ⟨rfl, hb2⟩)
                  | (go_at_call 65; refine (C3.out _ (by assumption)).mono ?_; rintro e1 w3 ⟨rfl, hb3⟩)
                  | (go_at_call 51; refine (C4.out _ (by assumption)).mono ?_; rintro e1 w4 ⟨rfl, hb4⟩))
                go_ret
                exact ⟨rfl, below_step hb0 (Nat.le_refl _) (by assumption)⟩
              · skip
                have gt := isE_no t H3
                obtain rfl : D = false := by
                  cases D with
                  | false => rfl
                  | true =>
                    exfalso
                    obtain ⟨x1, x2, x3⟩ := hD.1 rfl
                    rcases x3 with ⟨y, z0, z1, z2, z3⟩ | ⟨y, _⟩ | ⟨y, _⟩ | ⟨y, _⟩ | ⟨y, _⟩
                    · exact H3 z3
                    · exact absurd (show k = 2 from y) (by omega)
                    · exact absurd (show k = 3 from y) (by omega)
                    · exact absurd (show k = 4 from y) (by omega)
                    · exact absurd (show k = 5 from y) (by omega)
                have hE2 := fun w => stampEq e f 0 0 w
                clear hD h1 h2 hk1 H0 H1 H2 H3
                go_enter Tryz.func46, Tryz.ntmps46
                go_wp2_with fail
                generalize hq : World.alloc w _ = w0
                have hb0 : Below w.heap.size w w0 := by rw [← hq]; exact below_new w _
                have hr0 : Below w0.heap.size w0 w0 := Below.refl _ _
                have hlt : w.heap.size < w0.heap.size := by rw [← hq]; simp
                have c0 : ∀ w', Below w0.heap.size w0 w' → w'.cell? ⟨w.heap.size, 0, none⟩ = some (.int .i64 k) := fun w' hb => by
                  rw [hb.cell (p := ⟨w.heap.size, 0, none⟩) hlt, ← hq]; simp
                have c1 : ∀ w', Below w0.heap.size w0 w' → w'.cell? ⟨w.heap.size, 1, none⟩ = some (.int .i64 a) := fun w' hb => by
                  rw [hb.cell (p := ⟨w.heap.size, 1, none⟩) hlt, ← hq]; simp
                have c2 : ∀ w', Below w0.heap.size w0 w' → w'.cell? ⟨w.heap.size, 2, none⟩ = some (.int .i64 b) := fun w' hb => by
                  rw [hb.cell (p := ⟨w.heap.size, 2, none⟩) hlt, ← hq]; simp
                have c3 : ∀ w', Below w0.heap.size w0 w' → w'.cell? ⟨w.heap.size, 3, none⟩ = some (.int .i64 c) := fun w' hb => by
                  rw [hb.cell (p := ⟨w.heap.size, 3, none⟩) hlt, ← hq]; simp
                have c4 : ∀ w', Below w0.heap.size w0 w' → w'.cell? ⟨w.heap.size, 4, none⟩ = some (.int .i64 d) := fun w' hb => by
                  rw [hb.cell (p := ⟨w.heap.size, 4, none⟩) hlt, ← hq]; simp
                have c5 : ∀ w', Below w0.heap.size w0 w' → w'.cell? ⟨w.heap.size, 5, none⟩ = some (.int .i64 e) := fun w' hb => by
                  rw [hb.cell (p := ⟨w.heap.size, 5, none⟩) hlt, ← hq]; simp
                have c6 : ∀ w', Below w0.heap.size w0 w' → w'.cell? ⟨w.heap.size, 6, none⟩ = some (.int .i64 f) := fun w' hb => by
                  rw [hb.cell (p := ⟨w.heap.size, 6, none⟩) hlt, ← hq]; simp
                have c7 : ∀ w', Below w0.heap.size w0 w' → w'.cell? ⟨w.heap.size, 7, none⟩ = some (.string s) := fun w' hb => by
                  rw [hb.cell (p := ⟨w.heap.size, 7, none⟩) hlt, ← hq]; simp
                have c8 : ∀ w', Below w0.heap.size w0 w' → w'.cell? ⟨w.heap.size, 8, none⟩ = some (.string t) := fun w' hb => by
                  rw [hb.cell (p := ⟨w.heap.size, 8, none⟩) hlt, ← hq]; simp
                have C1 : Hid (∀ w', Below w0.heap.size w0 w' → _) := fun w' hb => mayS_on (a, b) _ hA1 w0 w' hb
                have C2 : Hid (∀ w', Below w0.heap.size w0 w' → _) := fun w' hb => mayS_on (c, d) _ hA2 w0 w' hb
                have C3 : Hid (∀ w', Below w0.heap.size w0 w' → _) := fun w' hb => par_on (e, f) _ hA3 w0 w' hb
                have C4 : Hid (∀ w', Below w0.heap.size w0 w' → _) := fun w' hb => name_on s _ hA4 w0 w' hb hs
                clear hq hA1 hA2 hA3 hA4 hs
                refine (C1.out _ hr0).mono ?_
                rintro e1 w1 ⟨rfl, hb1⟩
                clear C1
                go_wp2_with (first
                  | (go_at_call 50; refine (C2.out _ (by assumption)).mono ?_; rintro e1 w2 ⟨rfl, hb2⟩)
                  | (go_at_call 65; refine (C3.out _ (by assumption)).mono ?_; rintro e1 w3 ⟨rfl, hb3⟩)
                  | (go_at_call 51; refine (C4.out _ (by assumption)).mono ?_; rintro e1 w4 ⟨rfl, hb4⟩))
                go_ret
                exact ⟨rfl, below_step hb0 (Nat.le_refl _) (by assumption)⟩
            · skip
              have hA4 : NameE s 80 := .inr ⟨rfl, H2⟩
              obtain rfl : D = false := by
                cases D with
                | false => rfl
                | true =>
                  exfalso
                  obtain ⟨x1, x2, x3⟩ := hD.1 rfl
                  rcases x3 with ⟨y, z0, z1, z2, z3⟩ | ⟨y, _⟩ | ⟨y, _⟩ | ⟨y, _⟩ | ⟨y, _⟩
                  · exact H2 z2
                  · exact absurd (show k = 2 from y) (by omega)
                  · exact absurd (show k = 3 from y) (by omega)
                  · exact absurd (show k = 4 from y) (by omega)
                  · exact absurd (show k = 5 from y) (by omega)
              have hE2 := fun w => stampEq e f 0 0 w
              clear hD h1 h2 hk1 H0 H1 H2
              go_enter Tryz.func46, Tryz.ntmps46
              go_wp2_with fail
              generalize hq : World.alloc w _ = w0
              have hb0 : Below w.heap.size w w0 := by rw [← hq]; exact below_new w _
              have hr0 : Below w0.heap.size w0 w0 := Below.refl _ _
              have hlt : w.heap.size < w0.heap.size := by rw [← hq]; simp
              have c0 : ∀ w', Below w0.heap.size w0 w' → w'.cell? ⟨w.heap.size, 0, none⟩ = some (.int .i64 k) := fun w' hb => by
                rw [hb.cell (p := ⟨w.heap.size, 0, none⟩) hlt, ← hq]; simp
              have c1 : ∀ w', Below w0.heap.size w0 w' → w'.cell? ⟨w.heap.size, 1, none⟩ = some (.int .i64 a) := fun w' hb => by
                rw [hb.cell (p := ⟨w.heap.size, 1, none⟩) hlt, ← hq]; simp
              have c2 : ∀ w', Below w0.heap.size w0 w' → w'.cell? ⟨w.heap.size, 2, none⟩ = some (.int .i64 b) := fun w' hb => by
                rw [hb.cell (p := ⟨w.heap.size, 2, none⟩) hlt, ← hq]; simp
              have c3 : ∀ w', Below w0.heap.size w0 w' → w'.cell? ⟨w.heap.size, 3, none⟩ = some (.int .i64 c) := fun w' hb => by
                rw [hb.cell (p := ⟨w.heap.size, 3, none⟩) hlt, ← hq]; simp
              have c4 : ∀ w', Below w0.heap.size w0 w' → w'.cell? ⟨w.heap.size, 4, none⟩ = some (.int .i64 d) := fun w' hb => by
                rw [hb.cell (p := ⟨w.heap.size, 4, none⟩) hlt, ← hq]; simp
              have c5 : ∀ w', Below w0.heap.size w0 w' → w'.cell? ⟨w.heap.size, 5, none⟩ = some (.int .i64 e) := fun w' hb => by
                rw [hb.cell (p := ⟨w.heap.size, 5, none⟩) hlt, ← hq]; simp
              have c6 : ∀ w', Below w0.heap.size w0 w' → w'.cell? ⟨w.heap.size, 6, none⟩ = some (.int .i64 f) := fun w' hb => by
                rw [hb.cell (p := ⟨w.heap.size, 6, none⟩) hlt, ← hq]; simp
              have c7 : ∀ w', Below w0.heap.size w0 w' → w'.cell? ⟨w.heap.size, 7, none⟩ = some (.string s) := fun w' hb => by
                rw [hb.cell (p := ⟨w.heap.size, 7, none⟩) hlt, ← hq]; simp
              have c8 : ∀ w', Below w0.heap.size w0 w' → w'.cell? ⟨w.heap.size, 8, none⟩ = some (.string t) := fun w' hb => by
                rw [hb.cell (p := ⟨w.heap.size, 8, none⟩) hlt, ← hq]; simp
              have C1 : Hid (∀ w', Below w0.heap.size w0 w' → _) := fun w' hb => mayS_on (a, b) _ hA1 w0 w' hb
              have C2 : Hid (∀ w', Below w0.heap.size w0 w' → _) := fun w' hb => mayS_on (c, d) _ hA2 w0 w' hb
              have C3 : Hid (∀ w', Below w0.heap.size w0 w' → _) := fun w' hb => par_on (e, f) _ hA3 w0 w' hb
              have C4 : Hid (∀ w', Below w0.heap.size w0 w' → _) := fun w' hb => name_on s _ hA4 w0 w' hb hs
              clear hq hA1 hA2 hA3 hA4 hs
              refine (C1.out _ hr0).mono ?_
              rintro e1 w1 ⟨rfl, hb1⟩
              clear C1
              go_wp2_with (first
                | (go_at_call 50; refine (C2.out _ (by assumption)).mono ?_; rintro e1 w2 ⟨rfl, hb2⟩)
                | (go_at_call 65; refine (C3.out _ (by assumption)).mono ?_; rintro e1 w3 ⟨rfl, hb3⟩)
                | (go_at_call 51; refine (C4.out _ (by assumption)).mono ?_; rintro e1 w4 ⟨rfl, hb4⟩))
              go_ret
              exact ⟨rfl, below_step hb0 (Nat.le_refl _) (by assumption)⟩
          · skip
            have hA3 : decide (ParS (e, f)) = false := decide_eq_false H1
            obtain rfl : D = false := by
              cases D with
              | false => rfl
              | true =>
                exfalso
                obtain ⟨x1, x2, x3⟩ := hD.1 rfl
                rcases x3 with ⟨y, z0, z1, z2, z3⟩ | ⟨y, _⟩ | ⟨y, _⟩ | ⟨y, _⟩ | ⟨y, _⟩
                · exact H1 z1
                · exact absurd (show k = 2 from y) (by omega)
                · exact absurd (show k = 3 from y) (by omega)
                · exact absurd (show k = 4 from y) (by omega)
                · exact absurd (show k = 5 from y) (by omega)
            obtain ⟨A4, hA4⟩ : ∃ x, NameE s x := nameX_is s
            have hE2 := fun w => stampEq e f 0 0 w
            clear hD h1 h2 hk1 H0 H1
            go_enter Tryz.func46, Tryz.ntmps46
            go_wp2_with fail
            generalize hq : World.alloc w _ = w0
            have hb0 : Below w.heap.size w w0 := by rw [← hq]; exact below_new w _
            have hr0 : Below w0.heap.size w0 w0 := Below.refl _ _
            have hlt : w.heap.size < w0.heap.size := by rw [← hq]; simp
            have c0 : ∀ w', Below w0.heap.size w0 w' → w'.cell? ⟨w.heap.size, 0, none⟩ = some (.int .i64 k) := fun w' hb => by
              rw [hb.cell (p := ⟨w.heap.size, 0, none⟩) hlt, ← hq]; simp
            have c1 : ∀ w', Below w0.heap.size w0 w' → w'.cell? ⟨w.heap.size, 1, none⟩ = some (.int .i64 a) := fun w' hb => by
              rw [hb.cell (p := ⟨w.heap.size, 1, none⟩) hlt, ← hq]; simp
            have c2 : ∀ w', Below w0.heap.size w0 w' → w'.cell? ⟨w.heap.size, 2, none⟩ = some (.int .i64 b) := fun w' hb => by
              rw [hb.cell (p := ⟨w.heap.size, 2, none⟩) hlt, ← hq]; simp
            have c3 : ∀ w', Below w0.heap.size w0 w' → w'.cell? ⟨w.heap.size, 3, none⟩ = some (.int .i64 c) := fun w' hb => by
              rw [hb.cell (p := ⟨w.heap.size, 3, none⟩) hlt, ← hq]; simp
            have c4 : ∀ w', Below w0.heap.size w0 w' → w'.cell? ⟨w.heap.size, 4, none⟩ = some (.int .i64 d) := fun w' hb => by
              rw [hb.cell (p := ⟨w.heap.size, 4, none⟩) hlt, ← hq]; simp
            have c5 : ∀ w', Below w0.heap.size w0 w' → w'.cell? ⟨w.heap.size, 5, none⟩ = some (.int .i64 e) := fun w' hb => by
              rw [hb.cell (p := ⟨w.heap.size, 5, none⟩) hlt, ← hq]; simp
            have c6 : ∀ w', Below w0.heap.size w0 w' → w'.cell? ⟨w.heap.size, 6, none⟩ = some (.int .i64 f) := fun w' hb => by
              rw [hb.cell (p := ⟨w.heap.size, 6, none⟩) hlt, ← hq]; simp
            have c7 : ∀ w', Below w0.heap.size w0 w' → w'.cell? ⟨w.heap.size, 7, none⟩ = some (.string s) := fun w' hb => by
              rw [hb.cell (p := ⟨w.heap.size, 7, none⟩) hlt, ← hq]; simp
            have c8 : ∀ w', Below w0.heap.size w0 w' → w'.cell? ⟨w.heap.size, 8, none⟩ = some (.string t) := fun w' hb => by
              rw [hb.cell (p := ⟨w.heap.size, 8, none⟩) hlt, ← hq]; simp
            have C1 : Hid (∀ w', Below w0.heap.size w0 w' → _) := fun w' hb => mayS_on (a, b) _ hA1 w0 w' hb
            have C2 : Hid (∀ w', Below w0.heap.size w0 w' → _) := fun w' hb => mayS_on (c, d) _ hA2 w0 w' hb
            have C3 : Hid (∀ w', Below w0.heap.size w0 w' → _) := fun w' hb => par_on (e, f) _ hA3 w0 w' hb
            have C4 : Hid (∀ w', Below w0.heap.size w0 w' → _) := fun w' hb => name_on s _ hA4 w0 w' hb hs
            clear hq hA1 hA2 hA3 hA4 hs
            refine (C1.out _ hr0).mono ?_
            rintro e1 w1 ⟨rfl, hb1⟩
            clear C1
            go_wp2_with (first
              | (go_at_call 50; refine (C2.out _ (by assumption)).mono ?_; rintro e1 w2 ⟨rfl, hb2⟩)
              | (go_at_call 65; refine (C3.out _ (by assumption)).mono ?_; rintro e1 w3 ⟨rfl, hb3⟩)
              | (go_at_call 51; refine (C4.out _ (by assumption)).mono ?_; rintro e1 w4 ⟨rfl, hb4⟩))
            go_ret
            exact ⟨rfl, below_step hb0 (Nat.le_refl _) (by assumption)⟩
        · skip
          have hE1 := fun w => stampEq_is (c, d) (a, b) false (decide_eq_false H0) w
          obtain rfl : D = false := by
            cases D with
            | false => rfl
            | true =>
              exfalso
              obtain ⟨x1, x2, x3⟩ := hD.1 rfl
              rcases x3 with ⟨y, z0, z1, z2, z3⟩ | ⟨y, _⟩ | ⟨y, _⟩ | ⟨y, _⟩ | ⟨y, _⟩
              · exact H0 z0
              · exact absurd (show k = 2 from y) (by omega)
              · exact absurd (show k = 3 from y) (by omega)
              · exact absurd (show k = 4 from y) (by omega)
              · exact absurd (show k = 5 from y) (by omega)
          obtain ⟨A3, hA3⟩ : ∃ A, decide (ParS (e, f)) = A := ⟨_, rfl⟩
          obtain ⟨A4, hA4⟩ : ∃ x, NameE s x := nameX_is s
          have hE2 := fun w => stampEq e f 0 0 w
          clear hD h1 h2 hk1 H0
          go_enter Tryz.func46, Tryz.ntmps46
          go_wp2_with fail
          generalize hq : World.alloc w _ = w0
          have hb0 : Below w.heap.size w w0 := by rw [← hq]; exact below_new w _
          have hr0 : Below w0.heap.size w0 w0 := Below.refl _ _
          have hlt : w.heap.size < w0.heap.size := by rw [← hq]; simp
          have c0 : ∀ w', Below w0.heap.size w0 w' → w'.cell? ⟨w.heap.size, 0, none⟩ = some (.int .i64 k) := fun w' hb => by
            rw [hb.cell (p := ⟨w.heap.size, 0, none⟩) hlt, ← hq]; simp
          have c1 : ∀ w', Below w0.heap.size w0 w' → w'.cell? ⟨w.heap.size, 1, none⟩ = some (.int .i64 a) := fun w' hb => by
            rw [hb.cell (p := ⟨w.heap.size, 1, none⟩) hlt, ← hq]; simp
          have c2 : ∀ w', Below w0.heap.size w0 w' → w'.cell? ⟨w.heap.size, 2, none⟩ = some (.int .i64 b) := fun w' hb => by
            rw [hb.cell (p := ⟨w.heap.size, 2, none⟩) hlt, ← hq]; simp
          have c3 : ∀ w', Below w0.heap.size w0 w' → w'.cell? ⟨w.heap.size, 3, none⟩ = some (.int .i64 c) := fun w' hb => by
            rw [hb.cell (p := ⟨w.heap.size, 3, none⟩) hlt, ← hq]; simp
          have c4 : ∀ w', Below w0.heap.size w0 w' → w'.cell? ⟨w.heap.size, 4, none⟩ = some (.int .i64 d) := fun w' hb => by
            rw [hb.cell (p := ⟨w.heap.size, 4, none⟩) hlt, ← hq]; simp
          have c5 : ∀ w', Below w0.heap.size w0 w' → w'.cell? ⟨w.heap.size, 5, none⟩ = some (.int .i64 e) := fun w' hb => by
            rw [hb.cell (p := ⟨w.heap.size, 5, none⟩) hlt, ← hq]; simp
          have c6 : ∀ w', Below w0.heap.size w0 w' → w'.cell? ⟨w.heap.size, 6, none⟩ = some (.int .i64 f) := fun w' hb => by
            rw [hb.cell (p := ⟨w.heap.size, 6, none⟩) hlt, ← hq]; simp
          have c7 : ∀ w', Below w0.heap.size w0 w' → w'.cell? ⟨w.heap.size, 7, none⟩ = some (.string s) := fun w' hb => by
            rw [hb.cell (p := ⟨w.heap.size, 7, none⟩) hlt, ← hq]; simp
          have c8 : ∀ w', Below w0.heap.size w0 w' → w'.cell? ⟨w.heap.size, 8, none⟩ = some (.string t) := fun w' hb => by
            rw [hb.cell (p := ⟨w.heap.size, 8, none⟩) hlt, ← hq]; simp
          have C1 : Hid (∀ w', Below w0.heap.size w0 w' → _) := fun w' hb => mayS_on (a, b) _ hA1 w0 w' hb
          have C2 : Hid (∀ w', Below w0.heap.size w0 w' → _) := fun w' hb => mayS_on (c, d) _ hA2 w0 w' hb
          have C3 : Hid (∀ w', Below w0.heap.size w0 w' → _) := fun w' hb => par_on (e, f) _ hA3 w0 w' hb
          have C4 : Hid (∀ w', Below w0.heap.size w0 w' → _) := fun w' hb => name_on s _ hA4 w0 w' hb hs
          clear hq hA1 hA2 hA3 hA4 hs
          refine (C1.out _ hr0).mono ?_
          rintro e1 w1 ⟨rfl, hb1⟩
          clear C1
          go_wp2_with (first
            | (go_at_call 50; refine (C2.out _ (by assumption)).mono ?_; rintro e1 w2 ⟨rfl, hb2⟩)
            | (go_at_call 65; refine (C3.out _ (by assumption)).mono ?_; rintro e1 w3 ⟨rfl, hb3⟩)
            | (go_at_call 51; refine (C4.out _ (by assumption)).mono ?_; rintro e1 w4 ⟨rfl, hb4⟩))
          go_ret
          exact ⟨rfl, below_step hb0 (Nat.le_refl _) (by assumption)⟩
      · skip
        have gk1 : (k == 1) = false := by rw [beq_eq_false_iff_ne]; exact hk1
        by_cases hk2 : k = 2
        · skip
          have gk : (k == 2) = true := by rw [beq_iff_eq]; exact hk2
          by_cases H0 : ParS (e, f)
          · skip
            have hA3 : decide (ParS (e, f)) = true := decide_eq_true H0
            by_cases H1 : s.size = 0
            · skip
              have gs := isE_yes s H1
              by_cases H2 : t.size = 0
              · skip
                have gt := isE_yes t H2
                obtain rfl : D = true := hD.2 ⟨h1, h2, .inr (.inl ⟨hk2, H0, H1, H2⟩)⟩
                obtain ⟨A4, hA4⟩ : ∃ x, NameE s x := nameX_is s
                have hE2 := fun w => stampEq e f 0 0 w
                clear hD h1 h2 hk1 hk2 H0 H1 H2
                go_enter Tryz.func46, Tryz.ntmps46
                go_wp2_with fail
                generalize hq : World.alloc w _ = w0
                have hb0 : Below w.heap.size w w0 := by rw [← hq]; exact below_new w _
                have hr0 : Below w0.heap.size w0 w0 := Below.refl _ _
                have hlt : w.heap.size < w0.heap.size := by rw [← hq]; simp
                have c0 : ∀ w', Below w0.heap.size w0 w' → w'.cell? ⟨w.heap.size, 0, none⟩ = some (.int .i64 k) := fun w' hb => by
                  rw [hb.cell (p := ⟨w.heap.size, 0, none⟩) hlt, ← hq]; simp
                have c1 : ∀ w', Below w0.heap.size w0 w' → w'.cell? ⟨w.heap.size, 1, none⟩ = some (.int .i64 a) := fun w' hb => by
                  rw [hb.cell (p := ⟨w.heap.size, 1, none⟩) hlt, ← hq]; simp
                have c2 : ∀ w', Below w0.heap.size w0 w' → w'.cell? ⟨w.heap.size, 2, none⟩ = some (.int .i64 b) := fun w' hb => by
                  rw [hb.cell (p := ⟨w.heap.size, 2, none⟩) hlt, ← hq]; simp
                have c3 : ∀ w', Below w0.heap.size w0 w' → w'.cell? ⟨w.heap.size, 3, none⟩ = some (.int .i64 c) := fun w' hb => by
                  rw [hb.cell (p := ⟨w.heap.size, 3, none⟩) hlt, ← hq]; simp
                have c4 : ∀ w', Below w0.heap.size w0 w' → w'.cell? ⟨w.heap.size, 4, none⟩ = some (.int .i64 d) := fun w' hb => by
                  rw [hb.cell (p := ⟨w.heap.size, 4, none⟩) hlt, ← hq]; simp
                have c5 : ∀ w', Below w0.heap.size w0 w' → w'.cell? ⟨w.heap.size, 5, none⟩ = some (.int .i64 e) := fun w' hb => by
                  rw [hb.cell (p := ⟨w.heap.size, 5, none⟩) hlt, ← hq]; simp
                have c6 : ∀ w', Below w0.heap.size w0 w' → w'.cell? ⟨w.heap.size, 6, none⟩ = some (.int .i64 f) := fun w' hb => by
                  rw [hb.cell (p := ⟨w.heap.size, 6, none⟩) hlt, ← hq]; simp
                have c7 : ∀ w', Below w0.heap.size w0 w' → w'.cell? ⟨w.heap.size, 7, none⟩ = some (.string s) := fun w' hb => by
                  rw [hb.cell (p := ⟨w.heap.size, 7, none⟩) hlt, ← hq]; simp
                have c8 : ∀ w', Below w0.heap.size w0 w' → w'.cell? ⟨w.heap.size, 8, none⟩ = some (.string t) := fun w' hb => by
                  rw [hb.cell (p := ⟨w.heap.size, 8, none⟩) hlt, ← hq]; simp
                have C1 : Hid (∀ w', Below w0.heap.size w0 w' → _) := fun w' hb => mayS_on (a, b) _ hA1 w0 w' hb
                have C2 : Hid (∀ w', Below w0.heap.size w0 w' → _) := fun w' hb => mayS_on (c, d) _ hA2 w0 w' hb
                have C3 : Hid (∀ w', Below w0.heap.size w0 w' → _) := fun w' hb => par_on (e, f) _ hA3 w0 w' hb
                have C4 : Hid (∀ w', Below w0.heap.size w0 w' → _) := fun w' hb => name_on s _ hA4 w0 w' hb hs
                clear hq hA1 hA2 hA3 hA4 hs
                refine (C1.out _ hr0).mono ?_
                rintro e1 w1 ⟨rfl, hb1⟩
                clear C1
                go_wp2_with (first
                  | (go_at_call 50; refine (C2.out _ (by assumption)).mono ?_; rintro e1 w2 ⟨rfl, hb2⟩)
                  | (go_at_call 65; refine (C3.out _ (by assumption)).mono ?_; rintro e1 w3 ⟨rfl, hb3⟩)
                  | (go_at_call 51; refine (C4.out _ (by assumption)).mono ?_; rintro e1 w4 ⟨rfl, hb4⟩))
                go_ret
                exact ⟨rfl, below_step hb0 (Nat.le_refl _) (by assumption)⟩
              · skip
                have gt := isE_no t H2
                obtain rfl : D = false := by
                  cases D with
                  | false => rfl
                  | true =>
                    exfalso
                    obtain ⟨x1, x2, x3⟩ := hD.1 rfl
                    rcases x3 with ⟨y, _⟩ | ⟨y, z0, z1, z2⟩ | ⟨y, _⟩ | ⟨y, _⟩ | ⟨y, _⟩
                    · exact absurd (show k = 1 from y) (by omega)
                    · exact H2 z2
                    · exact absurd (show k = 3 from y) (by omega)
                    · exact absurd (show k = 4 from y) (by omega)
                    · exact absurd (show k = 5 from y) (by omega)
                obtain ⟨A4, hA4⟩ : ∃ x, NameE s x := nameX_is s
                have hE2 := fun w => stampEq e f 0 0 w
                clear hD h1 h2 hk1 hk2 H0 H1 H2
                go_enter Tryz.func46, Tryz.ntmps46
                go_wp2_with fail
                generalize hq : World.alloc w _ = w0
                have hb0 : Below w.heap.size w w0 := by rw [← hq]; exact below_new w _
                have hr0 : Below w0.heap.size w0 w0 := Below.refl _ _
                have hlt : w.heap.size < w0.heap.size := by rw [← hq]; simp
                have c0 : ∀ w', Below w0.heap.size w0 w' → w'.cell? ⟨w.heap.size, 0, none⟩ = some (.int .i64 k) := fun w' hb => by
                  rw [hb.cell (p := ⟨w.heap.size, 0, none⟩) hlt, ← hq]; simp
                have c1 : ∀ w', Below w0.heap.size w0 w' → w'.cell? ⟨w.heap.size, 1, none⟩ = some (.int .i64 a) := fun w' hb => by
                  rw [hb.cell (p := ⟨w.heap.size, 1, none⟩) hlt, ← hq]; simp
                have c2 : ∀ w', Below w0.heap.size w0 w' → w'.cell? ⟨w.heap.size, 2, none⟩ = some (.int .i64 b) := fun w' hb => by
                  rw [hb.cell (p := ⟨w.heap.size, 2, none⟩) hlt, ← hq]; simp
                have c3 : ∀ w', Below w0.heap.size w0 w' → w'.cell? ⟨w.heap.size, 3, none⟩ = some (.int .i64 c) := fun w' hb => by
                  rw [hb.cell (p := ⟨w.heap.size, 3, none⟩) hlt, ← hq]; simp
                have c4 : ∀ w', Below w0.heap.size w0 w' → w'.cell? ⟨w.heap.size, 4, none⟩ = some (.int .i64 d) := fun w' hb => by
                  rw [hb.cell (p := ⟨w.heap.size, 4, none⟩) hlt, ← hq]; simp
                have c5 : ∀ w', Below w0.heap.size w0 w' → w'.cell? ⟨w.heap.size, 5, none⟩ = some (.int .i64 e) := fun w' hb => by
                  rw [hb.cell (p := ⟨w.heap.size, 5, none⟩) hlt, ← hq]; simp
                have c6 : ∀ w', Below w0.heap.size w0 w' → w'.cell? ⟨w.heap.size, 6, none⟩ = some (.int .i64 f) := fun w' hb => by
                  rw [hb.cell (p := ⟨w.heap.size, 6, none⟩) hlt, ← hq]; simp
                have c7 : ∀ w', Below w0.heap.size w0 w' → w'.cell? ⟨w.heap.size, 7, none⟩ = some (.string s) := fun w' hb => by
                  rw [hb.cell (p := ⟨w.heap.size, 7, none⟩) hlt, ← hq]; simp
                have c8 : ∀ w', Below w0.heap.size w0 w' → w'.cell? ⟨w.heap.size, 8, none⟩ = some (.string t) := fun w' hb => by
                  rw [hb.cell (p := ⟨w.heap.size, 8, none⟩) hlt, ← hq]; simp
                have C1 : Hid (∀ w', Below w0.heap.size w0 w' → _) := fun w' hb => mayS_on (a, b) _ hA1 w0 w' hb
                have C2 : Hid (∀ w', Below w0.heap.size w0 w' → _) := fun w' hb => mayS_on (c, d) _ hA2 w0 w' hb
                have C3 : Hid (∀ w', Below w0.heap.size w0 w' → _) := fun w' hb => par_on (e, f) _ hA3 w0 w' hb
                have C4 : Hid (∀ w', Below w0.heap.size w0 w' → _) := fun w' hb => name_on s _ hA4 w0 w' hb hs
                clear hq hA1 hA2 hA3 hA4 hs
                refine (C1.out _ hr0).mono ?_
                rintro e1 w1 ⟨rfl, hb1⟩
                clear C1
                go_wp2_with (first
                  | (go_at_call 50; refine (C2.out _ (by assumption)).mono ?_; rintro e1 w2 ⟨rfl, hb2⟩)
                  | (go_at_call 65; refine (C3.out _ (by assumption)).mono ?_; rintro e1 w3 ⟨rfl, hb3⟩)
                  | (go_at_call 51; refine (C4.out _ (by assumption)).mono ?_; rintro e1 w4 ⟨rfl, hb4⟩))
                go_ret
                exact ⟨rfl, below_step hb0 (Nat.le_refl _) (by assumption)⟩
            · skip
              have gs := isE_no s H1
              obtain rfl : D = false := by
                cases D with
                | false => rfl
                | true =>
                  exfalso
                  obtain ⟨x1, x2, x3⟩ := hD.1 rfl
                  rcases x3 with ⟨y, _⟩ | ⟨y, z0, z1, z2⟩ | ⟨y, _⟩ | ⟨y, _⟩ | ⟨y, _⟩
                  · exact absurd (show k = 1 from y) (by omega)
                  · exact H1 z1
                  · exact absurd (show k = 3 from y) (by omega)
                  · exact absurd (show k = 4 from y) (by omega)
                  · exact absurd (show k = 5 from y) (by omega)
              obtain ⟨A4, hA4⟩ : ∃ x, NameE s x := nameX_is s
              have hE2 := fun w => stampEq e f 0 0 w
              clear hD h1 h2 hk1 hk2 H0 H1
              go_enter Tryz.func46, Tryz.ntmps46
              go_wp2_with fail
              generalize hq : World.alloc w _ = w0
              have hb0 : Below w.heap.size w w0 := by rw [← hq]; exact below_new w _
              have hr0 : Below w0.heap.size w0 w0 := Below.refl _ _
              have hlt : w.heap.size < w0.heap.size := by rw [← hq]; simp
              have c0 : ∀ w', Below w0.heap.size w0 w' → w'.cell? ⟨w.heap.size, 0, none⟩ = some (.int .i64 k) := fun w' hb => by
                rw [hb.cell (p := ⟨w.heap.size, 0, none⟩) hlt, ← hq]; simp
              have c1 : ∀ w', Below w0.heap.size w0 w' → w'.cell? ⟨w.heap.size, 1, none⟩ = some (.int .i64 a) := fun w' hb => by
                rw [hb.cell (p := ⟨w.heap.size, 1, none⟩) hlt, ← hq]; simp
              have c2 : ∀ w', Below w0.heap.size w0 w' → w'.cell? ⟨w.heap.size, 2, none⟩ = some (.int .i64 b) := fun w' hb => by
                rw [hb.cell (p := ⟨w.heap.size, 2, none⟩) hlt, ← hq]; simp
              have c3 : ∀ w', Below w0.heap.size w0 w' → w'.cell? ⟨w.heap.size, 3, none⟩ = some (.int .i64 c) := fun w' hb => by
                rw [hb.cell (p := ⟨w.heap.size, 3, none⟩) hlt, ← hq]; simp
              have c4 : ∀ w', Below w0.heap.size w0 w' → w'.cell? ⟨w.heap.size, 4, none⟩ = some (.int .i64 d) := fun w' hb => by
                rw [hb.cell (p := ⟨w.heap.size, 4, none⟩) hlt, ← hq]; simp
              have c5 : ∀ w', Below w0.heap.size w0 w' → w'.cell? ⟨w.heap.size, 5, none⟩ = some (.int .i64 e) := fun w' hb => by
                rw [hb.cell (p := ⟨w.heap.size, 5, none⟩) hlt, ← hq]; simp
              have c6 : ∀ w', Below w0.heap.size w0 w' → w'.cell? ⟨w.heap.size, 6, none⟩ = some (.int .i64 f) := fun w' hb => by
                rw [hb.cell (p := ⟨w.heap.size, 6, none⟩) hlt, ← hq]; simp
              have c7 : ∀ w', Below w0.heap.size w0 w' → w'.cell? ⟨w.heap.size, 7, none⟩ = some (.string s) := fun w' hb => by
                rw [hb.cell (p := ⟨w.heap.size, 7, none⟩) hlt, ← hq]; simp
              have c8 : ∀ w', Below w0.heap.size w0 w' → w'.cell? ⟨w.heap.size, 8, none⟩ = some (.string t) := fun w' hb => by
                rw [hb.cell (p := ⟨w.heap.size, 8, none⟩) hlt, ← hq]; simp
              have C1 : Hid (∀ w', Below w0.heap.size w0 w' → _) := fun w' hb => mayS_on (a, b) _ hA1 w0 w' hb
              have C2 : Hid (∀ w', Below w0.heap.size w0 w' → _) := fun w' hb => mayS_on (c, d) _ hA2 w0 w' hb
              have C3 : Hid (∀ w', Below w0.heap.size w0 w' → _) := fun w' hb => par_on (e, f) _ hA3 w0 w' hb
              have C4 : Hid (∀ w', Below w0.heap.size w0 w' → _) := fun w' hb => name_on s _ hA4 w0 w' hb hs
              clear hq hA1 hA2 hA3 hA4 hs
              refine (C1.out _ hr0).mono ?_
              rintro e1 w1 ⟨rfl, hb1⟩
              clear C1
              go_wp2_with (first
                | (go_at_call 50; refine (C2.out _ (by assumption)).mono ?_; rintro e1 w2 ⟨rfl, hb2⟩)
                | (go_at_call 65; refine (C3.out _ (by assumption)).mono ?_; rintro e1 w3 ⟨rfl, hb3⟩)
                | (go_at_call 51; refine (C4.out _ (by assumption)).mono ?_; rintro e1 w4 ⟨rfl, hb4⟩))
              go_ret
              exact ⟨rfl, below_step hb0 (Nat.le_refl _) (by assumption)⟩
          · skip
            have hA3 : decide (ParS (e, f)) = false := decide_eq_false H0
            obtain rfl : D = false := by
              cases D with
              | false => rfl
              | true =>
                exfalso
                obtain ⟨x1, x2, x3⟩ := hD.1 rfl
                rcases x3 with ⟨y, _⟩ | ⟨y, z0, z1, z2⟩ | ⟨y, _⟩ | ⟨y, _⟩ | ⟨y, _⟩
                · exact absurd (show k = 1 from y) (by omega)
                · exact H0 z0
                · exact absurd (show k = 3 from y) (by omega)
                · exact absurd (show k = 4 from y) (by omega)
                · exact absurd (show k = 5 from y) (by omega)
            obtain ⟨A4, hA4⟩ : ∃ x, NameE s x := nameX_is s
            have hE2 := fun w => stampEq e f 0 0 w
            clear hD h1 h2 hk1 hk2 H0
            go_enter Tryz.func46, Tryz.ntmps46
            go_wp2_with fail
            generalize hq : World.alloc w _ = w0
            have hb0 : Below w.heap.size w w0 := by rw [← hq]; exact below_new w _
            have hr0 : Below w0.heap.size w0 w0 := Below.refl _ _
            have hlt : w.heap.size < w0.heap.size := by rw [← hq]; simp
            have c0 : ∀ w', Below w0.heap.size w0 w' → w'.cell? ⟨w.heap.size, 0, none⟩ = some (.int .i64 k) := fun w' hb => by
              rw [hb.cell (p := ⟨w.heap.size, 0, none⟩) hlt, ← hq]; simp
            have c1 : ∀ w', Below w0.heap.size w0 w' → w'.cell? ⟨w.heap.size, 1, none⟩ = some (.int .i64 a) := fun w' hb => by
              rw [hb.cell (p := ⟨w.heap.size, 1, none⟩) hlt, ← hq]; simp
            have c2 : ∀ w', Below w0.heap.size w0 w' → w'.cell? ⟨w.heap.size, 2, none⟩ = some (.int .i64 b) := fun w' hb => by
              rw [hb.cell (p := ⟨w.heap.size, 2, none⟩) hlt, ← hq]; simp
            have c3 : ∀ w', Below w0.heap.size w0 w' → w'.cell? ⟨w.heap.size, 3, none⟩ = some (.int .i64 c) := fun w' hb => by
              rw [hb.cell (p := ⟨w.heap.size, 3, none⟩) hlt, ← hq]; simp
            have c4 : ∀ w', Below w0.heap.size w0 w' → w'.cell? ⟨w.heap.size, 4, none⟩ = some (.int .i64 d) := fun w' hb => by
              rw [hb.cell (p := ⟨w.heap.size, 4, none⟩) hlt, ← hq]; simp
            have c5 : ∀ w', Below w0.heap.size w0 w' → w'.cell? ⟨w.heap.size, 5, none⟩ = some (.int .i64 e) := fun w' hb => by
              rw [hb.cell (p := ⟨w.heap.size, 5, none⟩) hlt, ← hq]; simp
            have c6 : ∀ w', Below w0.heap.size w0 w' → w'.cell? ⟨w.heap.size, 6, none⟩ = some (.int .i64 f) := fun w' hb => by
              rw [hb.cell (p := ⟨w.heap.size, 6, none⟩) hlt, ← hq]; simp
            have c7 : ∀ w', Below w0.heap.size w0 w' → w'.cell? ⟨w.heap.size, 7, none⟩ = some (.string s) := fun w' hb => by
              rw [hb.cell (p := ⟨w.heap.size, 7, none⟩) hlt, ← hq]; simp
            have c8 : ∀ w', Below w0.heap.size w0 w' → w'.cell? ⟨w.heap.size, 8, none⟩ = some (.string t) := fun w' hb => by
              rw [hb.cell (p := ⟨w.heap.size, 8, none⟩) hlt, ← hq]; simp
            have C1 : Hid (∀ w', Below w0.heap.size w0 w' → _) := fun w' hb => mayS_on (a, b) _ hA1 w0 w' hb
            have C2 : Hid (∀ w', Below w0.heap.size w0 w' → _) := fun w' hb => mayS_on (c, d) _ hA2 w0 w' hb
            have C3 : Hid (∀ w', Below w0.heap.size w0 w' → _) := fun w' hb => par_on (e, f) _ hA3 w0 w' hb
            have C4 : Hid (∀ w', Below w0.heap.size w0 w' → _) := fun w' hb => name_on s _ hA4 w0 w' hb hs
            clear hq hA1 hA2 hA3 hA4 hs
            refine (C1.out _ hr0).mono ?_
            rintro e1 w1 ⟨rfl, hb1⟩
            clear C1
            go_wp2_with (first
              | (go_at_call 50; refine (C2.out _ (by assumption)).mono ?_; rintro e1 w2 ⟨rfl, hb2⟩)
              | (go_at_call 65; refine (C3.out _ (by assumption)).mono ?_; rintro e1 w3 ⟨rfl, hb3⟩)
              | (go_at_call 51; refine (C4.out _ (by assumption)).mono ?_; rintro e1 w4 ⟨rfl, hb4⟩))
            go_ret
            exact ⟨rfl, below_step hb0 (Nat.le_refl _) (by assumption)⟩
        · skip
          have gk2 : (k == 2) = false := by rw [beq_eq_false_iff_ne]; exact hk2
          by_cases hk3 : k = 3
          · skip
            have gk : (k == 3) = true := by rw [beq_iff_eq]; exact hk3
            by_cases H0 : (e, f) = (0, 0)
            · skip
              have hE2 := fun w => stampEq_is (e, f) (0, 0) true (decide_eq_true H0) w
              by_cases H1 : NameP s
              · skip
                have hA4 : NameE s 0 := .inl ⟨rfl, H1⟩
                by_cases H2 : t.size = 0
                · skip
                  have gt := isE_yes t H2
                  obtain rfl : D = true := hD.2 ⟨h1, h2, .inr (.inr (.inl ⟨hk3, H0, H1, H2⟩))⟩
                  obtain ⟨A3, hA3⟩ : ∃ A, decide (ParS (e, f)) = A := ⟨_, rfl⟩
                  clear hD h1 h2 hk1 hk2 hk3 H0 H1 H2
                  go_enter Tryz.func46, Tryz.ntmps46
                  go_wp2_with fail
                  generalize hq : World.alloc w _ = w0
                  have hb0 : Below w.heap.size w w0 := by rw [← hq]; exact below_new w _
                  have hr0 : Below w0.heap.size w0 w0 := Below.refl _ _
                  have hlt : w.heap.size < w0.heap.size := by rw [← hq]; simp
                  have c0 : ∀ w', Below w0.heap.size w0 w' → w'.cell? ⟨w.heap.size, 0, none⟩ = some (.int .i64 k) := fun w' hb => by
                    rw [hb.cell (p := ⟨w.heap.size, 0, none⟩) hlt, ← hq]; simp
                  have c1 : ∀ w', Below w0.heap.size w0 w' → w'.cell? ⟨w.heap.size, 1, none⟩ = some (.int .i64 a) := fun w' hb => by
                    rw [hb.cell (p := ⟨w.heap.size, 1, none⟩) hlt, ← hq]; simp
                  have c2 : ∀ w', Below w0.heap.size w0 w' → w'.cell? ⟨w.heap.size, 2, none⟩ = some (.int .i64 b) := fun w' hb => by
                    rw [hb.cell (p := ⟨w.heap.size, 2, none⟩) hlt, ← hq]; simp
                  have c3 : ∀ w', Below w0.heap.size w0 w' → w'.cell? ⟨w.heap.size, 3, none⟩ = some (.int .i64 c) := fun w' hb => by
                    rw [hb.cell (p := ⟨w.heap.size, 3, none⟩) hlt, ← hq]; simp
                  have c4 : ∀ w', Below w0.heap.size w0 w' → w'.cell? ⟨w.heap.size, 4, none⟩ = some (.int .i64 d) := fun w' hb => by
                    rw [hb.cell (p := ⟨w.heap.size, 4, none⟩) hlt, ← hq]; simp
                  have c5 : ∀ w', Below w0.heap.size w0 w' → w'.cell? ⟨w.heap.size, 5, none⟩ = some (.int .i64 e) := fun w' hb => by
                    rw [hb.cell (p := ⟨w.heap.size, 5, none⟩) hlt, ← hq]; simp
                  have c6 : ∀ w', Below w0.heap.size w0 w' → w'.cell? ⟨w.heap.size, 6, none⟩ = some (.int .i64 f) := fun w' hb => by
                    rw [hb.cell (p := ⟨w.heap.size, 6, none⟩) hlt, ← hq]; simp
                  have c7 : ∀ w', Below w0.heap.size w0 w' → w'.cell? ⟨w.heap.size, 7, none⟩ = some (.string s) := fun w' hb => by
                    rw [hb.cell (p := ⟨w.heap.size, 7, none⟩) hlt, ← hq]; simp
                  have c8 : ∀ w', Below w0.heap.size w0 w' → w'.cell? ⟨w.heap.size, 8, none⟩ = some (.string t) := fun w' hb => by
                    rw [hb.cell (p := ⟨w.heap.size, 8, none⟩) hlt, ← hq]; simp
                  have C1 : Hid (∀ w', Below w0.heap.size w0 w' → _) := fun w' hb => mayS_on (a, b) _ hA1 w0 w' hb
                  have C2 : Hid (∀ w', Below w0.heap.size w0 w' → _) := fun w' hb => mayS_on (c, d) _ hA2 w0 w' hb
                  have C3 : Hid (∀ w', Below w0.heap.size w0 w' → _) := fun w' hb => par_on (e, f) _ hA3 w0 w' hb
                  have C4 : Hid (∀ w', Below w0.heap.size w0 w' → _) := fun w' hb => name_on s _ hA4 w0 w' hb hs
                  clear hq hA1 hA2 hA3 hA4 hs
                  refine (C1.out _ hr0).mono ?_
                  rintro e1 w1 ⟨rfl, hb1⟩
                  clear C1
                  go_wp2_with (first
                    | (go_at_call 50; refine (C2.out _ (by assumption)).mono ?_; rintro e1 w2 ⟨rfl, hb2⟩)
                    | (go_at_call 65; refine (C3.out _ (by assumption)).mono ?_; rintro e1 w3 ⟨rfl, hb3⟩)
                    | (go_at_call 51; refine (C4.out _ (by assumption)).mono ?_; rintro e1 w4 ⟨rfl, hb4⟩))
                  go_ret
                  exact ⟨rfl, below_step hb0 (Nat.le_refl _) (by assumption)⟩
                · skip
                  have gt := isE_no t H2
                  obtain rfl : D = false := by
                    cases D with
                    | false => rfl
                    | true =>
                      exfalso
                      obtain ⟨x1, x2, x3⟩ := hD.1 rfl
                      rcases x3 with ⟨y, _⟩ | ⟨y, _⟩ | ⟨y, z0, z1, z2⟩ | ⟨y, _⟩ | ⟨y, _⟩
                      · exact absurd (show k = 1 from y) (by omega)
                      · exact absurd (show k = 2 from y) (by omega)
                      · exact H2 z2
                      · exact absurd (show k = 4 from y) (by omega)
                      · exact absurd (show k = 5 from y) (by omega)
                  obtain ⟨A3, hA3⟩ : ∃ A, decide (ParS (e, f)) = A := ⟨_, rfl⟩
                  clear hD h1 h2 hk1 hk2 hk3 H0 H1 H2
                  go_enter Tryz.func46, Tryz.ntmps46
                  go_wp2_with fail
                  generalize hq : World.alloc w _ = w0
                  have hb0 : Below w.heap.size w w0 := by rw [← hq]; exact below_new w _
                  have hr0 : Below w0.heap.size w0 w0 := Below.refl _ _
                  have hlt : w.heap.size < w0.heap.size := by rw [← hq]; simp
                  have c0 : ∀ w', Below w0.heap.size w0 w' → w'.cell? ⟨w.heap.size, 0, none⟩ = some (.int .i64 k) := fun w' hb => by
                    rw [hb.cell (p := ⟨w.heap.size, 0, none⟩) hlt, ← hq]; simp
                  have c1 : ∀ w', Below w0.heap.size w0 w' → w'.cell? ⟨w.heap.size, 1, none⟩ = some (.int .i64 a) := fun w' hb => by
                    rw [hb.cell (p := ⟨w.heap.size, 1, none⟩) hlt, ← hq]; simp
                  have c2 : ∀ w', Below w0.heap.size w0 w' → w'.cell? ⟨w.heap.size, 2, none⟩ = some (.int .i64 b) := fun w' hb => by
                    rw [hb.cell (p := ⟨w.heap.size, 2, none⟩) hlt, ← hq]; simp
                  have c3 : ∀ w', Below w0.heap.size w0 w' → w'.cell? ⟨w.heap.size, 3, none⟩ = some (.int .i64 c) := fun w' hb => by
                    rw [hb.cell (p := ⟨w.heap.size, 3, none⟩) hlt, ← hq]; simp
                  have c4 : ∀ w', Below w0.heap.size w0 w' → w'.cell? ⟨w.heap.size, 4, none⟩ = some (.int .i64 d) := fun w' hb => by
                    rw [hb.cell (p := ⟨w.heap.size, 4, none⟩) hlt, ← hq]; simp
                  have c5 : ∀ w', Below w0.heap.size w0 w' → w'.cell? ⟨w.heap.size, 5, none⟩ = some (.int .i64 e) := fun w' hb => by
                    rw [hb.cell (p := ⟨w.heap.size, 5, none⟩) hlt, ← hq]; simp
                  have c6 : ∀ w', Below w0.heap.size w0 w' → w'.cell? ⟨w.heap.size, 6, none⟩ = some (.int .i64 f) := fun w' hb => by
                    rw [hb.cell (p := ⟨w.heap.size, 6, none⟩) hlt, ← hq]; simp
                  have c7 : ∀ w', Below w0.heap.size w0 w' → w'.cell? ⟨w.heap.size, 7, none⟩ = some (.string s) := fun w' hb => by
                    rw [hb.cell (p := ⟨w.heap.size, 7, none⟩) hlt, ← hq]; simp
                  have c8 : ∀ w', Below w0.heap.size w0 w' → w'.cell? ⟨w.heap.size, 8, none⟩ = some (.string t) := fun w' hb => by
                    rw [hb.cell (p := ⟨w.heap.size, 8, none⟩) hlt, ← hq]; simp
                  have C1 : Hid (∀ w', Below w0.heap.size w0 w' → _) := fun w' hb => mayS_on (a, b) _ hA1 w0 w' hb
                  have C2 : Hid (∀ w', Below w0.heap.size w0 w' → _) := fun w' hb => mayS_on (c, d) _ hA2 w0 w' hb
                  have C3 : Hid (∀ w', Below w0.heap.size w0 w' → _) := fun w' hb => par_on (e, f) _ hA3 w0 w' hb
                  have C4 : Hid (∀ w', Below w0.heap.size w0 w' → _) := fun w' hb => name_on s _ hA4 w0 w' hb hs
                  clear hq hA1 hA2 hA3 hA4 hs
                  refine (C1.out _ hr0).mono ?_
                  rintro e1 w1 ⟨rfl, hb1⟩
                  clear C1
                  go_wp2_with (first
                    | (go_at_call 50; refine (C2.out _ (by assumption)).mono ?_; rintro e1 w2 ⟨rfl, hb2⟩)
                    | (go_at_call 65; refine (C3.out _ (by assumption)).mono ?_; rintro e1 w3 ⟨rfl, hb3⟩)
                    | (go_at_call 51; refine (C4.out _ (by assumption)).mono ?_; rintro e1 w4 ⟨rfl, hb4⟩))
                  go_ret
                  exact ⟨rfl, below_step hb0 (Nat.le_refl _) (by assumption)⟩
              · skip
                have hA4 : NameE s 80 := .inr ⟨rfl, H1⟩
                obtain rfl : D = false := by
                  cases D with
                  | false => rfl
                  | true =>
                    exfalso
                    obtain ⟨x1, x2, x3⟩ := hD.1 rfl
                    rcases x3 with ⟨y, _⟩ | ⟨y, _⟩ | ⟨y, z0, z1, z2⟩ | ⟨y, _⟩ | ⟨y, _⟩
                    · exact absurd (show k = 1 from y) (by omega)
                    · exact absurd (show k = 2 from y) (by omega)
                    · exact H1 z1
                    · exact absurd (show k = 4 from y) (by omega)
                    · exact absurd (show k = 5 from y) (by omega)
                obtain ⟨A3, hA3⟩ : ∃ A, decide (ParS (e, f)) = A := ⟨_, rfl⟩
                clear hD h1 h2 hk1 hk2 hk3 H0 H1
                go_enter Tryz.func46, Tryz.ntmps46
                go_wp2_with fail
                generalize hq : World.alloc w _ = w0
                have hb0 : Below w.heap.size w w0 := by rw [← hq]; exact below_new w _
                have hr0 : Below w0.heap.size w0 w0 := Below.refl _ _
                have hlt : w.heap.size < w0.heap.size := by rw [← hq]; simp
                have c0 : ∀ w', Below w0.heap.size w0 w' → w'.cell? ⟨w.heap.size, 0, none⟩ = some (.int .i64 k) := fun w' hb => by
                  rw [hb.cell (p := ⟨w.heap.size, 0, none⟩) hlt, ← hq]; simp
                have c1 : ∀ w', Below w0.heap.size w0 w' → w'.cell? ⟨w.heap.size, 1, none⟩ = some (.int .i64 a) := fun w' hb => by
                  rw [hb.cell (p := ⟨w.heap.size, 1, none⟩) hlt, ← hq]; simp
                have c2 : ∀ w', Below w0.heap.size w0 w' → w'.cell? ⟨w.heap.size, 2, none⟩ = some (.int .i64 b) := fun w' hb => by
                  rw [hb.cell (p := ⟨w.heap.size, 2, none⟩) hlt, ← hq]; simp
                have c3 : ∀ w', Below w0.heap.size w0 w' → w'.cell? ⟨w.heap.size, 3, none⟩ = some (.int .i64 c) := fun w' hb => by
                  rw [hb.cell (p := ⟨w.heap.size, 3, none⟩) hlt, ← hq]; simp
                have c4 : ∀ w', Below w0.heap.size w0 w' → w'.cell? ⟨w.heap.size, 4, none⟩ = some (.int .i64 d) := fun w' hb => by
                  rw [hb.cell (p := ⟨w.heap.size, 4, none⟩) hlt, ← hq]; simp
                have c5 : ∀ w', Below w0.heap.size w0 w' → w'.cell? ⟨w.heap.size, 5, none⟩ = some (.int .i64 e) := fun w' hb => by
                  rw [hb.cell (p := ⟨w.heap.size, 5, none⟩) hlt, ← hq]; simp
                have c6 : ∀ w', Below w0.heap.size w0 w' → w'.cell? ⟨w.heap.size, 6, none⟩ = some (.int .i64 f) := fun w' hb => by
                  rw [hb.cell (p := ⟨w.heap.size, 6, none⟩) hlt, ← hq]; simp
                have c7 : ∀ w', Below w0.heap.size w0 w' → w'.cell? ⟨w.heap.size, 7, none⟩ = some (.string s) := fun w' hb => by
                  rw [hb.cell (p := ⟨w.heap.size, 7, none⟩) hlt, ← hq]; simp
                have c8 : ∀ w', Below w0.heap.size w0 w' → w'.cell? ⟨w.heap.size, 8, none⟩ = some (.string t) := fun w' hb => by
                  rw [hb.cell (p := ⟨w.heap.size, 8, none⟩) hlt, ← hq]; simp
                have C1 : Hid (∀ w', Below w0.heap.size w0 w' → _) := fun w' hb => mayS_on (a, b) _ hA1 w0 w' hb
                have C2 : Hid (∀ w', Below w0.heap.size w0 w' → _) := fun w' hb => mayS_on (c, d) _ hA2 w0 w' hb
                have C3 : Hid (∀ w', Below w0.heap.size w0 w' → _) := fun w' hb => par_on (e, f) _ hA3 w0 w' hb
                have C4 : Hid (∀ w', Below w0.heap.size w0 w' → _) := fun w' hb => name_on s _ hA4 w0 w' hb hs
                clear hq hA1 hA2 hA3 hA4 hs
                refine (C1.out _ hr0).mono ?_
                rintro e1 w1 ⟨rfl, hb1⟩
                clear C1
                go_wp2_with (first
                  | (go_at_call 50; refine (C2.out _ (by assumption)).mono ?_; rintro e1 w2 ⟨rfl, hb2⟩)
                  | (go_at_call 65; refine (C3.out _ (by assumption)).mono ?_; rintro e1 w3 ⟨rfl, hb3⟩)
                  | (go_at_call 51; refine (C4.out _ (by assumption)).mono ?_; rintro e1 w4 ⟨rfl, hb4⟩))
                go_ret
                exact ⟨rfl, below_step hb0 (Nat.le_refl _) (by assumption)⟩
            · skip
              have hE2 := fun w => stampEq_is (e, f) (0, 0) false (decide_eq_false H0) w
              obtain rfl : D = false := by
                cases D with
                | false => rfl
                | true =>
                  exfalso
                  obtain ⟨x1, x2, x3⟩ := hD.1 rfl
                  rcases x3 with ⟨y, _⟩ | ⟨y, _⟩ | ⟨y, z0, z1, z2⟩ | ⟨y, _⟩ | ⟨y, _⟩
                  · exact absurd (show k = 1 from y) (by omega)
                  · exact absurd (show k = 2 from y) (by omega)
                  · exact H0 z0
                  · exact absurd (show k = 4 from y) (by omega)
                  · exact absurd (show k = 5 from y) (by omega)
              obtain ⟨A3, hA3⟩ : ∃ A, decide (ParS (e, f)) = A := ⟨_, rfl⟩
              obtain ⟨A4, hA4⟩ : ∃ x, NameE s x := nameX_is s
              clear hD h1 h2 hk1 hk2 hk3 H0
              go_enter Tryz.func46, Tryz.ntmps46
              go_wp2_with fail
              generalize hq : World.alloc w _ = w0
              have hb0 : Below w.heap.size w w0 := by rw [← hq]; exact below_new w _
              have hr0 : Below w0.heap.size w0 w0 := Below.refl _ _
              have hlt : w.heap.size < w0.heap.size := by rw [← hq]; simp
              have c0 : ∀ w', Below w0.heap.size w0 w' → w'.cell? ⟨w.heap.size, 0, none⟩ = some (.int .i64 k) := fun w' hb => by
                rw [hb.cell (p := ⟨w.heap.size, 0, none⟩) hlt, ← hq]; simp
              have c1 : ∀ w', Below w0.heap.size w0 w' → w'.cell? ⟨w.heap.size, 1, none⟩ = some (.int .i64 a) := fun w' hb => by
                rw [hb.cell (p := ⟨w.heap.size, 1, none⟩) hlt, ← hq]; simp
              have c2 : ∀ w', Below w0.heap.size w0 w' → w'.cell? ⟨w.heap.size, 2, none⟩ = some (.int .i64 b) := fun w' hb => by
                rw [hb.cell (p := ⟨w.heap.size, 2, none⟩) hlt, ← hq]; simp
              have c3 : ∀ w', Below w0.heap.size w0 w' → w'.cell? ⟨w.heap.size, 3, none⟩ = some (.int .i64 c) := fun w' hb => by
                rw [hb.cell (p := ⟨w.heap.size, 3, none⟩) hlt, ← hq]; simp
              have c4 : ∀ w', Below w0.heap.size w0 w' → w'.cell? ⟨w.heap.size, 4, none⟩ = some (.int .i64 d) := fun w' hb => by
                rw [hb.cell (p := ⟨w.heap.size, 4, none⟩) hlt, ← hq]; simp
              have c5 : ∀ w', Below w0.heap.size w0 w' → w'.cell? ⟨w.heap.size, 5, none⟩ = some (.int .i64 e) := fun w' hb => by
                rw [hb.cell (p := ⟨w.heap.size, 5, none⟩) hlt, ← hq]; simp
              have c6 : ∀ w', Below w0.heap.size w0 w' → w'.cell? ⟨w.heap.size, 6, none⟩ = some (.int .i64 f) := fun w' hb => by
                rw [hb.cell (p := ⟨w.heap.size, 6, none⟩) hlt, ← hq]; simp
              have c7 : ∀ w', Below w0.heap.size w0 w' → w'.cell? ⟨w.heap.size, 7, none⟩ = some (.string s) := fun w' hb => by
                rw [hb.cell (p := ⟨w.heap.size, 7, none⟩) hlt, ← hq]; simp
              have c8 : ∀ w', Below w0.heap.size w0 w' → w'.cell? ⟨w.heap.size, 8, none⟩ = some (.string t) := fun w' hb => by
                rw [hb.cell (p := ⟨w.heap.size, 8, none⟩) hlt, ← hq]; simp
              have C1 : Hid (∀ w', Below w0.heap.size w0 w' → _) := fun w' hb => mayS_on (a, b) _ hA1 w0 w' hb
              have C2 : Hid (∀ w', Below w0.heap.size w0 w' → _) := fun w' hb => mayS_on (c, d) _ hA2 w0 w' hb
              have C3 : Hid (∀ w', Below w0.heap.size w0 w' → _) := fun w' hb => par_on (e, f) _ hA3 w0 w' hb
              have C4 : Hid (∀ w', Below w0.heap.size w0 w' → _) := fun w' hb => name_on s _ hA4 w0 w' hb hs
              clear hq hA1 hA2 hA3 hA4 hs
              refine (C1.out _ hr0).mono ?_
              rintro e1 w1 ⟨rfl, hb1⟩
              clear C1
              go_wp2_with (first
                | (go_at_call 50; refine (C2.out _ (by assumption)).mono ?_; rintro e1 w2 ⟨rfl, hb2⟩)
                | (go_at_call 65; refine (C3.out _ (by assumption)).mono ?_; rintro e1 w3 ⟨rfl, hb3⟩)
                | (go_at_call 51; refine (C4.out _ (by assumption)).mono ?_; rintro e1 w4 ⟨rfl, hb4⟩))
              go_ret
              exact ⟨rfl, below_step hb0 (Nat.le_refl _) (by assumption)⟩
          · skip
            have gk3 : (k == 3) = false := by rw [beq_eq_false_iff_ne]; exact hk3
            by_cases hk4 : k = 4
            · skip
              have gk : (k == 4) = true := by rw [beq_iff_eq]; exact hk4
              by_cases H0 : (e, f) = (0, 0)
              · skip
                have hE2 := fun w => stampEq_is (e, f) (0, 0) true (decide_eq_true H0) w
                by_cases H1 : s.size = 0
                · skip
                  have gs := isE_yes s H1
                  by_cases H2 : t.size ≤ 64
                  · skip
                    have gt : decide ((t.size : Int) ≤ 64) = true := by simp; omega
                    obtain rfl : D = true := hD.2 ⟨h1, h2, .inr (.inr (.inr (.inl ⟨hk4, H0, H1, H2⟩)))⟩
                    obtain ⟨A3, hA3⟩ : ∃ A, decide (ParS (e, f)) = A := ⟨_, rfl⟩
                    obtain ⟨A4, hA4⟩ : ∃ x, NameE s x := nameX_is s
                    clear hD h1 h2 hk1 hk2 hk3 hk4 H0 H1 H2
                    go_enter Tryz.func46, Tryz.ntmps46
                    go_wp2_with fail
                    generalize hq : World.alloc w _ = w0
                    have hb0 : Below w.heap.size w w0 := by rw [← hq]; exact below_new w _
                    have hr0 : Below w0.heap.size w0 w0 := Below.refl _ _
                    have hlt : w.heap.size < w0.heap.size := by rw [← hq]; simp
                    have c0 : ∀ w', Below w0.heap.size w0 w' → w'.cell? ⟨w.heap.size, 0, none⟩ = some (.int .i64 k) := fun w' hb => by
                      rw [hb.cell (p := ⟨w.heap.size, 0, none⟩) hlt, ← hq]; simp
                    have c1 : ∀ w', Below w0.heap.size w0 w' → w'.cell? ⟨w.heap.size, 1, none⟩ = some (.int .i64 a) := fun w' hb => by
                      rw [hb.cell (p := ⟨w.heap.size, 1, none⟩) hlt, ← hq]; simp
                    have c2 : ∀ w', Below w0.heap.size w0 w' → w'.cell? ⟨w.heap.size, 2, none⟩ = some (.int .i64 b) := fun w' hb => by
                      rw [hb.cell (p := ⟨w.heap.size, 2, none⟩) hlt, ← hq]; simp
                    have c3 : ∀ w', Below w0.heap.size w0 w' → w'.cell? ⟨w.heap.size, 3, none⟩ = some (.int .i64 c) := fun w' hb => by
                      rw [hb.cell (p := ⟨w.heap.size, 3, none⟩) hlt, ← hq]; simp
                    have c4 : ∀ w', Below w0.heap.size w0 w' → w'.cell? ⟨w.heap.size, 4, none⟩ = some (.int .i64 d) := fun w' hb => by
                      rw [hb.cell (p := ⟨w.heap.size, 4, none⟩) hlt, ← hq]; simp
                    have c5 : ∀ w', Below w0.heap.size w0 w' → w'.cell? ⟨w.heap.size, 5, none⟩ = some (.int .i64 e) := fun w' hb => by
                      rw [hb.cell (p := ⟨w.heap.size, 5, none⟩) hlt, ← hq]; simp
                    have c6 : ∀ w', Below w0.heap.size w0 w' → w'.cell? ⟨w.heap.size, 6, none⟩ = some (.int .i64 f) := fun w' hb => by
                      rw [hb.cell (p := ⟨w.heap.size, 6, none⟩) hlt, ← hq]; simp
                    have c7 : ∀ w', Below w0.heap.size w0 w' → w'.cell? ⟨w.heap.size, 7, none⟩ = some (.string s) := fun w' hb => by
                      rw [hb.cell (p := ⟨w.heap.size, 7, none⟩) hlt, ← hq]; simp
                    have c8 : ∀ w', Below w0.heap.size w0 w' → w'.cell? ⟨w.heap.size, 8, none⟩ = some (.string t) := fun w' hb => by
                      rw [hb.cell (p := ⟨w.heap.size, 8, none⟩) hlt, ← hq]; simp
                    have C1 : Hid (∀ w', Below w0.heap.size w0 w' → _) := fun w' hb => mayS_on (a, b) _ hA1 w0 w' hb
                    have C2 : Hid (∀ w', Below w0.heap.size w0 w' → _) := fun w' hb => mayS_on (c, d) _ hA2 w0 w' hb
                    have C3 : Hid (∀ w', Below w0.heap.size w0 w' → _) := fun w' hb => par_on (e, f) _ hA3 w0 w' hb
                    have C4 : Hid (∀ w', Below w0.heap.size w0 w' → _) := fun w' hb => name_on s _ hA4 w0 w' hb hs
                    clear hq hA1 hA2 hA3 hA4 hs
                    refine (C1.out _ hr0).mono ?_
                    rintro e1 w1 ⟨rfl, hb1⟩
                    clear C1
                    go_wp2_with (first
                      | (go_at_call 50; refine (C2.out _ (by assumption)).mono ?_; rintro e1 w2 ⟨rfl, hb2⟩)
                      | (go_at_call 65; refine (C3.out _ (by assumption)).mono ?_; rintro e1 w3 ⟨rfl, hb3⟩)
                      | (go_at_call 51; refine (C4.out _ (by assumption)).mono ?_; rintro e1 w4 ⟨rfl, hb4⟩))
                    go_ret
                    exact ⟨rfl, below_step hb0 (Nat.le_refl _) (by assumption)⟩
                  · skip
                    have gt : decide ((t.size : Int) ≤ 64) = false := by simp; omega
                    obtain rfl : D = false := by
                      cases D with
                      | false => rfl
                      | true =>
                        exfalso
                        obtain ⟨x1, x2, x3⟩ := hD.1 rfl
                        rcases x3 with ⟨y, _⟩ | ⟨y, _⟩ | ⟨y, _⟩ | ⟨y, z0, z1, z2⟩ | ⟨y, _⟩
                        · exact absurd (show k = 1 from y) (by omega)
                        · exact absurd (show k = 2 from y) (by omega)
                        · exact absurd (show k = 3 from y) (by omega)
                        · exact H2 z2
                        · exact absurd (show k = 5 from y) (by omega)
                    obtain ⟨A3, hA3⟩ : ∃ A, decide (ParS (e, f)) = A := ⟨_, rfl⟩
                    obtain ⟨A4, hA4⟩ : ∃ x, NameE s x := nameX_is s
                    clear hD h1 h2 hk1 hk2 hk3 hk4 H0 H1 H2
                    go_enter Tryz.func46, Tryz.ntmps46
                    go_wp2_with fail
                    generalize hq : World.alloc w _ = w0
                    have hb0 : Below w.heap.size w w0 := by rw [← hq]; exact below_new w _
                    have hr0 : Below w0.heap.size w0 w0 := Below.refl _ _
                    have hlt : w.heap.size < w0.heap.size := by rw [← hq]; simp
                    have c0 : ∀ w', Below w0.heap.size w0 w' → w'.cell? ⟨w.heap.size, 0, none⟩ = some (.int .i64 k) := fun w' hb => by
                      rw [hb.cell (p := ⟨w.heap.size, 0, none⟩) hlt, ← hq]; simp
                    have c1 : ∀ w', Below w0.heap.size w0 w' → w'.cell? ⟨w.heap.size, 1, none⟩ = some (.int .i64 a) := fun w' hb => by
                      rw [hb.cell (p := ⟨w.heap.size, 1, none⟩) hlt, ← hq]; simp
                    have c2 : ∀ w', Below w0.heap.size w0 w' → w'.cell? ⟨w.heap.size, 2, none⟩ = some (.int .i64 b) := fun w' hb => by
                      rw [hb.cell (p := ⟨w.heap.size, 2, none⟩) hlt, ← hq]; simp
                    have c3 : ∀ w', Below w0.heap.size w0 w' → w'.cell? ⟨w.heap.size, 3, none⟩ = some (.int .i64 c) := fun w' hb => by
                      rw [hb.cell (p := ⟨w.heap.size, 3, none⟩) hlt, ← hq]; simp
                    have c4 : ∀ w', Below w0.heap.size w0 w' → w'.cell? ⟨w.heap.size, 4, none⟩ = some (.int .i64 d) := fun w' hb => by
                      rw [hb.cell (p := ⟨w.heap.size, 4, none⟩) hlt, ← hq]; simp
                    have c5 : ∀ w', Below w0.heap.size w0 w' → w'.cell? ⟨w.heap.size, 5, none⟩ = some (.int .i64 e) := fun w' hb => by
                      rw [hb.cell (p := ⟨w.heap.size, 5, none⟩) hlt, ← hq]; simp
                    have c6 : ∀ w', Below w0.heap.size w0 w' → w'.cell? ⟨w.heap.size, 6, none⟩ = some (.int .i64 f) := fun w' hb => by
                      rw [hb.cell (p := ⟨w.heap.size, 6, none⟩) hlt, ← hq]; simp
                    have c7 : ∀ w', Below w0.heap.size w0 w' → w'.cell? ⟨w.heap.size, 7, none⟩ = some (.string s) := fun w' hb => by
                      rw [hb.cell (p := ⟨w.heap.size, 7, none⟩) hlt, ← hq]; simp
                    have c8 : ∀ w', Below w0.heap.size w0 w' → w'.cell? ⟨w.heap.size, 8, none⟩ = some (.string t) := fun w' hb => by
                      rw [hb.cell (p := ⟨w.heap.size, 8, none⟩) hlt, ← hq]; simp
                    have C1 : Hid (∀ w', Below w0.heap.size w0 w' → _) := fun w' hb => mayS_on (a, b) _ hA1 w0 w' hb
                    have C2 : Hid (∀ w', Below w0.heap.size w0 w' → _) := fun w' hb => mayS_on (c, d) _ hA2 w0 w' hb
                    have C3 : Hid (∀ w', Below w0.heap.size w0 w' → _) := fun w' hb => par_on (e, f) _ hA3 w0 w' hb
                    have C4 : Hid (∀ w', Below w0.heap.size w0 w' → _) := fun w' hb => name_on s _ hA4 w0 w' hb hs
                    clear hq hA1 hA2 hA3 hA4 hs
                    refine (C1.out _ hr0).mono ?_
                    rintro e1 w1 ⟨rfl, hb1⟩
                    clear C1
                    go_wp2_with (first
                      | (go_at_call 50; refine (C2.out _ (by assumption)).mono ?_; rintro e1 w2 ⟨rfl, hb2⟩)
                      | (go_at_call 65; refine (C3.out _ (by assumption)).mono ?_; rintro e1 w3 ⟨rfl, hb3⟩)
                      | (go_at_call 51; refine (C4.out _ (by assumption)).mono ?_; rintro e1 w4 ⟨rfl, hb4⟩))
                    go_ret
                    exact ⟨rfl, below_step hb0 (Nat.le_refl _) (by assumption)⟩
                · skip
                  have gs := isE_no s H1
                  obtain rfl : D = false := by
                    cases D with
                    | false => rfl
                    | true =>
                      exfalso
                      obtain ⟨x1, x2, x3⟩ := hD.1 rfl
                      rcases x3 with ⟨y, _⟩ | ⟨y, _⟩ | ⟨y, _⟩ | ⟨y, z0, z1, z2⟩ | ⟨y, _⟩
                      · exact absurd (show k = 1 from y) (by omega)
                      · exact absurd (show k = 2 from y) (by omega)
                      · exact absurd (show k = 3 from y) (by omega)
                      · exact H1 z1
                      · exact absurd (show k = 5 from y) (by omega)
                  obtain ⟨A3, hA3⟩ : ∃ A, decide (ParS (e, f)) = A := ⟨_, rfl⟩
                  obtain ⟨A4, hA4⟩ : ∃ x, NameE s x := nameX_is s
                  clear hD h1 h2 hk1 hk2 hk3 hk4 H0 H1
                  go_enter Tryz.func46, Tryz.ntmps46
                  go_wp2_with fail
                  generalize hq : World.alloc w _ = w0
                  have hb0 : Below w.heap.size w w0 := by rw [← hq]; exact below_new w _
                  have hr0 : Below w0.heap.size w0 w0 := Below.refl _ _
                  have hlt : w.heap.size < w0.heap.size := by rw [← hq]; simp
                  have c0 : ∀ w', Below w0.heap.size w0 w' → w'.cell? ⟨w.heap.size, 0, none⟩ = some (.int .i64 k) := fun w' hb => by
                    rw [hb.cell (p := ⟨w.heap.size, 0, none⟩) hlt, ← hq]; simp
                  have c1 : ∀ w', Below w0.heap.size w0 w' → w'.cell? ⟨w.heap.size, 1, none⟩ = some (.int .i64 a) := fun w' hb => by
                    rw [hb.cell (p := ⟨w.heap.size, 1, none⟩) hlt, ← hq]; simp
                  have c2 : ∀ w', Below w0.heap.size w0 w' → w'.cell? ⟨w.heap.size, 2, none⟩ = some (.int .i64 b) := fun w' hb => by
                    rw [hb.cell (p := ⟨w.heap.size, 2, none⟩) hlt, ← hq]; simp
                  have c3 : ∀ w', Below w0.heap.size w0 w' → w'.cell? ⟨w.heap.size, 3, none⟩ = some (.int .i64 c) := fun w' hb => by
                    rw [hb.cell (p := ⟨w.heap.size, 3, none⟩) hlt, ← hq]; simp
                  have c4 : ∀ w', Below w0.heap.size w0 w' → w'.cell? ⟨w.heap.size, 4, none⟩ = some (.int .i64 d) := fun w' hb => by
                    rw [hb.cell (p := ⟨w.heap.size, 4, none⟩) hlt, ← hq]; simp
                  have c5 : ∀ w', Below w0.heap.size w0 w' → w'.cell? ⟨w.heap.size, 5, none⟩ = some (.int .i64 e) := fun w' hb => by
                    rw [hb.cell (p := ⟨w.heap.size, 5, none⟩) hlt, ← hq]; simp
                  have c6 : ∀ w', Below w0.heap.size w0 w' → w'.cell? ⟨w.heap.size, 6, none⟩ = some (.int .i64 f) := fun w' hb => by
                    rw [hb.cell (p := ⟨w.heap.size, 6, none⟩) hlt, ← hq]; simp
                  have c7 : ∀ w', Below w0.heap.size w0 w' → w'.cell? ⟨w.heap.size, 7, none⟩ = some (.string s) := fun w' hb => by
                    rw [hb.cell (p := ⟨w.heap.size, 7, none⟩) hlt, ← hq]; simp
                  have c8 : ∀ w', Below w0.heap.size w0 w' → w'.cell? ⟨w.heap.size, 8, none⟩ = some (.string t) := fun w' hb => by
                    rw [hb.cell (p := ⟨w.heap.size, 8, none⟩) hlt, ← hq]; simp
                  have C1 : Hid (∀ w', Below w0.heap.size w0 w' → _) := fun w' hb => mayS_on (a, b) _ hA1 w0 w' hb
                  have C2 : Hid (∀ w', Below w0.heap.size w0 w' → _) := fun w' hb => mayS_on (c, d) _ hA2 w0 w' hb
                  have C3 : Hid (∀ w', Below w0.heap.size w0 w' → _) := fun w' hb => par_on (e, f) _ hA3 w0 w' hb
                  have C4 : Hid (∀ w', Below w0.heap.size w0 w' → _) := fun w' hb => name_on s _ hA4 w0 w' hb hs
                  clear hq hA1 hA2 hA3 hA4 hs
                  refine (C1.out _ hr0).mono ?_
                  rintro e1 w1 ⟨rfl, hb1⟩
                  clear C1
                  go_wp2_with (first
                    | (go_at_call 50; refine (C2.out _ (by assumption)).mono ?_; rintro e1 w2 ⟨rfl, hb2⟩)
                    | (go_at_call 65; refine (C3.out _ (by assumption)).mono ?_; rintro e1 w3 ⟨rfl, hb3⟩)
                    | (go_at_call 51; refine (C4.out _ (by assumption)).mono ?_; rintro e1 w4 ⟨rfl, hb4⟩))
                  go_ret
                  exact ⟨rfl, below_step hb0 (Nat.le_refl _) (by assumption)⟩
              · skip
                have hE2 := fun w => stampEq_is (e, f) (0, 0) false (decide_eq_false H0) w
                obtain rfl : D = false := by
                  cases D with
                  | false => rfl
                  | true =>
                    exfalso
                    obtain ⟨x1, x2, x3⟩ := hD.1 rfl
                    rcases x3 with ⟨y, _⟩ | ⟨y, _⟩ | ⟨y, _⟩ | ⟨y, z0, z1, z2⟩ | ⟨y, _⟩
                    · exact absurd (show k = 1 from y) (by omega)
                    · exact absurd (show k = 2 from y) (by omega)
                    · exact absurd (show k = 3 from y) (by omega)
                    · exact H0 z0
                    · exact absurd (show k = 5 from y) (by omega)
                obtain ⟨A3, hA3⟩ : ∃ A, decide (ParS (e, f)) = A := ⟨_, rfl⟩
                obtain ⟨A4, hA4⟩ : ∃ x, NameE s x := nameX_is s
                clear hD h1 h2 hk1 hk2 hk3 hk4 H0
                go_enter Tryz.func46, Tryz.ntmps46
                go_wp2_with fail
                generalize hq : World.alloc w _ = w0
                have hb0 : Below w.heap.size w w0 := by rw [← hq]; exact below_new w _
                have hr0 : Below w0.heap.size w0 w0 := Below.refl _ _
                have hlt : w.heap.size < w0.heap.size := by rw [← hq]; simp
                have c0 : ∀ w', Below w0.heap.size w0 w' → w'.cell? ⟨w.heap.size, 0, none⟩ = some (.int .i64 k) := fun w' hb => by
                  rw [hb.cell (p := ⟨w.heap.size, 0, none⟩) hlt, ← hq]; simp
                have c1 : ∀ w', Below w0.heap.size w0 w' → w'.cell? ⟨w.heap.size, 1, none⟩ = some (.int .i64 a) := fun w' hb => by
                  rw [hb.cell (p := ⟨w.heap.size, 1, none⟩) hlt, ← hq]; simp
                have c2 : ∀ w', Below w0.heap.size w0 w' → w'.cell? ⟨w.heap.size, 2, none⟩ = some (.int .i64 b) := fun w' hb => by
                  rw [hb.cell (p := ⟨w.heap.size, 2, none⟩) hlt, ← hq]; simp
                have c3 : ∀ w', Below w0.heap.size w0 w' → w'.cell? ⟨w.heap.size, 3, none⟩ = some (.int .i64 c) := fun w' hb => by
                  rw [hb.cell (p := ⟨w.heap.size, 3, none⟩) hlt, ← hq]; simp
                have c4 : ∀ w', Below w0.heap.size w0 w' → w'.cell? ⟨w.heap.size, 4, none⟩ = some (.int .i64 d) := fun w' hb => by
                  rw [hb.cell (p := ⟨w.heap.size, 4, none⟩) hlt, ← hq]; simp
                have c5 : ∀ w', Below w0.heap.size w0 w' → w'.cell? ⟨w.heap.size, 5, none⟩ = some (.int .i64 e) := fun w' hb => by
                  rw [hb.cell (p := ⟨w.heap.size, 5, none⟩) hlt, ← hq]; simp
                have c6 : ∀ w', Below w0.heap.size w0 w' → w'.cell? ⟨w.heap.size, 6, none⟩ = some (.int .i64 f) := fun w' hb => by
                  rw [hb.cell (p := ⟨w.heap.size, 6, none⟩) hlt, ← hq]; simp
                have c7 : ∀ w', Below w0.heap.size w0 w' → w'.cell? ⟨w.heap.size, 7, none⟩ = some (.string s) := fun w' hb => by
                  rw [hb.cell (p := ⟨w.heap.size, 7, none⟩) hlt, ← hq]; simp
                have c8 : ∀ w', Below w0.heap.size w0 w' → w'.cell? ⟨w.heap.size, 8, none⟩ = some (.string t) := fun w' hb => by
                  rw [hb.cell (p := ⟨w.heap.size, 8, none⟩) hlt, ← hq]; simp
                have C1 : Hid (∀ w', Below w0.heap.size w0 w' → _) := fun w' hb => mayS_on (a, b) _ hA1 w0 w' hb
                have C2 : Hid (∀ w', Below w0.heap.size w0 w' → _) := fun w' hb => mayS_on (c, d) _ hA2 w0 w' hb
                have C3 : Hid (∀ w', Below w0.heap.size w0 w' → _) := fun w' hb => par_on (e, f) _ hA3 w0 w' hb
                have C4 : Hid (∀ w', Below w0.heap.size w0 w' → _) := fun w' hb => name_on s _ hA4 w0 w' hb hs
                clear hq hA1 hA2 hA3 hA4 hs
                refine (C1.out _ hr0).mono ?_
                rintro e1 w1 ⟨rfl, hb1⟩
                clear C1
                go_wp2_with (first
                  | (go_at_call 50; refine (C2.out _ (by assumption)).mono ?_; rintro e1 w2 ⟨rfl, hb2⟩)
                  | (go_at_call 65; refine (C3.out _ (by assumption)).mono ?_; rintro e1 w3 ⟨rfl, hb3⟩)
                  | (go_at_call 51; refine (C4.out _ (by assumption)).mono ?_; rintro e1 w4 ⟨rfl, hb4⟩))
                go_ret
                exact ⟨rfl, below_step hb0 (Nat.le_refl _) (by assumption)⟩
            · skip
              have gk4 : (k == 4) = false := by rw [beq_eq_false_iff_ne]; exact hk4
              by_cases hk5 : k = 5
              · skip
                have gk : (k == 5) = true := by rw [beq_iff_eq]; exact hk5
                by_cases H0 : (e, f) = (0, 0)
                · skip
                  have hE2 := fun w => stampEq_is (e, f) (0, 0) true (decide_eq_true H0) w
                  by_cases H1 : s.size = 0
                  · skip
                    have gs := isE_yes s H1
                    by_cases H2 : t.size = 0
                    · skip
                      have gt := isE_yes t H2
                      obtain rfl : D = true := hD.2 ⟨h1, h2, .inr (.inr (.inr (.inr (⟨hk5, H0, H1, H2⟩))))⟩
                      obtain ⟨A3, hA3⟩ : ∃ A, decide (ParS (e, f)) = A := ⟨_, rfl⟩
                      obtain ⟨A4, hA4⟩ : ∃ x, NameE s x := nameX_is s
                      clear hD h1 h2 hk1 hk2 hk3 hk4 hk5 H0 H1 H2
                      go_enter Tryz.func46, Tryz.ntmps46
                      go_wp2_with fail
                      generalize hq : World.alloc w _ = w0
                      have hb0 : Below w.heap.size w w0 := by rw [← hq]; exact below_new w _
                      have hr0 : Below w0.heap.size w0 w0 := Below.refl _ _
                      have hlt : w.heap.size < w0.heap.size := by rw [← hq]; simp
                      have c0 : ∀ w', Below w0.heap.size w0 w' → w'.cell? ⟨w.heap.size, 0, none⟩ = some (.int .i64 k) := fun w' hb => by
                        rw [hb.cell (p := ⟨w.heap.size, 0, none⟩) hlt, ← hq]; simp
                      have c1 : ∀ w', Below w0.heap.size w0 w' → w'.cell? ⟨w.heap.size, 1, none⟩ = some (.int .i64 a) := fun w' hb => by
                        rw [hb.cell (p := ⟨w.heap.size, 1, none⟩) hlt, ← hq]; simp
                      have c2 : ∀ w', Below w0.heap.size w0 w' → w'.cell? ⟨w.heap.size, 2, none⟩ = some (.int .i64 b) := fun w' hb => by
                        rw [hb.cell (p := ⟨w.heap.size, 2, none⟩) hlt, ← hq]; simp
                      have c3 : ∀ w', Below w0.heap.size w0 w' → w'.cell? ⟨w.heap.size, 3, none⟩ = some (.int .i64 c) := fun w' hb => by
                        rw [hb.cell (p := ⟨w.heap.size, 3, none⟩) hlt, ← hq]; simp
                      have c4 : ∀ w', Below w0.heap.size w0 w' → w'.cell? ⟨w.heap.size, 4, none⟩ = some (.int .i64 d) := fun w' hb => by
                        rw [hb.cell (p := ⟨w.heap.size, 4, none⟩) hlt, ← hq]; simp
                      have c5 : ∀ w', Below w0.heap.size w0 w' → w'.cell? ⟨w.heap.size, 5, none⟩ = some (.int .i64 e) := fun w' hb => by
                        rw [hb.cell (p := ⟨w.heap.size, 5, none⟩) hlt, ← hq]; simp
                      have c6 : ∀ w', Below w0.heap.size w0 w' → w'.cell? ⟨w.heap.size, 6, none⟩ = some (.int .i64 f) := fun w' hb => by
                        rw [hb.cell (p := ⟨w.heap.size, 6, none⟩) hlt, ← hq]; simp
                      have c7 : ∀ w', Below w0.heap.size w0 w' → w'.cell? ⟨w.heap.size, 7, none⟩ = some (.string s) := fun w' hb => by
                        rw [hb.cell (p := ⟨w.heap.size, 7, none⟩) hlt, ← hq]; simp
                      have c8 : ∀ w', Below w0.heap.size w0 w' → w'.cell? ⟨w.heap.size, 8, none⟩ = some (.string t) := fun w' hb => by
                        rw [hb.cell (p := ⟨w.heap.size, 8, none⟩) hlt, ← hq]; simp
                      have C1 : Hid (∀ w', Below w0.heap.size w0 w' → _) := fun w' hb => mayS_on (a, b) _ hA1 w0 w' hb
                      have C2 : Hid (∀ w', Below w0.heap.size w0 w' → _) := fun w' hb => mayS_on (c, d) _ hA2 w0 w' hb
                      have C3 : Hid (∀ w', Below w0.heap.size w0 w' → _) := fun w' hb => par_on (e, f) _ hA3 w0 w' hb
                      have C4 : Hid (∀ w', Below w0.heap.size w0 w' → _) := fun w' hb => name_on s _ hA4 w0 w' hb hs
                      clear hq hA1 hA2 hA3 hA4 hs
                      refine (C1.out _ hr0).mono ?_
                      rintro e1 w1 ⟨rfl, hb1⟩
                      clear C1
                      go_wp2_with (first
                        | (go_at_call 50; refine (C2.out _ (by assumption)).mono ?_; rintro e1 w2 ⟨rfl, hb2⟩)
                        | (go_at_call 65; refine (C3.out _ (by assumption)).mono ?_; rintro e1 w3 ⟨rfl, hb3⟩)
                        | (go_at_call 51; refine (C4.out _ (by assumption)).mono ?_; rintro e1 w4 ⟨rfl, hb4⟩))
                      go_ret
                      exact ⟨rfl, below_step hb0 (Nat.le_refl _) (by assumption)⟩
                    · skip
                      have gt := isE_no t H2
                      obtain rfl : D = false := by
                        cases D with
                        | false => rfl
                        | true =>
                          exfalso
                          obtain ⟨x1, x2, x3⟩ := hD.1 rfl
                          rcases x3 with ⟨y, _⟩ | ⟨y, _⟩ | ⟨y, _⟩ | ⟨y, _⟩ | ⟨y, z0, z1, z2⟩
                          · exact absurd (show k = 1 from y) (by omega)
                          · exact absurd (show k = 2 from y) (by omega)
                          · exact absurd (show k = 3 from y) (by omega)
                          · exact absurd (show k = 4 from y) (by omega)
                          · exact H2 z2
                      obtain ⟨A3, hA3⟩ : ∃ A, decide (ParS (e, f)) = A := ⟨_, rfl⟩
                      obtain ⟨A4, hA4⟩ : ∃ x, NameE s x := nameX_is s
                      clear hD h1 h2 hk1 hk2 hk3 hk4 hk5 H0 H1 H2
                      go_enter Tryz.func46, Tryz.ntmps46
                      go_wp2_with fail
                      generalize hq : World.alloc w _ = w0
                      have hb0 : Below w.heap.size w w0 := by rw [← hq]; exact below_new w _
                      have hr0 : Below w0.heap.size w0 w0 := Below.refl _ _
                      have hlt : w.heap.size < w0.heap.size := by rw [← hq]; simp
                      have c0 : ∀ w', Below w0.heap.size w0 w' → w'.cell? ⟨w.heap.size, 0, none⟩ = some (.int .i64 k) := fun w' hb => by
                        rw [hb.cell (p := ⟨w.heap.size, 0, none⟩) hlt, ← hq]; simp
                      have c1 : ∀ w', Below w0.heap.size w0 w' → w'.cell? ⟨w.heap.size, 1, none⟩ = some (.int .i64 a) := fun w' hb => by
                        rw [hb.cell (p := ⟨w.heap.size, 1, none⟩) hlt, ← hq]; simp
                      have c2 : ∀ w', Below w0.heap.size w0 w' → w'.cell? ⟨w.heap.size, 2, none⟩ = some (.int .i64 b) := fun w' hb => by
                        rw [hb.cell (p := ⟨w.heap.size, 2, none⟩) hlt, ← hq]; simp
                      have c3 : ∀ w', Below w0.heap.size w0 w' → w'.cell? ⟨w.heap.size, 3, none⟩ = some (.int .i64 c) := fun w' hb => by
                        rw [hb.cell (p := ⟨w.heap.size, 3, none⟩) hlt, ← hq]; simp
                      have c4 : ∀ w', Below w0.heap.size w0 w' → w'.cell? ⟨w.heap.size, 4, none⟩ = some (.int .i64 d) := fun w' hb => by
                        rw [hb.cell (p := ⟨w.heap.size, 4, none⟩) hlt, ← hq]; simp
                      have c5 : ∀ w', Below w0.heap.size w0 w' → w'.cell? ⟨w.heap.size, 5, none⟩ = some (.int .i64 e) := fun w' hb => by
                        rw [hb.cell (p := ⟨w.heap.size, 5, none⟩) hlt, ← hq]; simp
                      have c6 : ∀ w', Below w0.heap.size w0 w' → w'.cell? ⟨w.heap.size, 6, none⟩ = some (.int .i64 f) := fun w' hb => by
                        rw [hb.cell (p := ⟨w.heap.size, 6, none⟩) hlt, ← hq]; simp
                      have c7 : ∀ w', Below w0.heap.size w0 w' → w'.cell? ⟨w.heap.size, 7, none⟩ = some (.string s) := fun w' hb => by
                        rw [hb.cell (p := ⟨w.heap.size, 7, none⟩) hlt, ← hq]; simp
                      have c8 : ∀ w', Below w0.heap.size w0 w' → w'.cell? ⟨w.heap.size, 8, none⟩ = some (.string t) := fun w' hb => by
                        rw [hb.cell (p := ⟨w.heap.size, 8, none⟩) hlt, ← hq]; simp
                      have C1 : Hid (∀ w', Below w0.heap.size w0 w' → _) := fun w' hb => mayS_on (a, b) _ hA1 w0 w' hb
                      have C2 : Hid (∀ w', Below w0.heap.size w0 w' → _) := fun w' hb => mayS_on (c, d) _ hA2 w0 w' hb
                      have C3 : Hid (∀ w', Below w0.heap.size w0 w' → _) := fun w' hb => par_on (e, f) _ hA3 w0 w' hb
                      have C4 : Hid (∀ w', Below w0.heap.size w0 w' → _) := fun w' hb => name_on s _ hA4 w0 w' hb hs
                      clear hq hA1 hA2 hA3 hA4 hs
                      refine (C1.out _ hr0).mono ?_
                      rintro e1 w1 ⟨rfl, hb1⟩
                      clear C1
                      go_wp2_with (first
                        | (go_at_call 50; refine (C2.out _ (by assumption)).mono ?_; rintro e1 w2 ⟨rfl, hb2⟩)
                        | (go_at_call 65; refine (C3.out _ (by assumption)).mono ?_; rintro e1 w3 ⟨rfl, hb3⟩)
                        | (go_at_call 51; refine (C4.out _ (by assumption)).mono ?_; rintro e1 w4 ⟨rfl, hb4⟩))
                      go_ret
                      exact ⟨rfl, below_step hb0 (Nat.le_refl _) (by assumption)⟩
                  · skip
                    have gs := isE_no s H1
                    obtain rfl : D = false := by
                      cases D with
                      | false => rfl
                      | true =>
                        exfalso
                        obtain ⟨x1, x2, x3⟩ := hD.1 rfl
                        rcases x3 with ⟨y, _⟩ | ⟨y, _⟩ | ⟨y, _⟩ | ⟨y, _⟩ | ⟨y, z0, z1, z2⟩
                        · exact absurd (show k = 1 from y) (by omega)
                        · exact absurd (show k = 2 from y) (by omega)
                        · exact absurd (show k = 3 from y) (by omega)
                        · exact absurd (show k = 4 from y) (by omega)
                        · exact H1 z1
                    obtain ⟨A3, hA3⟩ : ∃ A, decide (ParS (e, f)) = A := ⟨_, rfl⟩
                    obtain ⟨A4, hA4⟩ : ∃ x, NameE s x := nameX_is s
                    clear hD h1 h2 hk1 hk2 hk3 hk4 hk5 H0 H1
                    go_enter Tryz.func46, Tryz.ntmps46
                    go_wp2_with fail
                    generalize hq : World.alloc w _ = w0
                    have hb0 : Below w.heap.size w w0 := by rw [← hq]; exact below_new w _
                    have hr0 : Below w0.heap.size w0 w0 := Below.refl _ _
                    have hlt : w.heap.size < w0.heap.size := by rw [← hq]; simp
                    have c0 : ∀ w', Below w0.heap.size w0 w' → w'.cell? ⟨w.heap.size, 0, none⟩ = some (.int .i64 k) := fun w' hb => by
                      rw [hb.cell (p := ⟨w.heap.size, 0, none⟩) hlt, ← hq]; simp
                    have c1 : ∀ w', Below w0.heap.size w0 w' → w'.cell? ⟨w.heap.size, 1, none⟩ = some (.int .i64 a) := fun w' hb => by
                      rw [hb.cell (p := ⟨w.heap.size, 1, none⟩) hlt, ← hq]; simp
                    have c2 : ∀ w', Below w0.heap.size w0 w' → w'.cell? ⟨w.heap.size, 2, none⟩ = some (.int .i64 b) := fun w' hb => by
                      rw [hb.cell (p := ⟨w.heap.size, 2, none⟩) hlt, ← hq]; simp
                    have c3 : ∀ w', Below w0.heap.size w0 w' → w'.cell? ⟨w.heap.size, 3, none⟩ = some (.int .i64 c) := fun w' hb => by
                      rw [hb.cell (p := ⟨w.heap.size, 3, none⟩) hlt, ← hq]; simp
                    have c4 : ∀ w', Below w0.heap.size w0 w' → w'.cell? ⟨w.heap.size, 4, none⟩ = some (.int .i64 d) := fun w' hb => by
                      rw [hb.cell (p := ⟨w.heap.size, 4, none⟩) hlt, ← hq]; simp
                    have c5 : ∀ w', Below w0.heap.size w0 w' → w'.cell? ⟨w.heap.size, 5, none⟩ = some (.int .i64 e) := fun w' hb => by
                      rw [hb.cell (p := ⟨w.heap.size, 5, none⟩) hlt, ← hq]; simp
                    have c6 : ∀ w', Below w0.heap.size w0 w' → w'.cell? ⟨w.heap.size, 6, none⟩ = some (.int .i64 f) := fun w' hb => by
                      rw [hb.cell (p := ⟨w.heap.size, 6, none⟩) hlt, ← hq]; simp
                    have c7 : ∀ w', Below w0.heap.size w0 w' → w'.cell? ⟨w.heap.size, 7, none⟩ = some (.string s) := fun w' hb => by
                      rw [hb.cell (p := ⟨w.heap.size, 7, none⟩) hlt, ← hq]; simp
                    have c8 : ∀ w', Below w0.heap.size w0 w' → w'.cell? ⟨w.heap.size, 8, none⟩ = some (.string t) := fun w' hb => by
                      rw [hb.cell (p := ⟨w.heap.size, 8, none⟩) hlt, ← hq]; simp
                    have C1 : Hid (∀ w', Below w0.heap.size w0 w' → _) := fun w' hb => mayS_on (a, b) _ hA1 w0 w' hb
                    have C2 : Hid (∀ w', Below w0.heap.size w0 w' → _) := fun w' hb => mayS_on (c, d) _ hA2 w0 w' hb
                    have C3 : Hid (∀ w', Below w0.heap.size w0 w' → _) := fun w' hb => par_on (e, f) _ hA3 w0 w' hb
                    have C4 : Hid (∀ w', Below w0.heap.size w0 w' → _) := fun w' hb => name_on s _ hA4 w0 w' hb hs
                    clear hq hA1 hA2 hA3 hA4 hs
                    refine (C1.out _ hr0).mono ?_
                    rintro e1 w1 ⟨rfl, hb1⟩
                    clear C1
                    go_wp2_with (first
                      | (go_at_call 50; refine (C2.out _ (by assumption)).mono ?_; rintro e1 w2 ⟨rfl, hb2⟩)
                      | (go_at_call 65; refine (C3.out _ (by assumption)).mono ?_; rintro e1 w3 ⟨rfl, hb3⟩)
                      | (go_at_call 51; refine (C4.out _ (by assumption)).mono ?_; rintro e1 w4 ⟨rfl, hb4⟩))
                    go_ret
                    exact ⟨rfl, below_step hb0 (Nat.le_refl _) (by assumption)⟩
                · skip
                  have hE2 := fun w => stampEq_is (e, f) (0, 0) false (decide_eq_false H0) w
                  obtain rfl : D = false := by
                    cases D with
                    | false => rfl
                    | true =>
                      exfalso
                      obtain ⟨x1, x2, x3⟩ := hD.1 rfl
                      rcases x3 with ⟨y, _⟩ | ⟨y, _⟩ | ⟨y, _⟩ | ⟨y, _⟩ | ⟨y, z0, z1, z2⟩
                      · exact absurd (show k = 1 from y) (by omega)
                      · exact absurd (show k = 2 from y) (by omega)
                      · exact absurd (show k = 3 from y) (by omega)
                      · exact absurd (show k = 4 from y) (by omega)
                      · exact H0 z0
                  obtain ⟨A3, hA3⟩ : ∃ A, decide (ParS (e, f)) = A := ⟨_, rfl⟩
                  obtain ⟨A4, hA4⟩ : ∃ x, NameE s x := nameX_is s
                  clear hD h1 h2 hk1 hk2 hk3 hk4 hk5 H0
                  go_enter Tryz.func46, Tryz.ntmps46
                  go_wp2_with fail
                  generalize hq : World.alloc w _ = w0
                  have hb0 : Below w.heap.size w w0 := by rw [← hq]; exact below_new w _
                  have hr0 : Below w0.heap.size w0 w0 := Below.refl _ _
                  have hlt : w.heap.size < w0.heap.size := by rw [← hq]; simp
                  have c0 : ∀ w', Below w0.heap.size w0 w' → w'.cell? ⟨w.heap.size, 0, none⟩ = some (.int .i64 k) := fun w' hb => by
                    rw [hb.cell (p := ⟨w.heap.size, 0, none⟩) hlt, ← hq]; simp
                  have c1 : ∀ w', Below w0.heap.size w0 w' → w'.cell? ⟨w.heap.size, 1, none⟩ = some (.int .i64 a) := fun w' hb => by
                    rw [hb.cell (p := ⟨w.heap.size, 1, none⟩) hlt, ← hq]; simp
                  have c2 : ∀ w', Below w0.heap.size w0 w' → w'.cell? ⟨w.heap.size, 2, none⟩ = some (.int .i64 b) := fun w' hb => by
                    rw [hb.cell (p := ⟨w.heap.size, 2, none⟩) hlt, ← hq]; simp
                  have c3 : ∀ w', Below w0.heap.size w0 w' → w'.cell? ⟨w.heap.size, 3, none⟩ = some (.int .i64 c) := fun w' hb => by
                    rw [hb.cell (p := ⟨w.heap.size, 3, none⟩) hlt, ← hq]; simp
                  have c4 : ∀ w', Below w0.heap.size w0 w' → w'.cell? ⟨w.heap.size, 4, none⟩ = some (.int .i64 d) := fun w' hb => by
                    rw [hb.cell (p := ⟨w.heap.size, 4, none⟩) hlt, ← hq]; simp
                  have c5 : ∀ w', Below w0.heap.size w0 w' → w'.cell? ⟨w.heap.size, 5, none⟩ = some (.int .i64 e) := fun w' hb => by
                    rw [hb.cell (p := ⟨w.heap.size, 5, none⟩) hlt, ← hq]; simp
                  have c6 : ∀ w', Below w0.heap.size w0 w' → w'.cell? ⟨w.heap.size, 6, none⟩ = some (.int .i64 f) := fun w' hb => by
                    rw [hb.cell (p := ⟨w.heap.size, 6, none⟩) hlt, ← hq]; simp
                  have c7 : ∀ w', Below w0.heap.size w0 w' → w'.cell? ⟨w.heap.size, 7, none⟩ = some (.string s) := fun w' hb => by
                    rw [hb.cell (p := ⟨w.heap.size, 7, none⟩) hlt, ← hq]; simp
                  have c8 : ∀ w', Below w0.heap.size w0 w' → w'.cell? ⟨w.heap.size, 8, none⟩ = some (.string t) := fun w' hb => by
                    rw [hb.cell (p := ⟨w.heap.size, 8, none⟩) hlt, ← hq]; simp
                  have C1 : Hid (∀ w', Below w0.heap.size w0 w' → _) := fun w' hb => mayS_on (a, b) _ hA1 w0 w' hb
                  have C2 : Hid (∀ w', Below w0.heap.size w0 w' → _) := fun w' hb => mayS_on (c, d) _ hA2 w0 w' hb
                  have C3 : Hid (∀ w', Below w0.heap.size w0 w' → _) := fun w' hb => par_on (e, f) _ hA3 w0 w' hb
                  have C4 : Hid (∀ w', Below w0.heap.size w0 w' → _) := fun w' hb => name_on s _ hA4 w0 w' hb hs
                  clear hq hA1 hA2 hA3 hA4 hs
                  refine (C1.out _ hr0).mono ?_
                  rintro e1 w1 ⟨rfl, hb1⟩
                  clear C1
                  go_wp2_with (first
                    | (go_at_call 50; refine (C2.out _ (by assumption)).mono ?_; rintro e1 w2 ⟨rfl, hb2⟩)
                    | (go_at_call 65; refine (C3.out _ (by assumption)).mono ?_; rintro e1 w3 ⟨rfl, hb3⟩)
                    | (go_at_call 51; refine (C4.out _ (by assumption)).mono ?_; rintro e1 w4 ⟨rfl, hb4⟩))
                  go_ret
                  exact ⟨rfl, below_step hb0 (Nat.le_refl _) (by assumption)⟩
              · skip
                have gk5 : (k == 5) = false := by rw [beq_eq_false_iff_ne]; exact hk5
                obtain rfl : D = false := by
                  cases D with
                  | false => rfl
                  | true =>
                    exfalso
                    obtain ⟨x1, x2, x3⟩ := hD.1 rfl
                    rcases x3 with ⟨y, _⟩ | ⟨y, _⟩ | ⟨y, _⟩ | ⟨y, _⟩ | ⟨y, _⟩
                    · exact absurd (show k = 1 from y) (by omega)
                    · exact absurd (show k = 2 from y) (by omega)
                    · exact absurd (show k = 3 from y) (by omega)
                    · exact absurd (show k = 4 from y) (by omega)
                    · exact absurd (show k = 5 from y) (by omega)
                obtain ⟨A3, hA3⟩ : ∃ A, decide (ParS (e, f)) = A := ⟨_, rfl⟩
                obtain ⟨A4, hA4⟩ : ∃ x, NameE s x := nameX_is s
                have hE2 := fun w => stampEq e f 0 0 w
                clear hD h1 h2 hk1 hk2 hk3 hk4 hk5
                go_enter Tryz.func46, Tryz.ntmps46
                go_wp2_with fail
                generalize hq : World.alloc w _ = w0
                have hb0 : Below w.heap.size w w0 := by rw [← hq]; exact below_new w _
                have hr0 : Below w0.heap.size w0 w0 := Below.refl _ _
                have hlt : w.heap.size < w0.heap.size := by rw [← hq]; simp
                have c0 : ∀ w', Below w0.heap.size w0 w' → w'.cell? ⟨w.heap.size, 0, none⟩ = some (.int .i64 k) := fun w' hb => by
                  rw [hb.cell (p := ⟨w.heap.size, 0, none⟩) hlt, ← hq]; simp
                have c1 : ∀ w', Below w0.heap.size w0 w' → w'.cell? ⟨w.heap.size, 1, none⟩ = some (.int .i64 a) := fun w' hb => by
                  rw [hb.cell (p := ⟨w.heap.size, 1, none⟩) hlt, ← hq]; simp
                have c2 : ∀ w', Below w0.heap.size w0 w' → w'.cell? ⟨w.heap.size, 2, none⟩ = some (.int .i64 b) := fun w' hb => by
                  rw [hb.cell (p := ⟨w.heap.size, 2, none⟩) hlt, ← hq]; simp
                have c3 : ∀ w', Below w0.heap.size w0 w' → w'.cell? ⟨w.heap.size, 3, none⟩ = some (.int .i64 c) := fun w' hb => by
                  rw [hb.cell (p := ⟨w.heap.size, 3, none⟩) hlt, ← hq]; simp
                have c4 : ∀ w', Below w0.heap.size w0 w' → w'.cell? ⟨w.heap.size, 4, none⟩ = some (.int .i64 d) := fun w' hb => by
                  rw [hb.cell (p := ⟨w.heap.size, 4, none⟩) hlt, ← hq]; simp
                have c5 : ∀ w', Below w0.heap.size w0 w' → w'.cell? ⟨w.heap.size, 5, none⟩ = some (.int .i64 e) := fun w' hb => by
                  rw [hb.cell (p := ⟨w.heap.size, 5, none⟩) hlt, ← hq]; simp
                have c6 : ∀ w', Below w0.heap.size w0 w' → w'.cell? ⟨w.heap.size, 6, none⟩ = some (.int .i64 f) := fun w' hb => by
                  rw [hb.cell (p := ⟨w.heap.size, 6, none⟩) hlt, ← hq]; simp
                have c7 : ∀ w', Below w0.heap.size w0 w' → w'.cell? ⟨w.heap.size, 7, none⟩ = some (.string s) := fun w' hb => by
                  rw [hb.cell (p := ⟨w.heap.size, 7, none⟩) hlt, ← hq]; simp
                have c8 : ∀ w', Below w0.heap.size w0 w' → w'.cell? ⟨w.heap.size, 8, none⟩ = some (.string t) := fun w' hb => by
                  rw [hb.cell (p := ⟨w.heap.size, 8, none⟩) hlt, ← hq]; simp
                have C1 : Hid (∀ w', Below w0.heap.size w0 w' → _) := fun w' hb => mayS_on (a, b) _ hA1 w0 w' hb
                have C2 : Hid (∀ w', Below w0.heap.size w0 w' → _) := fun w' hb => mayS_on (c, d) _ hA2 w0 w' hb
                have C3 : Hid (∀ w', Below w0.heap.size w0 w' → _) := fun w' hb => par_on (e, f) _ hA3 w0 w' hb
                have C4 : Hid (∀ w', Below w0.heap.size w0 w' → _) := fun w' hb => name_on s _ hA4 w0 w' hb hs
                clear hq hA1 hA2 hA3 hA4 hs
                refine (C1.out _ hr0).mono ?_
                rintro e1 w1 ⟨rfl, hb1⟩
                clear C1
                go_wp2_with (first
                  | (go_at_call 50; refine (C2.out _ (by assumption)).mono ?_; rintro e1 w2 ⟨rfl, hb2⟩)
                  | (go_at_call 65; refine (C3.out _ (by assumption)).mono ?_; rintro e1 w3 ⟨rfl, hb3⟩)
                  | (go_at_call 51; refine (C4.out _ (by assumption)).mono ?_; rintro e1 w4 ⟨rfl, hb4⟩))
                go_ret
                exact ⟨rfl, below_step hb0 (Nat.le_refl _) (by assumption)⟩
    · obtain ⟨A2, hA2, rfl⟩ : ∃ A, decide (MayS (c, d)) = A ∧ A = false := ⟨_, rfl, decide_eq_false h2⟩
      obtain rfl : D = false := by
        cases D with
        | false => rfl
        | true =>
          exfalso
          obtain ⟨x1, x2, x3⟩ := hD.1 rfl
          exact h2 x2
      obtain ⟨A3, hA3⟩ : ∃ A, decide (ParS (e, f)) = A := ⟨_, rfl⟩
      obtain ⟨A4, hA4⟩ : ∃ x, NameE s x := nameX_is s
      have hE2 := fun w => stampEq e f 0 0 w
      clear hD h1 h2
      go_enter Tryz.func46, Tryz.ntmps46
      go_wp2_with fail
      generalize hq : World.alloc w _ = w0
      have hb0 : Below w.heap.size w w0 := by rw [← hq]; exact below_new w _
      have hr0 : Below w0.heap.size w0 w0 := Below.refl _ _
      have hlt : w.heap.size < w0.heap.size := by rw [← hq]; simp
      have c0 : ∀ w', Below w0.heap.size w0 w' → w'.cell? ⟨w.heap.size, 0, none⟩ = some (.int .i64 k) := fun w' hb => by
        rw [hb.cell (p := ⟨w.heap.size, 0, none⟩) hlt, ← hq]; simp
      have c1 : ∀ w', Below w0.heap.size w0 w' → w'.cell? ⟨w.heap.size, 1, none⟩ = some (.int .i64 a) := fun w' hb => by
        rw [hb.cell (p := ⟨w.heap.size, 1, none⟩) hlt, ← hq]; simp
      have c2 : ∀ w', Below w0.heap.size w0 w' → w'.cell? ⟨w.heap.size, 2, none⟩ = some (.int .i64 b) := fun w' hb => by
        rw [hb.cell (p := ⟨w.heap.size, 2, none⟩) hlt, ← hq]; simp
      have c3 : ∀ w', Below w0.heap.size w0 w' → w'.cell? ⟨w.heap.size, 3, none⟩ = some (.int .i64 c) := fun w' hb => by
        rw [hb.cell (p := ⟨w.heap.size, 3, none⟩) hlt, ← hq]; simp
      have c4 : ∀ w', Below w0.heap.size w0 w' → w'.cell? ⟨w.heap.size, 4, none⟩ = some (.int .i64 d) := fun w' hb => by
        rw [hb.cell (p := ⟨w.heap.size, 4, none⟩) hlt, ← hq]; simp
      have c5 : ∀ w', Below w0.heap.size w0 w' → w'.cell? ⟨w.heap.size, 5, none⟩ = some (.int .i64 e) := fun w' hb => by
        rw [hb.cell (p := ⟨w.heap.size, 5, none⟩) hlt, ← hq]; simp
      have c6 : ∀ w', Below w0.heap.size w0 w' → w'.cell? ⟨w.heap.size, 6, none⟩ = some (.int .i64 f) := fun w' hb => by
        rw [hb.cell (p := ⟨w.heap.size, 6, none⟩) hlt, ← hq]; simp
      have c7 : ∀ w', Below w0.heap.size w0 w' → w'.cell? ⟨w.heap.size, 7, none⟩ = some (.string s) := fun w' hb => by
        rw [hb.cell (p := ⟨w.heap.size, 7, none⟩) hlt, ← hq]; simp
      have c8 : ∀ w', Below w0.heap.size w0 w' → w'.cell? ⟨w.heap.size, 8, none⟩ = some (.string t) := fun w' hb => by
        rw [hb.cell (p := ⟨w.heap.size, 8, none⟩) hlt, ← hq]; simp
      have C1 : Hid (∀ w', Below w0.heap.size w0 w' → _) := fun w' hb => mayS_on (a, b) _ hA1 w0 w' hb
      have C2 : Hid (∀ w', Below w0.heap.size w0 w' → _) := fun w' hb => mayS_on (c, d) _ hA2 w0 w' hb
      have C3 : Hid (∀ w', Below w0.heap.size w0 w' → _) := fun w' hb => par_on (e, f) _ hA3 w0 w' hb
      have C4 : Hid (∀ w', Below w0.heap.size w0 w' → _) := fun w' hb => name_on s _ hA4 w0 w' hb hs
      clear hq hA1 hA2 hA3 hA4 hs
      refine (C1.out _ hr0).mono ?_
      rintro e1 w1 ⟨rfl, hb1⟩
      clear C1
      go_wp2_with (first
        | (go_at_call 50; refine (C2.out _ (by assumption)).mono ?_; rintro e1 w2 ⟨rfl, hb2⟩)
        | (go_at_call 65; refine (C3.out _ (by assumption)).mono ?_; rintro e1 w3 ⟨rfl, hb3⟩)
        | (go_at_call 51; refine (C4.out _ (by assumption)).mono ?_; rintro e1 w4 ⟨rfl, hb4⟩))
      go_ret
      exact ⟨rfl, below_step hb0 (Nat.le_refl _) (by assumption)⟩
  · obtain ⟨A1, hA1, rfl⟩ : ∃ A, decide (MayS (a, b)) = A ∧ A = false := ⟨_, rfl, decide_eq_false h1⟩
    obtain ⟨A2, hA2⟩ : ∃ A, decide (MayS (c, d)) = A := ⟨_, rfl⟩
    obtain rfl : D = false := by
      cases D with
      | false => rfl
      | true =>
        exfalso
        obtain ⟨x1, x2, x3⟩ := hD.1 rfl
        exact h1 x1
    obtain ⟨A3, hA3⟩ : ∃ A, decide (ParS (e, f)) = A := ⟨_, rfl⟩
    obtain ⟨A4, hA4⟩ : ∃ x, NameE s x := nameX_is s
    have hE2 := fun w => stampEq e f 0 0 w
    clear hD h1
    go_enter Tryz.func46, Tryz.ntmps46
    go_wp2_with fail
    generalize hq : World.alloc w _ = w0
    have hb0 : Below w.heap.size w w0 := by rw [← hq]; exact below_new w _
    have hr0 : Below w0.heap.size w0 w0 := Below.refl _ _
    have hlt : w.heap.size < w0.heap.size := by rw [← hq]; simp
    have c0 : ∀ w', Below w0.heap.size w0 w' → w'.cell? ⟨w.heap.size, 0, none⟩ = some (.int .i64 k) := fun w' hb => by
      rw [hb.cell (p := ⟨w.heap.size, 0, none⟩) hlt, ← hq]; simp
    have c1 : ∀ w', Below w0.heap.size w0 w' → w'.cell? ⟨w.heap.size, 1, none⟩ = some (.int .i64 a) := fun w' hb => by
      rw [hb.cell (p := ⟨w.heap.size, 1, none⟩) hlt, ← hq]; simp
    have c2 : ∀ w', Below w0.heap.size w0 w' → w'.cell? ⟨w.heap.size, 2, none⟩ = some (.int .i64 b) := fun w' hb => by
      rw [hb.cell (p := ⟨w.heap.size, 2, none⟩) hlt, ← hq]; simp
    have c3 : ∀ w', Below w0.heap.size w0 w' → w'.cell? ⟨w.heap.size, 3, none⟩ = some (.int .i64 c) := fun w' hb => by
      rw [hb.cell (p := ⟨w.heap.size, 3, none⟩) hlt, ← hq]; simp
    have c4 : ∀ w', Below w0.heap.size w0 w' → w'.cell? ⟨w.heap.size, 4, none⟩ = some (.int .i64 d) := fun w' hb => by
      rw [hb.cell (p := ⟨w.heap.size, 4, none⟩) hlt, ← hq]; simp
    have c5 : ∀ w', Below w0.heap.size w0 w' → w'.cell? ⟨w.heap.size, 5, none⟩ = some (.int .i64 e) := fun w' hb => by
      rw [hb.cell (p := ⟨w.heap.size, 5, none⟩) hlt, ← hq]; simp
    have c6 : ∀ w', Below w0.heap.size w0 w' → w'.cell? ⟨w.heap.size, 6, none⟩ = some (.int .i64 f) := fun w' hb => by
      rw [hb.cell (p := ⟨w.heap.size, 6, none⟩) hlt, ← hq]; simp
    have c7 : ∀ w', Below w0.heap.size w0 w' → w'.cell? ⟨w.heap.size, 7, none⟩ = some (.string s) := fun w' hb => by
      rw [hb.cell (p := ⟨w.heap.size, 7, none⟩) hlt, ← hq]; simp
    have c8 : ∀ w', Below w0.heap.size w0 w' → w'.cell? ⟨w.heap.size, 8, none⟩ = some (.string t) := fun w' hb => by
      rw [hb.cell (p := ⟨w.heap.size, 8, none⟩) hlt, ← hq]; simp
    have C1 : Hid (∀ w', Below w0.heap.size w0 w' → _) := fun w' hb => mayS_on (a, b) _ hA1 w0 w' hb
    have C2 : Hid (∀ w', Below w0.heap.size w0 w' → _) := fun w' hb => mayS_on (c, d) _ hA2 w0 w' hb
    have C3 : Hid (∀ w', Below w0.heap.size w0 w' → _) := fun w' hb => par_on (e, f) _ hA3 w0 w' hb
    have C4 : Hid (∀ w', Below w0.heap.size w0 w' → _) := fun w' hb => name_on s _ hA4 w0 w' hb hs
    clear hq hA1 hA2 hA3 hA4 hs
    refine (C1.out _ hr0).mono ?_
    rintro e1 w1 ⟨rfl, hb1⟩
    clear C1
    go_wp2_with (first
      | (go_at_call 50; refine (C2.out _ (by assumption)).mono ?_; rintro e1 w2 ⟨rfl, hb2⟩)
      | (go_at_call 65; refine (C3.out _ (by assumption)).mono ?_; rintro e1 w3 ⟨rfl, hb3⟩)
      | (go_at_call 51; refine (C4.out _ (by assumption)).mono ?_; rintro e1 w4 ⟨rfl, hb4⟩))
    go_ret
    exact ⟨rfl, below_step hb0 (Nat.le_refl _) (by assumption)⟩

end Go.Proofs.YtebnmghjdoblaaaGreatDoor

/- Layer 11 on plain data: operations put among others. -/
namespace Go.Proofs.YtebnmghjdoblaaaGreatDoor
open Go.RowKit
set_option linter.unusedSimpArgs false

/-- A tree: nodes for good, operations, the base. -/
abbrev TreeT := List NodeT × List OpT × (Int × Int)

/-- Where an operation is put; how many are OpCreate; is there one with a stamp? -/
def posO (s : Int × Int) (ops : List OpT) : Nat := ops.findIdx (fun x => decide (LessS s x.2.1))

def creO (ops : List OpT) : Nat := ops.countP (fun x => decide (x.1 = 1))

def dupO (s : Int × Int) (ops : List OpT) : Bool := ops.any (fun x => decide (x.2.1 = s))

def putO (o : OpT) (ops : List OpT) : List OpT := ops.take (posO o.2.1 ops) ++ o :: ops.drop (posO o.2.1 ops)

/-- A tree behind an operation that comes, and what is answered. (M: which operations may be.) -/
def applyP (M : OpT → Bool) (t : TreeT) (o : OpT) : TreeT × Int :=
  if M o = false ∨ ¬ LessS t.2.2 o.2.1 then (t, 1)
  else if dupO o.2.1 t.2.1 = true then (t, 0)
  else if 512 ≤ t.2.1.length ∨ (o.1 = 1 ∧ 512 ≤ t.1.length + creO t.2.1) then (t, 2)
  else ((t.1, putO o t.2.1, t.2.2), 0)

theorem mayM_ex : ∃ M : OpT → Bool, ∀ o, M o = true ↔ MayO o :=
  ⟨fun o => @decide (MayO o) (Classical.propDecidable _), fun o => by simp⟩

theorem drop_oL (ops : List OpT) (m : Nat) (h : m < ops.length) : ops.drop m = oL ops m :: ops.drop (m + 1) := by
  have e : oL ops m = ops[m] := by unfold oL; rw [List.getD_eq_getElem?_getD, List.getElem?_eq_getElem h]; rfl
  rw [e]; exact List.drop_eq_getElem_cons h

theorem posO_le (s : Int × Int) (ops : List OpT) : posO s ops ≤ ops.length := List.findIdx_le_length

theorem posO_cons (s : Int × Int) (x : OpT) (l : List OpT) : posO s (x :: l) = if LessS s x.2.1 then 0 else posO s l + 1 := by
  unfold posO
  rw [List.findIdx_cons]
  by_cases h : LessS s x.2.1
  · rw [if_pos h, decide_eq_true h]; rfl
  · rw [if_neg h, decide_eq_false h]; rfl

theorem creO_cons (x : OpT) (l : List OpT) : creO (x :: l) = creO l + (if x.1 = 1 then 1 else 0) := by
  unfold creO
  rw [List.countP_cons]
  simp

theorem dupO_cons (s : Int × Int) (x : OpT) (l : List OpT) : dupO s (x :: l) = (decide (x.2.1 = s) || dupO s l) := rfl

theorem creO_le (l : List OpT) : creO l ≤ l.length := List.countP_le_length

end Go.Proofs.YtebnmghjdoblaaaGreatDoor

/- Layer 11 on plain data: the order in which operations come does not matter; nor when what is for good is so. -/
namespace Go.Proofs.YtebnmghjdoblaaaGreatDoor
open Go.RowKit
set_option linter.unusedSimpArgs false

/-- Operations by rising stamps. -/
def SortO (l : List OpT) : Prop := l.Pairwise (fun a b => LessS a.2.1 b.2.1)

theorem putO_cons (o x : OpT) (l : List OpT) : putO o (x :: l) = if LessS o.2.1 x.2.1 then o :: x :: l else x :: putO o l := by
  unfold putO
  rw [posO_cons]
  by_cases h : LessS o.2.1 x.2.1
  · rw [if_pos h, if_pos h]; rfl
  · rw [if_neg h, if_neg h]; rfl

theorem putO_mem (o : OpT) (l : List OpT) (y : OpT) : y ∈ putO o l ↔ y = o ∨ y ∈ l := by
  induction l with
  | nil => simp [putO, posO]
  | cons x l ih =>
    rw [putO_cons]
    by_cases h : LessS o.2.1 x.2.1
    · rw [if_pos h, List.mem_cons]
    · rw [if_neg h, List.mem_cons, ih, List.mem_cons]
      constructor
      · rintro (h | h | h)
        · exact .inr (.inl h)
        · exact .inl h
        · exact .inr (.inr h)
      · rintro (h | h | h)
        · exact .inr (.inl h)
        · exact .inl h
        · exact .inr (.inr h)

theorem putO_sort (o : OpT) (l : List OpT) (h : SortO l) (hd : dupO o.2.1 l = false) : SortO (putO o l) := by
  induction l with
  | nil => exact List.pairwise_singleton _ _
  | cons x l ih =>
    unfold SortO at h
    rw [List.pairwise_cons] at h
    rw [dupO_cons, Bool.or_eq_false_iff] at hd
    have hne : x.2.1 ≠ o.2.1 := by simpa using hd.1
    rw [putO_cons]
    by_cases hl : LessS o.2.1 x.2.1
    · rw [if_pos hl]
      unfold SortO
      rw [List.pairwise_cons]
      refine ⟨fun y hy => ?_, List.pairwise_cons.2 h⟩
      rcases List.mem_cons.1 hy with rfl | hy
      · exact hl
      · exact lessS_trans _ _ _ hl (h.1 y hy)
    · rw [if_neg hl]
      unfold SortO
      rw [List.pairwise_cons]
      refine ⟨fun y hy => ?_, ih h.2 hd.2⟩
      rcases (putO_mem o l y).1 hy with rfl | hy
      · exact lessS_or _ _ hl (fun e => hne e.symm)
      · exact h.1 y hy

theorem dupO_iff (s : Int × Int) (l : List OpT) : dupO s l = true ↔ ∃ x ∈ l, x.2.1 = s := by
  unfold dupO
  rw [List.any_eq_true]
  simp

/-- Two sorted lists with the same members are one. -/
theorem sortO_ext {l m : List OpT} (hl : SortO l) (hm : SortO m) (h : ∀ x, x ∈ l ↔ x ∈ m) : l = m := by
  induction l generalizing m with
  | nil =>
    cases m with
    | nil => rfl
    | cons y m => exact absurd ((h y).2 (List.mem_cons_self ..)) (by simp)
  | cons x l ih =>
    cases m with
    | nil => exact absurd ((h x).1 (List.mem_cons_self ..)) (by simp)
    | cons y m =>
      unfold SortO at hl hm
      rw [List.pairwise_cons] at hl hm
      have e : x = y := by
        rcases List.mem_cons.1 ((h x).1 (List.mem_cons_self ..)) with e | hx
        · exact e
        · rcases List.mem_cons.1 ((h y).2 (List.mem_cons_self ..)) with e | hy
          · exact e.symm
          · exact absurd (hl.1 y hy) (lessS_not _ _ (hm.1 x hx))
      subst e
      congr 1
      refine ih hl.2 hm.2 (fun z => ⟨fun hz => ?_, fun hz => ?_⟩)
      · rcases List.mem_cons.1 ((h z).1 (List.mem_cons_of_mem _ hz)) with e | h
        · subst e; exact absurd (hl.1 z hz) (lessS_self _)
        · exact h
      · rcases List.mem_cons.1 ((h z).2 (List.mem_cons_of_mem _ hz)) with e | h
        · subst e; exact absurd (hm.1 z hz) (lessS_self _)
        · exact h

/-- A tree behind operations that come one behind the other. -/
def playP (M : OpT → Bool) (t : TreeT) (l : List OpT) : TreeT := l.foldl (fun t o => (applyP M t o).1) t

theorem playP_snoc (M : OpT → Bool) (t : TreeT) (l : List OpT) (o : OpT) : playP M t (l ++ [o]) = (applyP M (playP M t l) o).1 := by
  unfold playP; rw [List.foldl_append]; rfl

/-- With fewer than 512 operations nothing is full: what an operation that comes does. -/
theorem applyP_few (M : OpT → Bool) (t : TreeT) (o : OpT) (h : t.1.length + t.2.1.length < 512) :
    applyP M t o = if M o = false ∨ ¬ LessS t.2.2 o.2.1 then (t, 1) else if dupO o.2.1 t.2.1 = true then (t, 0) else ((t.1, putO o t.2.1, t.2.2), 0) := by
  unfold applyP
  have hc := creO_le t.2.1
  by_cases h1 : M o = false ∨ ¬ LessS t.2.2 o.2.1
  · rw [if_pos h1, if_pos h1]
  · rw [if_neg h1, if_neg h1]
    by_cases h2 : dupO o.2.1 t.2.1 = true
    · rw [if_pos h2, if_pos h2]
    · rw [if_neg h2, if_neg h2, if_neg (by omega)]

/-- What stands in a tree that began empty: sorted, each one of those that came, and may be. -/
structure Stands (M : OpT → Bool) (fx : List NodeT) (s : Int × Int) (l : List OpT) (t : TreeT) : Prop where
  fx : t.1 = fx
  base : t.2.2 = s
  sort : SortO t.2.1
  mem : ∀ x ∈ t.2.1, x ∈ l ∧ M x = true ∧ LessS s x.2.1
  all : ∀ x ∈ l, M x = true → LessS s x.2.1 → ∃ y ∈ t.2.1, y.2.1 = x.2.1
  len : t.2.1.length ≤ l.length

theorem stands_nil (M : OpT → Bool) (fx : List NodeT) (s : Int × Int) : Stands M fx s [] (fx, [], s) :=
  ⟨rfl, rfl, List.Pairwise.nil, fun _ hx => absurd hx (List.not_mem_nil), fun _ hx => absurd hx (List.not_mem_nil), Nat.le_refl _⟩

theorem stands_more {M : OpT → Bool} {fx : List NodeT} {s : Int × Int} {l : List OpT} {t : TreeT} (h : Stands M fx s l t) (o : OpT) (hn : fx.length + l.length < 512) : Stands M fx s (l ++ [o]) (applyP M t o).1 := by
  rw [applyP_few M t o (by have a := h.len; rw [h.fx]; omega)]
  have hsame : (M o = false ∨ ¬ LessS s o.2.1 ∨ dupO o.2.1 t.2.1 = true) → Stands M fx s (l ++ [o]) t := fun hh =>
    ⟨h.fx, h.base, h.sort, fun x hx => ⟨List.mem_append_left _ (h.mem x hx).1, (h.mem x hx).2⟩, fun x hx h1 h2 => by
      rcases List.mem_append.1 hx with hx | hx
      · exact h.all x hx h1 h2
      · rw [List.mem_singleton] at hx
        subst hx
        rcases hh with hh | hh | hh
        · rw [h1] at hh; cases hh
        · exact absurd h2 hh
        · obtain ⟨y, hy, e⟩ := (dupO_iff _ _).1 hh
          exact ⟨y, hy, e⟩, by have := h.len; rw [List.length_append]; omega⟩
  rw [h.base]
  by_cases h1 : M o = false ∨ ¬ LessS s o.2.1
  · rw [if_pos h1]
    exact hsame (h1.elim .inl (fun h => .inr (.inl h)))
  · rw [if_neg h1]
    by_cases h2 : dupO o.2.1 t.2.1 = true
    · rw [if_pos h2]; exact hsame (.inr (.inr h2))
    · rw [if_neg h2]
      have hM : M o = true := by
        cases e : M o with
        | true => rfl
        | false => exact absurd (.inl e) h1
      have hL : LessS s o.2.1 := by
        by_cases e : LessS s o.2.1
        · exact e
        · exact absurd (.inr e) h1
      refine ⟨h.fx, rfl, putO_sort o _ h.sort (by simpa using h2), fun x hx => ?_, fun x hx h3 h4 => ?_, ?_⟩
      · rcases (putO_mem o _ x).1 hx with rfl | hx
        · exact ⟨List.mem_append_right _ (List.mem_singleton.2 rfl), hM, hL⟩
        · exact ⟨List.mem_append_left _ (h.mem x hx).1, (h.mem x hx).2⟩
      · rcases List.mem_append.1 hx with hx | hx
        · obtain ⟨y, hy, e⟩ := h.all x hx h3 h4
          exact ⟨y, (putO_mem o _ y).2 (.inr hy), e⟩
        · rw [List.mem_singleton] at hx
          subst hx
          exact ⟨x, (putO_mem x _ x).2 (.inl rfl), rfl⟩
      · have a := h.len
        have hp : (putO o t.2.1).length = t.2.1.length + 1 := by
          unfold putO
          have := posO_le o.2.1 t.2.1
          rw [List.length_append, List.length_cons, List.length_take, List.length_drop]
          omega
        show (putO o t.2.1).length ≤ _
        rw [hp, List.length_append]
        show _ ≤ l.length + 1
        omega

theorem stands_go {M : OpT → Bool} {fx : List NodeT} {s : Int × Int} (l : List OpT) : ∀ (d : List OpT) (t : TreeT), Stands M fx s d t → fx.length + (d ++ l).length ≤ 512 → Stands M fx s (d ++ l) (playP M t l) := by
  induction l with
  | nil => intro d t h _; rw [List.append_nil]; exact h
  | cons o l ih =>
    intro d t h hn
    rw [List.length_append, List.length_cons] at hn
    have h1 := stands_more h o (by omega)
    have h2 := ih (d ++ [o]) _ h1 (by rw [List.length_append, List.length_append]; show _ + (_ + 1 + _) ≤ _; omega)
    rw [List.append_assoc] at h2
    exact h2

theorem stands_play (M : OpT → Bool) (fx : List NodeT) (s : Int × Int) (l : List OpT) (hn : fx.length + l.length ≤ 512) : Stands M fx s l (playP M (fx, [], s) l) := by
  have := stands_go l [] (fx, [], s) (stands_nil M fx s) (by simpa using hn)
  simpa using this

/-- THE ORDER IN WHICH OPERATIONS COME DOES NOT MATTER, if no two with one stamp differ. -/
theorem play_order {M : OpT → Bool} {fx : List NodeT} {s : Int × Int} {l m : List OpT} {t u : TreeT} (ht : Stands M fx s l t) (hu : Stands M fx s m u) (hlm : ∀ x, x ∈ l ↔ x ∈ m) (hone : ∀ x ∈ l, ∀ y ∈ l, x.2.1 = y.2.1 → x = y) : t = u := by
  have key : ∀ x, x ∈ t.2.1 ↔ x ∈ u.2.1 := fun x => by
    constructor
    · intro hx
      obtain ⟨h1, h2, h3⟩ := ht.mem x hx
      obtain ⟨y, hy, e⟩ := hu.all x ((hlm x).1 h1) h2 h3
      have := hone y ((hlm y).2 (hu.mem y hy).1) x h1 e
      rw [← this]; exact hy
    · intro hx
      obtain ⟨h1, h2, h3⟩ := hu.mem x hx
      obtain ⟨y, hy, e⟩ := ht.all x ((hlm x).2 h1) h2 h3
      have := hone y (ht.mem y hy).1 x ((hlm x).2 h1) e
      rw [← this]; exact hy
  have e := sortO_ext ht.sort hu.sort key
  obtain ⟨a, b, c⟩ := t
  obtain ⟨a', b', c'⟩ := u
  have h1 : a = fx := ht.fx
  have h2 : a' = fx := hu.fx
  have h3 : c = s := ht.base
  have h4 : c' = s := hu.base
  have e' : b = b' := e
  rw [h1, h2, h3, h4, e']

end Go.Proofs.YtebnmghjdoblaaaGreatDoor

/- Layer 11 on plain data: what is for good; no ring. -/
namespace Go.Proofs.YtebnmghjdoblaaaGreatDoor
open Go.RowKit
set_option linter.unusedSimpArgs false

/-- No ring: each node's parent is the root, the trash, or a node, and stands nearer to them. -/
structure Rooted (l : List NodeT) : Prop where
  sort : SortN l
  may : ∀ x ∈ l, MayS x.1
  par : ∀ x ∈ l, ParS x.2.1 ∧ (x.2.1.1 = 0 ∨ ∃ y ∈ l, y.1 = x.2.1)
  rank : ∃ rk : Int × Int → Nat, ∀ x ∈ l, ∀ y ∈ l, y.1 = x.2.1 → rk y.1 < rk x.1

theorem rooted_nil : Rooted [] := ⟨List.Pairwise.nil, fun _ h => absurd h List.not_mem_nil, fun _ h => absurd h List.not_mem_nil, ⟨fun _ => 0, fun _ h => absurd h List.not_mem_nil⟩⟩

theorem nL_mem (l : List NodeT) (j : Nat) (h : j < l.length) : nL l j ∈ l := by
  unfold nL; rw [List.getD_eq_getElem?_getD, List.getElem?_eq_getElem h]; exact List.getElem_mem h

theorem findI_no {l : List NodeT} {id : Int × Int} (h : findI l id < 0) : ∀ x ∈ l, x.1 ≠ id := by
  intro x hx
  rcases findI_E l id with ⟨_, h2⟩ | ⟨i, h2, _⟩
  · obtain ⟨i, hi, rfl⟩ := List.getElem_of_mem hx
    have := h2 i hi
    unfold nL at this
    rw [List.getD_eq_getElem?_getD, List.getElem?_eq_getElem hi] at this
    exact this
  · omega

theorem findI_is {l : List NodeT} {id : Int × Int} (h : ¬ findI l id < 0) : nL l (findI l id).toNat ∈ l ∧ (nL l (findI l id).toNat).1 = id := by
  rcases findI_lt l id with h2 | ⟨k, h2, h3, h4⟩
  · omega
  · rw [h2, Int.toNat_natCast]; exact ⟨nL_mem l k h3, h4⟩

/-- From a stamp parents lead away without a node's number. -/
def OffN (l : List NodeT) (id : Int × Int) : Nat → Int × Int → Prop
  | 0, p => p ≠ id ∧ ∀ x ∈ l, x.1 ≠ p
  | f + 1, p => p ≠ id ∧ ∃ x ∈ l, x.1 = p ∧ OffN l id f x.2.1

def Off (l : List NodeT) (id p : Int × Int) : Prop := ∃ f, OffN l id f p

theorem off_of {l : List NodeT} {id : Int × Int} : ∀ (f : Nat) (p : Int × Int), underF l id f p = false → Off l id p := by
  intro f
  induction f with
  | zero => intro p h; cases h
  | succ f ih =>
    intro p h
    unfold underF at h
    by_cases e : p = id
    · rw [if_pos e] at h; cases h
    · rw [if_neg e] at h
      by_cases hf : findI l p < 0
      · exact ⟨0, e, findI_no hf⟩
      · rw [if_neg hf] at h
        obtain ⟨h1, h2⟩ := findI_is hf
        obtain ⟨k, hk⟩ := ih _ h
        exact ⟨k + 1, e, _, h1, h2, hk⟩

theorem off_par {l : List NodeT} (hs : SortN l) {id p : Int × Int} (h : Off l id p) {x : NodeT} (hx : x ∈ l) (e : x.1 = p) : Off l id x.2.1 := by
  obtain ⟨f, h⟩ := h
  cases f with
  | zero => exact absurd e (h.2 x hx)
  | succ f =>
    obtain ⟨_, y, hy, ey, h3⟩ := h
    rw [sortN_uniq hs hx hy (e.trans ey.symm)]; exact ⟨f, h3⟩

theorem off_ne {l : List NodeT} {id p : Int × Int} (h : Off l id p) : p ≠ id := by
  obtain ⟨f, h⟩ := h
  cases f with
  | zero => exact h.1
  | succ f => exact h.1

/-- One node with another parent, that is not below it; or another name, another value. -/
theorem rooted_with {l : List NodeT} (h : Rooted l) {x n : NodeT} (hx : x ∈ l) (hn : n.1 = x.1) (hp : ParS n.2.1 ∧ (n.2.1.1 = 0 ∨ ∃ y ∈ l, y.1 = n.2.1)) (ho : n.2.1 = x.2.1 ∨ Off l n.1 n.2.1) : Rooted (withR n l) := by
  obtain ⟨rk, hrk⟩ := h.rank
  refine ⟨withR_sort n l h.sort, fun y hy => ?_, fun y hy => ?_, ?_⟩
  · rcases (withR_mem n l y).1 hy with rfl | ⟨h1, _⟩
    · rw [hn]; exact h.may x hx
    · exact h.may y h1
  · have key : ∀ q : Int × Int, (∃ z ∈ l, z.1 = q) → ∃ z ∈ withR n l, z.1 = q := fun q ⟨z, hz, e⟩ => by
      by_cases e2 : z.1 = n.1
      · exact ⟨n, (withR_mem n l n).2 (.inl rfl), by rw [← e2]; exact e⟩
      · exact ⟨z, (withR_mem n l z).2 (.inr ⟨hz, e2⟩), e⟩
    rcases (withR_mem n l y).1 hy with rfl | ⟨h1, _⟩
    · exact ⟨hp.1, hp.2.imp id (key _)⟩
    · exact ⟨(h.par y h1).1, (h.par y h1).2.imp id (key _)⟩
  · rcases ho with ho | ho
    · refine ⟨rk, fun y hy z hz e => ?_⟩
      have old : ∀ u ∈ withR n l, ∃ v ∈ l, v.1 = u.1 ∧ v.2.1 = u.2.1 := fun u hu => by
        rcases (withR_mem n l u).1 hu with rfl | ⟨h1, _⟩
        · exact ⟨x, hx, hn.symm, ho.symm⟩
        · exact ⟨u, h1, rfl, rfl⟩
      obtain ⟨y', hy', e1, e2⟩ := old y hy
      obtain ⟨z', hz', e3, _⟩ := old z hz
      have := hrk y' hy' z' hz' (by rw [e3, e2]; exact e)
      rw [e3, e1] at this; exact this
    · obtain ⟨g, hg⟩ : ∃ g : Int × Int → Nat, ∀ q, (Off l n.1 q → g q = rk q) ∧ (¬ Off l n.1 q → g q = rk q + (rk n.2.1 + 1)) :=
        ⟨fun q => @ite _ (Off l n.1 q) (Classical.propDecidable _) (rk q) (rk q + (rk n.2.1 + 1)), fun q => ⟨fun h => if_pos h, fun h => if_neg h⟩⟩
      refine ⟨g, fun y hy z hz e => ?_⟩
      have zl : ∃ z' ∈ l, z'.1 = z.1 := by
        rcases (withR_mem n l z).1 hz with rfl | ⟨h1, _⟩
        · exact ⟨x, hx, hn.symm⟩
        · exact ⟨z, h1, rfl⟩
      rcases (withR_mem n l y).1 hy with rfl | ⟨h1, hne⟩
      · rw [e, (hg _).1 ho, (hg y.1).2 (fun h => off_ne h rfl)]
        omega
      · obtain ⟨z', hz', ez⟩ := zl
        have hlt := hrk y h1 z' hz' (by rw [ez]; exact e)
        rw [ez] at hlt
        by_cases hof : Off l n.1 y.1
        · have := off_par h.sort hof h1 rfl
          rw [(hg y.1).1 hof, (hg z.1).1 (by rw [e]; exact this)]
          exact hlt
        · rw [(hg y.1).2 hof]
          by_cases hoz : Off l n.1 z.1
          · rw [(hg z.1).1 hoz]; omega
          · rw [(hg z.1).2 hoz]; omega

/-- A node that was not there. -/
theorem rooted_new {l : List NodeT} (h : Rooted l) {n : NodeT} (hm : MayS n.1) (hno : ∀ x ∈ l, x.1 ≠ n.1) (hp : ParS n.2.1 ∧ (n.2.1.1 = 0 ∨ ∃ y ∈ l, y.1 = n.2.1)) : Rooted (withR n l) := by
  obtain ⟨rk, hrk⟩ := h.rank
  have hmem : ∀ y, y ∈ withR n l ↔ y = n ∨ y ∈ l := fun y => by
    rw [withR_mem]
    exact ⟨fun h => h.imp id (·.1), fun h => h.imp id (fun h => ⟨h, hno y h⟩)⟩
  have hm1 : 1 ≤ n.1.1 := hm.1
  refine ⟨withR_sort n l h.sort, fun y hy => ?_, fun y hy => ?_, ?_⟩
  · rcases (hmem y).1 hy with rfl | h1
    · exact hm
    · exact h.may y h1
  · rcases (hmem y).1 hy with rfl | h1
    · exact ⟨hp.1, hp.2.imp id (fun ⟨z, hz, e⟩ => ⟨z, (hmem z).2 (.inr hz), e⟩)⟩
    · exact ⟨(h.par y h1).1, (h.par y h1).2.imp id (fun ⟨z, hz, e⟩ => ⟨z, (hmem z).2 (.inr hz), e⟩)⟩
  · obtain ⟨g, hg1, hg2⟩ : ∃ g : Int × Int → Nat, g n.1 = rk n.2.1 + 1 ∧ ∀ q, q ≠ n.1 → g q = rk q :=
      ⟨fun q => if q = n.1 then rk n.2.1 + 1 else rk q, if_pos rfl, fun q hq => if_neg hq⟩
    refine ⟨g, fun y hy z hz e => ?_⟩
    have zn : ∀ u ∈ l, u.2.1 ≠ n.1 := fun u hu e2 => by
      rcases (h.par u hu).2 with h0 | ⟨v, hv, ev⟩
      · rw [e2] at h0; omega
      · exact hno v hv (by rw [ev, e2])
    rcases (hmem y).1 hy with rfl | h1
    · have hzne : z.1 ≠ y.1 := fun e2 => by
        rcases hp.2 with h0 | ⟨v, hv, ev⟩
        · rw [← e, e2] at h0; omega
        · exact hno v hv (by rw [ev, ← e, e2])
      rw [hg1, hg2 z.1 hzne, e]; omega
    · have hzne : z.1 ≠ n.1 := fun e2 => zn y h1 (by rw [← e, e2])
      rcases (hmem z).1 hz with rfl | h2
      · exact absurd rfl hzne
      · rw [hg2 z.1 hzne, hg2 y.1 (hno y h1)]
        exact hrk y h1 z h2 e

end Go.Proofs.YtebnmghjdoblaaaGreatDoor

/- Layer 11 on plain data: no ring, whatever is done; parents lead up in fewer steps than there are nodes. -/
namespace Go.Proofs.YtebnmghjdoblaaaGreatDoor
open Go.RowKit
set_option linter.unusedSimpArgs false

theorem thereP_is {l : List NodeT} {p : Int × Int} (h : thereP l p = true) : p.1 = 0 ∨ ∃ y ∈ l, y.1 = p := by
  unfold thereP at h
  by_cases h0 : p.1 = 0
  · exact .inl h0
  · rw [if_neg h0] at h
    have h1 : 0 ≤ findI l p := by simpa using h
    obtain ⟨h2, h3⟩ := findI_is (l := l) (id := p) (by omega)
    exact .inr ⟨_, h2, h3⟩

/-- FROM EACH NODE parents lead to the root, or to the trash: an operation keeps that. -/
theorem rooted_do {l : List NodeT} (h : Rooted l) {o : OpT} (hm : MayO o) : Rooted (doP l o) := by
  obtain ⟨hAt, hNo, hk⟩ := hm
  unfold doP
  simp only [withP_R]
  by_cases k1 : o.1 = 1
  · rw [if_pos k1]
    by_cases hf : 0 ≤ findI l o.2.2.1
    · rw [if_pos hf]; exact h
    · rw [if_neg hf]
      by_cases ht : thereP l (parO o) = true
      · rw [if_pos ht]
        have hp : parO o = o.2.2.2.1 := by unfold parO; rw [if_neg (by omega)]
        have hpar : ParS (parO o) := by
          rw [hp]
          rcases hk with ⟨_, _, h3, _⟩ | ⟨h1, _⟩ | ⟨h1, _⟩ | ⟨h1, _⟩ | ⟨h1, _⟩
          · exact h3
          all_goals omega
        exact rooted_new h hNo (findI_no (l := l) (id := o.2.2.1) (by omega)) ⟨hpar, thereP_is ht⟩
      · rw [if_neg ht]; exact h
  · rw [if_neg k1]
    by_cases hf : findI l o.2.2.1 < 0
    · rw [if_pos hf]; exact h
    · rw [if_neg hf]
      obtain ⟨hx, hid⟩ := findI_is hf
      by_cases k3 : o.1 = 3
      · rw [if_pos k3]
        exact rooted_with h hx rfl (h.par (nL l (findI l o.2.2.1).toNat) hx) (.inl rfl)
      · rw [if_neg k3]
        by_cases k4 : o.1 = 4
        · rw [if_pos k4]
          exact rooted_with h hx rfl (h.par (nL l (findI l o.2.2.1).toNat) hx) (.inl rfl)
        · rw [if_neg k4]
          by_cases ht : thereP l (parO o) = true
          · rw [if_pos ht]
            by_cases hu : underF l o.2.2.1 (l.length + 1) (parO o) = true
            · rw [if_pos hu]; exact h
            · rw [if_neg hu]
              have hpar : ParS (parO o) := by
                unfold parO
                rcases hk with ⟨h1, _⟩ | ⟨h1, h2, _⟩ | ⟨h1, _⟩ | ⟨h1, _⟩ | ⟨h1, _⟩
                · omega
                · rw [if_neg (by omega)]; exact h2
                · omega
                · omega
                · rw [if_pos h1]; exact .inr ⟨rfl, .inr rfl⟩
              refine rooted_with h hx rfl ⟨hpar, thereP_is ht⟩ (.inr ?_)
              show Off l (nL l (findI l o.2.2.1).toNat).1 (parO o)
              rw [hid]
              exact off_of _ _ (by simpa using hu)
          · rw [if_neg ht]; exact h

theorem rooted_nodes {l : List NodeT} (h : Rooted l) (ops : List OpT) (hm : ∀ o ∈ ops, MayO o) : Rooted (nodesP l ops) := by
  unfold nodesP
  induction ops generalizing l with
  | nil => exact h
  | cons o ops ih =>
    rw [List.foldl_cons]
    exact ih (rooted_do h (hm o (List.mem_cons_self ..))) (fun x hx => hm x (List.mem_cons_of_mem _ hx))

/-- As many as fit. -/
theorem pigeon {α : Type} : ∀ (vs l : List α), vs.Nodup → (∀ v ∈ vs, v ∈ l) → vs.length ≤ l.length := by
  intro vs
  induction vs with
  | nil => intro l _ _; exact Nat.zero_le _
  | cons v vs ih =>
    intro l hn hs
    rw [List.nodup_cons] at hn
    obtain ⟨a, b, rfl⟩ := List.append_of_mem (hs v (List.mem_cons_self ..))
    have := ih (a ++ b) hn.2 (fun u hu => by
      have h1 := hs u (List.mem_cons_of_mem _ hu)
      rw [List.mem_append, List.mem_cons] at h1
      rw [List.mem_append]
      rcases h1 with h1 | rfl | h1
      · exact .inl h1
      · exact absurd hu hn.1
      · exact .inr h1)
    rw [List.length_append] at this
    rw [List.length_cons, List.length_append, List.length_cons]
    omega

end Go.Proofs.YtebnmghjdoblaaaGreatDoor

/- Layer 11 on plain data: what it is to do an operation, by look-ups alone. -/
namespace Go.Proofs.YtebnmghjdoblaaaGreatDoor
open Go.RowKit
set_option linter.unusedSimpArgs false

end Go.Proofs.YtebnmghjdoblaaaGreatDoor
