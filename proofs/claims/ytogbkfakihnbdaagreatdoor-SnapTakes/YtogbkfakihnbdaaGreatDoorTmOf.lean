import Derived.Test.YtogbkfakihnbdaaGreatDoorL1
import Derived.Test.YtogbkfakihnbdaaGreatDoorP11
import Derived.Test.YtogbkfakihnbdaaGreatDoorTrOf
/- The code's rise, join (layer 11). -/
namespace Go.Proofs.YtogbkfakihnbdaaGreatDoor
open Go.RowKit
set_option linter.unusedSimpArgs false

/-- Numbers that rise, one behind the other. -/
def RiseN (l : List NodeT) : Prop := ∀ k, 0 < k → k < l.length → LessS (nL l (k - 1)).1 (nL l k).1

set_option maxRecDepth 100000 in
set_option maxHeartbeats 4000000 in
theorem rise_any (l : List NodeT) (a : Option Addr) (n c : Nat) (w : World) (hn : n ≤ 60000) (hI : NodesAt w a n l) (D : Bool) (hD : D = true ↔ RiseN l) :
    Calls Tryz.prog 69 #[.slice a n c] w fun e w' => e = .returned (.bool D) ∧ Below w.heap.size w w' := by
  have HD : Hid (D = true ↔ RiseN l) := hD
  have HI : Hid (NodesAt w a n l) := hI
  have HN : Hid (l.length = n) := hI.1
  clear hI hD
  go_enter Tryz.func69, Tryz.ntmps69
  go_wp2_with fail
  go_loopw [6] (fun i wr => ∃ k : Nat, k ≤ n ∧ i = .int .i64 k ∧ Hid (∀ j, 0 < j → j < k → LessS (nL l (j - 1)).1 (nL l j).1) ∧ Hid (Below w.heap.size w wr)) (fun i _ => n - (intOf i).toNat)
  case atStart => exact ⟨0, by omega, rfl, fun j _ h => absurd h (Nat.not_lt_zero _), Below.refl _ _⟩
  case round =>
    obtain ⟨k, hk, rfl, HL, HB⟩ := hrel
    by_cases hlt : k < n
    · have b0 : (k : Int) < (n : Int) := by omega
      obtain ⟨b, off, rfl, _⟩ := HI.out.2.some (by omega)
      have hat := HI.out.below HB.out
      by_cases hk0 : k = 0
      · have b1 : ¬ ((0 : Int) < (k : Int)) := by omega
        have b1' : ¬ (0 < k) := by omega
        have HL' : Hid (∀ j, 0 < j → j < k + 1 → LessS (nL l (j - 1)).1 (nL l j).1) := fun j h1 h2 => by omega
        clear hk0 hat HL
        go_wp2_with fail
        refine wp_region_noPanic ?_
        refine wp_region_held_drew (S := fun _ => True) (by kernel_rfl) (by first | exact trivial | assumption | exact ⟨by assumption, by assumption⟩) (fun hHeld => ?_)
        refine tk 0 (v := ?_) rfl rfl ?_ ?_
        rotate_left
        · intro w hSw; (try dsimp only at hSw); go_simp; try with_reducible rfl
        try simp only [Act.put, za, zb, zc]
        refine tk 1 (v := ?_) rfl rfl ?_ ?_
        rotate_left
        · intro w hSw; (try dsimp only at hSw); go_simp; try with_reducible rfl
        try simp only [Act.put, za, zb, zc]
        refine tk 2 (v := ?_) rfl rfl ?_ ?_
        rotate_left
        · intro w hSw; (try dsimp only at hSw); go_simp; try with_reducible rfl
        try simp only [Act.put, za, zb, zc]
        refine tn 3 rfl rfl ?_
        try simp only [Act.put, za, zb, zc]
        refine tn 4 rfl rfl ?_
        try simp only [Act.put, za, zb, zc]
        refine tn 5 rfl rfl ?_
        try simp only [Act.put, za, zb, zc]
        refine tn 6 rfl rfl ?_
        try simp only [Act.put, za, zb, zc]
        refine tn 7 rfl rfl ?_
        try simp only [Act.put, za, zb, zc]
        refine tn 8 rfl rfl ?_
        try simp only [Act.put, za, zb, zc]
        refine tn 9 rfl rfl ?_
        try simp only [Act.put, za, zb, zc]
        refine tn 10 rfl rfl ?_
        try simp only [Act.put, za, zb, zc]
        refine tn 11 rfl rfl ?_
        try simp only [Act.put, za, zb, zc]
        refine tn 12 rfl rfl ?_
        try simp only [Act.put, za, zb, zc]
        refine tn 13 rfl rfl ?_
        try simp only [Act.put, za, zb, zc]
        refine tn 14 rfl rfl ?_
        try simp only [Act.put, za, zb, zc]
        refine tn 15 rfl rfl ?_
        try simp only [Act.put, za, zb, zc]
        refine tk 16 (v := ?_) rfl rfl ?_ ?_
        rotate_left
        · intro w hSw; (try dsimp only at hSw); go_simp; try with_reducible rfl
        try simp only [Act.put, za, zb, zc]
        refine wpAnyH_done (by kernel_rfl) (NoPanic.normal ?_) _
        have HB' : Hid (Below w.heap.size w wr.drew) := HB.out.drew
        clear HB
        go_wp2_with fail
        refine ⟨?_, ?_⟩
        · first
          | exact ⟨k + 1, by omega, by go_num, HL', HB'⟩
          | ((repeat apply Exists.intro); refine ⟨?_, rfl⟩; exact ⟨k + 1, by omega, by go_num, HL', HB'⟩)
        · simp [intOf] <;> omega
      · obtain ⟨j, hkj⟩ : ∃ j, k = j + 1 := ⟨k - 1, by omega⟩
        have b1 : (0 : Int) < (k : Int) := by omega
        have b1' : 0 < k := by omega
        have b5 : (j : Int) < (n : Int) := by omega
        have hq0 : IntKind.i64.wrap ((k : Int) - 1) = (j : Int) := by rw [IntKind.wrap_i64]; omega
        obtain ⟨u0, u1, _⟩ := hat.cells j (by omega)
        obtain ⟨v0, v1, _⟩ := hat.cells k hlt
        have HJ : Hid (k - 1 = j) := by show _ = _; omega
        obtain ⟨X, hX⟩ : ∃ X, decide (LessS (nL l j).1 (nL l k).1) = X := ⟨_, rfl⟩
        have HX : Hid (X = true ↔ LessS (nL l j).1 (nL l k).1) := by show _ ↔ _; rw [← hX]; simp
        have CL : Hid (∀ W, _) := fun W => less_any (nL l j).1 (nL l k).1 W
        rw [hX] at CL
        obtain ⟨⟨j1, j2⟩, hj⟩ : ∃ s, s = (nL l j).1 := ⟨_, rfl⟩
        obtain ⟨⟨i1, i2⟩, hi⟩ : ∃ s, s = (nL l k).1 := ⟨_, rfl⟩
        rw [← hj] at u0 u1 CL
        rw [← hi] at v0 v1 CL
        simp only [stampV] at CL
        have hS0 : wr.cell? ⟨b, off + j * 6, none⟩ = some (.int .i64 j1) ∧ wr.cell? ⟨b, off + j * 6 + 1, none⟩ = some (.int .i64 j2) ∧ wr.cell? ⟨b, off + k * 6, none⟩ = some (.int .i64 i1) ∧ wr.cell? ⟨b, off + k * 6 + 1, none⟩ = some (.int .i64 i2) := ⟨u0, u1, v0, v1⟩
        clear hj hi hat hkj hk0 hX
        go_wp2_with fail
        refine wp_region_noPanic ?_
        refine wp_region_held_drew (S := fun W => W.cell? ⟨b, off + j * 6, none⟩ = some (.int .i64 j1) ∧ W.cell? ⟨b, off + j * 6 + 1, none⟩ = some (.int .i64 j2) ∧ W.cell? ⟨b, off + k * 6, none⟩ = some (.int .i64 i1) ∧ W.cell? ⟨b, off + k * 6 + 1, none⟩ = some (.int .i64 i2)) (by kernel_rfl) (by first | exact trivial | assumption | exact ⟨by assumption, by assumption⟩) (fun hHeld => ?_)
        refine tk 0 (v := ?_) rfl rfl ?_ ?_
        rotate_left
        · intro w hSw; (try dsimp only at hSw); go_simp; try with_reducible rfl
        try simp only [Act.put, za, zb, zc]
        refine tk 1 (v := ?_) rfl rfl ?_ ?_
        rotate_left
        · intro w hSw; (try dsimp only at hSw); go_simp; try with_reducible rfl
        try simp only [Act.put, za, zb, zc]
        refine tk 2 (v := ?_) rfl rfl ?_ ?_
        rotate_left
        · intro w hSw; (try dsimp only at hSw); go_simp; try with_reducible rfl
        try simp only [Act.put, za, zb, zc]
        refine tk 3 (v := ?_) rfl rfl ?_ ?_
        rotate_left
        · intro w hSw; (try dsimp only at hSw); go_simp; try with_reducible rfl
        try simp only [Act.put, za, zb, zc]
        refine tk 4 (v := ?_) rfl rfl ?_ ?_
        rotate_left
        · intro w hSw; (try dsimp only at hSw); go_simp; try with_reducible rfl
        try simp only [Act.put, za, zb, zc]
        refine tk 5 (v := ?_) rfl rfl ?_ ?_
        rotate_left
        · intro w hSw; (try dsimp only at hSw); go_simp; try with_reducible rfl
        try simp only [Act.put, za, zb, zc]
        refine tk 6 (v := ?_) rfl rfl ?_ ?_
        rotate_left
        · intro w hSw; (try dsimp only at hSw); go_simp; try with_reducible rfl
        try simp only [Act.put, za, zb, zc]
        refine tk 7 (v := ?_) rfl rfl ?_ ?_
        rotate_left
        · intro w hSw; (try dsimp only at hSw); go_simp; try with_reducible rfl
        try simp only [Act.put, za, zb, zc]
        refine tk 8 (v := ?_) rfl rfl ?_ ?_
        rotate_left
        · intro w hSw; (try dsimp only at hSw); go_simp; try with_reducible rfl
        try simp only [Act.put, za, zb, zc]
        refine tk 9 (v := ?_) rfl rfl ?_ ?_
        rotate_left
        · intro w hSw; (try dsimp only at hSw); go_simp; try with_reducible rfl
        try simp only [Act.put, za, zb, zc]
        refine tk 10 (v := ?_) rfl rfl ?_ ?_
        rotate_left
        · intro w hSw; (try dsimp only at hSw); go_simp; try with_reducible rfl
        try simp only [Act.put, za, zb, zc]
        refine tk 11 (v := ?_) rfl rfl ?_ ?_
        rotate_left
        · intro w hSw; (try dsimp only at hSw); go_simp; try with_reducible rfl
        try simp only [Act.put, za, zb, zc]
        refine tk 12 (v := ?_) rfl rfl ?_ ?_
        rotate_left
        · intro w hSw; (try dsimp only at hSw); go_simp; try with_reducible rfl
        try simp only [Act.put, za, zb, zc]
        refine tk 13 (v := ?_) rfl rfl ?_ ?_
        rotate_left
        · intro w hSw; (try dsimp only at hSw); go_simp; try with_reducible rfl
        try simp only [Act.put, za, zb, zc]
        refine wpAnyH_ready (rs := [14]) (by kernel_rfl) (by simp) ?_
        refine AllReadyH.cons rfl (fun K hK => ?_) AllReadyH.nil
        go_simp
        refine (CL.out _).mono ?_
        rintro e w2 ⟨rfl, hb2⟩
        have hb3 : Below wr.heap.size wr w2 := below_step (Below.refl _ _).drew (Nat.le_refl _) hb2
        refine hK.out _ _ ⟨by rw [hb3.cell (World.block_lt_of_cell? wr _ u0)]; exact u0, by rw [hb3.cell (World.block_lt_of_cell? wr _ u1)]; exact u1, by rw [hb3.cell (World.block_lt_of_cell? wr _ v0)]; exact v0, by rw [hb3.cell (World.block_lt_of_cell? wr _ v1)]; exact v1⟩ (fun hHeld => ?_)
        clear hK K
        have HB2 : Hid (Below w.heap.size w w2) := below_step HB.out (Nat.le_refl _) hb3
        cases X with
        | true =>
          refine tk 15 (v := ?_) rfl rfl ?_ ?_
          rotate_left
          · intro w hSw; (try dsimp only at hSw); go_simp; try with_reducible rfl
          try simp only [Act.put, za, zb, zc]
          refine tk 16 (v := ?_) rfl rfl ?_ ?_
          rotate_left
          · intro w hSw; (try dsimp only at hSw); go_simp; try with_reducible rfl
          try simp only [Act.put, za, zb, zc]
          refine wpAnyH_done (by kernel_rfl) (NoPanic.normal ?_) _
          have hls := HX.out.1 (by first | rfl | trivial)
          have HL' : Hid (∀ i, 0 < i → i < k + 1 → LessS (nL l (i - 1)).1 (nL l i).1) := fun i h1 h2 => by
            by_cases e : i = k
            · rw [e, HJ.out]; exact hls
            · exact HL.out i h1 (by omega)
          clear CL hb2 hb3 u0 u1 v0 v1 hS0 hq0 b5 HB hls HL HX HJ
          go_wp2_with fail
          refine ⟨?_, ?_⟩
          · first
            | exact ⟨k + 1, by omega, by go_num, HL', HB2⟩
            | ((repeat apply Exists.intro); refine ⟨?_, rfl⟩; exact ⟨k + 1, by omega, by go_num, HL', HB2⟩)
          · simp [intOf] <;> omega
        | false =>
          refine tk 15 (v := ?_) rfl rfl ?_ ?_
          rotate_left
          · intro w hSw; (try dsimp only at hSw); go_simp; try with_reducible rfl
          try simp only [Act.put, za, zb, zc]
          refine tk 16 (v := ?_) rfl rfl ?_ ?_
          rotate_left
          · intro w hSw; (try dsimp only at hSw); go_simp; try with_reducible rfl
          try simp only [Act.put, za, zb, zc]
          refine wpAnyH_done (by kernel_rfl) (NoPanic.normal ?_) _
          obtain rfl : D = false := by
            cases D with
            | false => rfl
            | true =>
              have h := (HD.out.1 rfl) k b1' (by rw [HN.out]; exact hlt)
              rw [HJ.out] at h
              have := HX.out.2 h
              first | cases this | exact absurd this (by simp)
          clear CL hb2 hb3 u0 u1 v0 v1 hS0 hq0 b5 HB HL HX HJ
          go_wp2_with fail
          go_ret
          exact ⟨rfl, HB2.out⟩
    · obtain rfl : k = n := by omega
      have b0 : ¬ ((k : Int) < (k : Int)) := by omega
      obtain rfl : D = true := HD.out.2 (fun j h1 h2 => HL.out j h1 (by rw [HN.out] at h2; exact h2))
      go_wp2_with fail
      go_ret
      exact ⟨rfl, HB.out⟩

theorem rise_sort {l : List NodeT} (h : RiseN l) : SortN l := by
  have e : ∀ i (hi : i < l.length), nL l i = l[i] := fun i hi => by unfold nL; rw [List.getD_eq_getElem?_getD, List.getElem?_eq_getElem hi]; rfl
  unfold SortN
  rw [List.pairwise_iff_getElem]
  have key : ∀ d i (hi : i + d + 1 < l.length), LessS (nL l i).1 (nL l (i + d + 1)).1 := by
    intro d
    induction d with
    | zero => intro i hi; have := h (i + 1) (by omega) (by omega); rw [show i + 1 - 1 = i by omega] at this; exact this
    | succ d ih =>
      intro i hi
      have h1 := ih i (by omega)
      have h2 := h (i + (d + 1) + 1) (by omega) hi
      rw [show i + (d + 1) + 1 - 1 = i + d + 1 by omega] at h2
      exact lessS_trans _ _ _ h1 h2
  intro i j hi hj hij
  have := key (j - i - 1) i (by omega)
  rw [show i + (j - i - 1) + 1 = j by omega, e i hi, e j hj] at this
  exact this

/-- What it is to put an operation among others, if none has its stamp. -/
def joinP (M : OpT → Bool) (t : TreeT) (o : OpT) : TreeT × Int := if dupO o.2.1 t.2.1 = true then (t, 1) else applyP M t o

set_option maxRecDepth 100000 in
set_option maxHeartbeats 4000000 in
theorem join_any (M : OpT → Bool) (hM : ∀ o, M o = true ↔ MayO o) (g f m : Nat) (r : Option Nat) (T : TreeT) (o : OpT) (w : World) (h : TreeIn w g f m r T) (hG : Glob8 w) (hn : T.1.length + T.2.1.length ≤ 50000) (h7 : o.2.2.2.2.1.size ≤ 1048576) (h8 : o.2.2.2.2.2.size ≤ 9223372036854775807) :
    Calls Tryz.prog 56 #[.pointer (some ⟨g, 0, none⟩), .agg (opA o)] w fun e w' => e = .returned (.int .i64 (joinP M T o).2) ∧ ∃ r', TreeIn w' g f m r' (joinP M T o).1 ∧ KeptF (tfoot g f m r) w w' ∧ Nx w r r' := by
  have HT : Hid (TreeIn w g f m r T) := h
  have HG : Hid (Glob8 w) := hG
  have CP : Hid (∀ W, TreeIn W g f m r T → _) := fun W hW => place_any g f m r T o.2.1 W hW (by omega)
  have CA : Hid (∀ W, TreeIn W g f m r T → Glob8 W → _) := fun W hW hGW => apply_any M hM g f m r T o W hW hGW hn h7 h8
  obtain ⟨JT, hJT⟩ : ∃ JT, joinP M T o = JT := ⟨_, rfl⟩
  have HJ : Hid (JT = if dupO o.2.1 T.2.1 = true then (T, 1) else applyP M T o) := by show _ = _; rw [← hJT]; rfl
  rw [hJT]
  obtain ⟨k0, ⟨k1, k2⟩, ⟨k3, k4⟩, ⟨k5, k6⟩, s7, s8⟩ := o
  simp only [opA, stampV] at CP CA HJ ⊢
  obtain ⟨du, hdu⟩ : ∃ du, dupO (k1, k2) T.2.1 = du := ⟨_, rfl⟩
  rw [hdu] at CP HJ
  clear h hG hJT hdu
  go_enter Tryz.func56, Tryz.ntmps56
  go_wp2_with fail
  obtain ⟨W0, hW0⟩ : ∃ W0, w.alloc (.cells #[.int .i64 k0, .int .i64 k1, .int .i64 k2, .int .i64 k3, .int .i64 k4, .int .i64 k5, .int .i64 k6, .string s7, .string s8] 37) = W0 := ⟨_, rfl⟩
  obtain ⟨ho, hho⟩ : ∃ ho, w.heap.size = ho := ⟨_, rfl⟩
  have HB0 : Hid (Below w.heap.size w W0) := by show Below _ _ _; rw [← hW0]; exact below_new _ _
  have HK0 : Hid (Blk W0 37 ho #[.int .i64 k0, .int .i64 k1, .int .i64 k2, .int .i64 k3, .int .i64 k4, .int .i64 k5, .int .i64 k6, .string s7, .string s8]) := by show Blk _ _ _ _; rw [← hW0, ← hho]; exact Blk.new _ _ _
  have CPx : Hid (Calls _ _ _ _ _) := CP.out W0 (HT.out.on HB0.out)
  rw [hW0, hho]
  clear hW0 hho CP
  refine CPx.out.mono ?_
  rintro e w1 ⟨rfl, hb1⟩
  have HB1 : Hid (Below w.heap.size w w1) := below_step HB0.out (Nat.le_refl _) hb1
  have HK1 : Hid (Blk w1 37 ho #[.int .i64 k0, .int .i64 k1, .int .i64 k2, .int .i64 k3, .int .i64 k4, .int .i64 k5, .int .i64 k6, .string s7, .string s8]) := HK0.out.on hb1
  clear CPx hb1 HB0 HK0
  cases du with
  | true =>
    have hJ : JT = (T, 1) := by have h := HJ.out; simpa using h
    subst hJ
    clear CA HJ
    go_wp2_with fail
    go_ret
    exact ⟨rfl, r, HT.out.on HB1.out, KeptF.ofBelow _ HB1.out, Nx.refl _ _⟩
  | false =>
    have hJ : JT = applyP M T (k0, (k1, k2), (k3, k4), (k5, k6), s7, s8) := by have h := HJ.out; simpa using h
    have CAx : Hid (Calls _ _ _ _ _) := CA.out w1 (HT.out.on HB1.out) (HG.out.below HB1.out)
    rw [← hJ] at CAx
    have e0 : w1.cell? ⟨ho, 0, none⟩ = some _ := HK1.out.cell 0
    have e1 : w1.cell? ⟨ho, 1, none⟩ = some _ := HK1.out.cell 1
    have e2 : w1.cell? ⟨ho, 2, none⟩ = some _ := HK1.out.cell 2
    have e3 : w1.cell? ⟨ho, 3, none⟩ = some _ := HK1.out.cell 3
    have e4 : w1.cell? ⟨ho, 4, none⟩ = some _ := HK1.out.cell 4
    have e5 : w1.cell? ⟨ho, 5, none⟩ = some _ := HK1.out.cell 5
    have e6 : w1.cell? ⟨ho, 6, none⟩ = some _ := HK1.out.cell 6
    have e7 : w1.cell? ⟨ho, 7, none⟩ = some _ := HK1.out.cell 7
    have e8 : w1.cell? ⟨ho, 8, none⟩ = some _ := HK1.out.cell 8
    clear CA HJ hJ
    go_wp2_with fail
    refine CAx.out.mono ?_
    rintro e w2 ⟨rfl, r', hT2, hK2, hN2⟩
    have HR : Hid (∃ r', TreeIn w2 g f m r' JT.1 ∧ KeptF (tfoot g f m r) w w2 ∧ Nx w r r') := ⟨r', hT2, (KeptF.ofBelow _ HB1.out).trans hK2 (fun _ _ t => t), (Nx.refl _ _).trans HB1.out.size hN2⟩
    clear CAx hT2 hK2 hN2 e0 e1 e2 e3 e4 e5 e6 e7 e8
    go_wp2_with fail
    go_ret
    exact ⟨rfl, HR.out⟩

/-- The document's way to put operations among others, by joinP. -/
theorem ofF_join (M : OpT → Bool) (o : OpT) (l : List OpT) (t : TreeT) : ofF M (o :: l) t = if (joinP M t o).2 ≠ 0 then (emptyT, (joinP M t o).2) else ofF M l (joinP M t o).1 := by
  show (if (applyP M t o).2 ≠ 0 then (emptyT, (applyP M t o).2) else if (applyP M t o).1.2.1.length = t.2.1.length then (emptyT, 1) else ofF M l (applyP M t o).1) = _
  unfold joinP
  by_cases hd : dupO o.2.1 t.2.1 = true
  · rw [if_pos hd]
    have ha : applyP M t o = (t, 1) ∨ applyP M t o = (t, 0) := by
      unfold applyP
      by_cases h1 : M o = false ∨ ¬ LessS t.2.2 o.2.1
      · rw [if_pos h1]; exact .inl rfl
      · rw [if_neg h1, if_pos hd]; exact .inr rfl
    rcases ha with ha | ha
    · rw [ha]; rfl
    · rw [ha]; simp
  · rw [if_neg hd]
    by_cases h0 : (applyP M t o).2 ≠ 0
    · rw [if_pos h0, if_pos h0]
    · rw [if_neg h0, if_neg h0, if_neg (fun hl => ?_)]
      revert h0 hl
      unfold applyP
      by_cases h1 : M o = false ∨ ¬ LessS t.2.2 o.2.1
      · rw [if_pos h1]; intro h0 _; exact h0 (show (1 : Int) ≠ 0 by decide)
      · rw [if_neg h1, if_neg hd]
        by_cases h3 : 512 ≤ t.2.1.length ∨ (o.1 = 1 ∧ 512 ≤ t.1.length + creO t.2.1)
        · rw [if_pos h3]; intro h0 _; exact h0 (show (2 : Int) ≠ 0 by decide)
        · rw [if_neg h3]
          intro _ hl
          have : (putO o t.2.1).length = t.2.1.length := hl
          rw [putO_lenT] at this
          omega
end Go.Proofs.YtogbkfakihnbdaaGreatDoor
