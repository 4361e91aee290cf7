/- The walk of ViewPaths. -/
import Derived.Test.YtebnmghjdoblaaaGreatDoorVG
import Derived.Test.YtebnmghjdoblaaaGreatDoorVI
namespace Go.Proofs.YtebnmghjdoblaaaGreatDoor
open Go.RowKit
set_option linter.unusedSimpArgs false

theorem pathE_ex (R : List LineT) (id : Int × Int) : ∃ S E, PathE R id S E := by
  by_cases h : ∃ i, i < R.length ∧ (lL R i).2.1 = id
  · obtain ⟨i, hi, e⟩ := h
    have : ∃ i, (i < R.length ∧ (lL R i).2.1 = id) ∧ ∀ j, j < i → ¬ (j < R.length ∧ (lL R j).2.1 = id) := by
      induction i using Nat.strongRecOn with
      | ind i ih =>
        by_cases hx : ∃ j, j < i ∧ (lL R j).2.1 = id
        · obtain ⟨j, hj, ej⟩ := hx
          exact ih j hj (by omega) ej
        · exact ⟨i, ⟨hi, e⟩, fun j hj hh => hx ⟨j, hj, hh.2⟩⟩
    obtain ⟨k, ⟨hk, ek⟩, hno⟩ := this
    exact ⟨_, _, .inl ⟨k, hk, ek, fun j hj e2 => hno j hj ⟨by omega, e2⟩, rfl, rfl⟩⟩
  · exact ⟨_, _, .inr ⟨fun j hj e => h ⟨j, hj, e⟩, rfl, rfl⟩⟩

theorem findV_ex (R : List LineT) (p : ByteArray) : ∃ id E, FindV R p id E := by
  by_cases h : ∃ i, i < R.length ∧ pathB R i = p
  · obtain ⟨i, hi, e⟩ := h
    have : ∃ i, (i < R.length ∧ pathB R i = p) ∧ ∀ j, j < i → ¬ (j < R.length ∧ pathB R j = p) := by
      induction i using Nat.strongRecOn with
      | ind i ih =>
        by_cases hx : ∃ j, j < i ∧ pathB R j = p
        · obtain ⟨j, hj, ej⟩ := hx
          exact ih j hj (by omega) ej
        · exact ⟨i, ⟨hi, e⟩, fun j hj hh => hx ⟨j, hj, hh.2⟩⟩
    obtain ⟨k, ⟨hk, ek⟩, hno⟩ := this
    exact ⟨_, _, .inl ⟨k, hk, ek, fun j hj e2 => hno j hj ⟨by omega, e2⟩, rfl, rfl⟩⟩
  · exact ⟨_, _, .inr ⟨fun j hj e => h ⟨j, hj, e⟩, rfl, rfl⟩⟩


set_option maxRecDepth 100000 in
set_option maxHeartbeats 8000000 in
theorem viewPaths_walk (a : Option Addr) (l : List OpT) (n c : Nat) (x y : Int) (p : ByteArray) (w : World) (hm : n ≤ maxLen) (hI : OpsAt w a n l) (hz : ∀ q ∈ l, OpOk q) (hG : Glob8 w) (hM : MaxL w) :
    Calls Tryz.prog 4 #[.slice a n c, .agg #[.int .i64 x, .int .i64 y], .string p] w fun e w' => e = .returned (.bool true) ∧ Below w.heap.size w w' := by
  obtain ⟨w0, hw0⟩ : ∃ w0, w.alloc (.cells #[.int .i64 x, .int .i64 y] 36) = w0 := ⟨_, rfl⟩
  obtain ⟨g, hg⟩ : ∃ g, w.heap.size = g := ⟨_, rfl⟩
  have hb0 : Below w.heap.size w w0 := by rw [← hw0]; exact below_new _ _
  have HK : Hid (Blk w0 36 g #[.int .i64 x, .int .i64 y]) := by show Blk _ _ _ _; rw [← hw0, ← hg]; exact Blk.new _ _ _
  have HW0 : Hid (w.alloc (.cells #[.int .i64 x, .int .i64 y] 36) = w0) := hw0
  have HGg : Hid (w.heap.size = g) := hg
  have CW : Hid (∀ W, Below w.heap.size w W → Calls Tryz.prog 11 #[] W fun e w' => e = .returned (.bool true) ∧ Below W.heap.size W w') := fun W hW => awake12_on w W hG hM hW
  have HG : Hid (Glob8 w) := hG
  have HM : Hid (MaxL w) := hM
  have HB0 : Hid (Below w.heap.size w w0) := hb0
  have CM : Hid (Calls _ _ _ _ _) := made_any a l n c w0 hm (hI.below hb0) hz
  have hmn : n ≤ 9223372036854775807 := hm
  clear hG hM hI hz hm hw0 hg hb0
  go_enter Tryz.func4, Tryz.ntmps4
  go_wp2_with fail
  rw [HW0.out, HGg.out]
  refine CM.out.mono ?_
  rintro e w1 ⟨hMO, hb1⟩
  have HK1 : Hid (Blk w1 36 g #[.int .i64 x, .int .i64 y]) := HK.out.on hb1
  have HB1 : Hid (Below w.heap.size w w1) := below_step HB0.out (Nat.le_refl _) hb1
  clear hb1 CM HK HW0 HGg HB0
  rcases hMO with rfl | ⟨v, NN, rfl, hMay, hNl, hNd, hNV⟩
  · have HBz := HB1
    go_wp2_with fail
    refine (CW.out _ HBz.out).mono ?_
    rintro e w99 ⟨rfl, hb99⟩
    have hB99 := below_step HBz.out (Nat.le_refl _) hb99
    clear CW hb99
    go_wp2_with fail
    go_ret
    exact ⟨rfl, hB99⟩
  · obtain ⟨na, nc, rfl, hNN⟩ := hNV
    by_cases hp : p.size ≤ 512
    · have g0 : decide ((512 : Int) < (p.size : Int)) = false := by simp; omega
      have HNN : Hid (NodesAt w1 na NN.length NN) := hNN
      have hzN : ∀ k, k < NN.length → (nL NN k).2.2.1.size ≤ 65536 ∧ (nL NN k).2.2.2.size ≤ maxLen := fun k hk => by
        rw [nL_getE NN k hk]
        obtain ⟨_, h2, h3⟩ := hNd _ (List.getElem_mem hk)
        exact ⟨by omega, Nat.le_trans h2 (by decide)⟩
      have HDN : Hid (true = true ↔ MayV NN) := ⟨fun _ => hMay, fun _ => rfl⟩
      have hRl : (linesP NN).length ≤ 90 := Nat.le_trans (linesP_len hMay) (by omega)
      have hRz : ∀ j, j < (linesP NN).length → (lL (linesP NN) j).2.2.1.size ≤ 1048576 := fun j hj => Nat.le_trans (lines_size (M := 65536) (fun k hk => (hzN k hk).1) _ (lL_mem _ j hj)) (by omega)
      have CLR : ∀ W, Below w1.heap.size w1 W → Calls Tryz.prog 13 #[.slice na NN.length nc] W fun e w' => ∃ v, e = .returned (.tuple #[v, .int .i64 (if true = true then 0 else 1)]) ∧ OwnL w' W.heap.size v (if true = true then linesP NN else []) ∧ Below W.heap.size W w' := fun W hW => rlinesP_any NN na NN.length nc W true HDN.out (by omega) hzN (HNN.out.below hW)
      obtain ⟨S, E, hPE⟩ := pathE_ex (linesP NN) (x, y)
      obtain ⟨⟨x2, y2⟩, E2, hFE⟩ : ∃ id E, if p.size = 0 then (id = ((0, 0) : Int × Int) ∧ E = (0 : Int)) else FindV (linesP NN) p id E := by
        by_cases h0 : p.size = 0
        · exact ⟨(0, 0), 0, by rw [if_pos h0]; exact ⟨rfl, rfl⟩⟩
        · obtain ⟨id, E, h⟩ := findV_ex (linesP NN) p
          exact ⟨id, E, by rw [if_neg h0]; exact h⟩
      have C1 : Hid (∀ W, Below w1.heap.size w1 W → Calls Tryz.prog 17 #[.slice na NN.length nc, .agg #[.int .i64 x, .int .i64 y]] W fun e w' => e = .returned (.tuple #[.string S, .int .i64 E]) ∧ Below W.heap.size W w') := fun W hW => pathC_any NN na NN.length nc x y W (by omega) hzN (HNN.out.below hW) (HG.out.below (below_step HB1.out (Nat.le_refl _) hW)) true HDN.out S E (by rw [if_pos rfl]; exact hPE)
      have C2 : Hid (∀ W, Below w1.heap.size w1 W → Calls Tryz.prog 18 #[.slice na NN.length nc, .agg #[.int .i64 x, .int .i64 y]] W fun e w' => e = .returned (.tuple #[.string S, .int .i64 E]) ∧ Below W.heap.size W w') := fun W hW => rpathV_any (x, y) na NN.length nc W true (linesP NN) hRl hRz (fun W' h => CLR W' (below_step hW (Nat.le_refl _) h)) S E (by rw [if_pos rfl]; exact hPE)
      have C3 : Hid (∀ W, Below w1.heap.size w1 W → Calls Tryz.prog 19 #[.slice na NN.length nc, .string p] W fun e w' => e = .returned (.tuple #[.agg #[.int .i64 x2, .int .i64 y2], .int .i64 E2]) ∧ Below W.heap.size W w') := fun W hW => findC_any NN na NN.length nc p W (by omega) hzN (HNN.out.below hW) (HG.out.below (below_step HB1.out (Nat.le_refl _) hW)) (HM.out.below (below_step HB1.out (Nat.le_refl _) hW)) (by omega) true HDN.out (x2, y2) E2 (by rw [if_pos rfl]; exact hFE)
      have C4 : Hid (∀ W, Below w1.heap.size w1 W → Calls Tryz.prog 20 #[.slice na NN.length nc, .string p] W fun e w' => e = .returned (.tuple #[.agg #[.int .i64 x2, .int .i64 y2], .int .i64 E2]) ∧ Below W.heap.size W w') := fun W hW => rfindP_any p na NN.length nc W true (linesP NN) hRl hRz (fun W' h => CLR W' (below_step hW (Nat.le_refl _) h)) (x2, y2) E2 (by rw [if_pos rfl]; exact hFE)
      have e4 := fun w => stampEq_same3 x2 y2 w
      have HKc : Hid (∀ W, Below w1.heap.size w1 W → W.cell? ⟨g, 0, none⟩ = some (.int .i64 x) ∧ W.cell? ⟨g, 1, none⟩ = some (.int .i64 y)) := fun W hW => ⟨(HK1.out.on hW).cell 0, (HK1.out.on hW).cell 1⟩
      generalize NN.length = nl at *
      clear hMay hNl hNd hNN hzN HDN hRl hRz CLR hPE hFE HNN HK1
      obtain ⟨k0, k1⟩ := HKc.out w1 (Below.refl _ _)
      go_wp2_with fail
      refine (C1.out w1 (Below.refl _ _)).mono ?_
      rintro e w2 ⟨rfl, hb2⟩
      have HX2 : Hid (Below w1.heap.size w1 w2) := hb2
      clear hb2 C1 k0 k1
      obtain ⟨k0, k1⟩ := HKc.out w2 HX2.out
      go_wp2_with fail
      refine (C2.out w2 HX2.out).mono ?_
      rintro e w3 ⟨rfl, hb3⟩
      have HX3 : Hid (Below w1.heap.size w1 w3) := below_step HX2.out (Nat.le_refl _) hb3
      clear hb3 C2 k0 k1 HX2
      go_wp2_with fail
      refine (C3.out w3 HX3.out).mono ?_
      rintro e w4 ⟨rfl, hb4⟩
      have HX4 : Hid (Below w1.heap.size w1 w4) := below_step HX3.out (Nat.le_refl _) hb4
      clear hb4 C3 HX3
      obtain ⟨u4, hu4⟩ : ∃ u4, w4.alloc (.cells #[.int .i64 x2, .int .i64 y2] 36) = u4 := ⟨_, rfl⟩
      obtain ⟨g4, hg4⟩ : ∃ g4, w4.heap.size = g4 := ⟨_, rfl⟩
      have HK4 : Hid (Blk u4 36 g4 #[.int .i64 x2, .int .i64 y2]) := by show Blk _ _ _ _; rw [← hu4, ← hg4]; exact Blk.new _ _ _
      have HX5 : Hid (Below w1.heap.size w1 u4) := by show Below _ _ _; rw [← hu4]; exact below_step HX4.out (Nat.le_refl _) (below_new _ _)
      have HU4 : Hid (w4.alloc (.cells #[.int .i64 x2, .int .i64 y2] 36) = u4) := hu4
      have HG4 : Hid (w4.heap.size = g4) := hg4
      clear hu4 hg4 HX4
      go_wp2_with fail
      rw [HU4.out, HG4.out]
      refine (C4.out u4 HX5.out).mono ?_
      rintro e w5 ⟨rfl, hb5⟩
      have HK5 : Hid (Blk w5 36 g4 #[.int .i64 x2, .int .i64 y2]) := HK4.out.on hb5
      have HX6 : Hid (Below w1.heap.size w1 w5) := below_step HX5.out (Nat.le_refl _) hb5
      clear hb5 C4 HX5 HK4 HU4 HG4
      have hbx := below_new w5 (.cells #[.int .i64 x2, .int .i64 y2] 36)
      have q0 : (w5.alloc (.cells #[.int .i64 x2, .int .i64 y2] 36)).cell? ⟨g4, 0, none⟩ = some (.int .i64 x2) := (HK5.out.on hbx).cell 0
      have q1 : (w5.alloc (.cells #[.int .i64 x2, .int .i64 y2] 36)).cell? ⟨g4, 1, none⟩ = some (.int .i64 y2) := (HK5.out.on hbx).cell 1
      have HBz : Hid (Below w.heap.size w (w5.alloc (.cells #[.int .i64 x2, .int .i64 y2] 36))) := below_step (below_step HB1.out (Nat.le_refl _) HX6.out) (Nat.le_refl _) hbx
      clear hbx HX6 HK5 HB1 HKc
      go_wp2_with fail
      refine (CW.out _ HBz.out).mono ?_
      rintro e w99 ⟨rfl, hb99⟩
      have hB99 := below_step HBz.out (Nat.le_refl _) hb99
      clear CW hb99
      go_wp2_with fail
      go_ret
      exact ⟨rfl, hB99⟩
    · have g0 : decide ((512 : Int) < (p.size : Int)) = true := by simp; omega
      have HBz := HB1
      clear hMay hNl hNd hNN
      go_wp2_with fail
      refine (CW.out _ HBz.out).mono ?_
      rintro e w99 ⟨rfl, hb99⟩
      have hB99 := below_step HBz.out (Nat.le_refl _) hb99
      clear CW hb99
      go_wp2_with fail
      go_ret
      exact ⟨rfl, hB99⟩

theorem viewPaths_law (a : Option Addr) (n c : Nat) (v : Value) (p : ByteArray) (w : World) (z : ∃ l, OpsAt w a n l ∧ n ≤ maxLen ∧ (∀ q ∈ l, OpOk q) ∧ SliceOk a n c) (z2 : ∃ t u : Int, v = .agg #[.int .i64 t, .int .i64 u] ∧ (Lit.int .i64 t).wf = true ∧ (Lit.int .i64 u).wf = true) (hG : Glob8 w) (hM : MaxL w) :
    Calls Tryz.prog 4 #[.slice a n c, v, .string p] w fun e w' => e = .returned (.bool true) ∧ Below w.heap.size w w' := by
  obtain ⟨l, h1, h2, h3, _⟩ := z
  obtain ⟨t, u, rfl, _⟩ := z2
  exact viewPaths_walk a l n c t u p w h2 h1 h3 hG hM
end Go.Proofs.YtebnmghjdoblaaaGreatDoor
