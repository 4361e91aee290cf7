import Derived.Test.YtabhkebkbidfhaaGreatDoorRGpA
/- Layer 20, the document's: May, Check. -/
namespace Go.Proofs.YtabhkebkbidfhaaGreatDoor
open Go.RowKit
set_option maxRecDepth 100000
set_option linter.unusedSimpArgs false
set_option linter.unusedVariables false
set_option maxRecDepth 100000

theorem Below.trans2 {w0 w w' : World} (h : Below w0.heap.size w0 w) (k : Below w.heap.size w w') : Below w0.heap.size w0 w' := below_step h (Nat.le_refl _) k

set_option maxHeartbeats 4000000 in
theorem rmay20_any (G : GrpT) (a : Option Addr) (c : Nat) (w : World) (D : Bool) (hD : D = true ↔ MayG G) (hn : G.2.1.length ≤ 1048576) (hI : MmsAt w a G.2.1.length G.2.1) (hw : ∀ i, i < 6 → -9223372036854775808 ≤ (mmL G.2.1 i).1 ∧ (mmL G.2.1 i).1 ≤ 9223372036854775807) :
    Calls Tryz.prog 18 #[.agg (grpA G a c)] w fun e w' => e = .returned (.bool D) ∧ Below w.heap.size w w' := by
  obtain ⟨Ep, l, Op⟩ := G
  have HD : Hid (D = true ↔ MayG (Ep, l, Op)) := hD
  have HWW : Hid (∀ i, i < 6 → -9223372036854775808 ≤ (mmL l i).1 ∧ (mmL l i).1 ≤ 9223372036854775807) := hw
  simp only [grpA] at hI hn ⊢
  clear hD hw
  obtain ⟨n, hnn⟩ : ∃ n, l.length = n := ⟨_, rfl⟩
  rw [hnn] at hI hn ⊢
  have HL : Hid (l.length = n) := hnn
  obtain ⟨w0, hw0⟩ : ∃ w0, w.alloc (.cells #[.int .i64 Ep, .slice a n c, .int .i64 Op] 24) = w0 := ⟨_, rfl⟩
  have HB0 : Hid (Below w.heap.size w w0) := by rw [← hw0]; exact below_new w _
  have HF0 : Hid (Blk w0 24 w.heap.size #[.int .i64 Ep, .slice a n c, .int .i64 Op]) := by rw [← hw0]; exact Blk.new _ _ _
  have HI : Hid (MmsAt w0 a n l) := hI.below HB0.out
  have hc0 : w0.cell? ⟨w.heap.size, 0, none⟩ = some (.int .i64 Ep) := HF0.out.cell 0
  have hc1 : w0.cell? ⟨w.heap.size, 1, none⟩ = some (.slice a n c) := HF0.out.cell 1
  have hc2 : w0.cell? ⟨w.heap.size, 2, none⟩ = some (.int .i64 Op) := HF0.out.cell 2
  rw [← hw0] at hc0 hc1 hc2
  have HW0 : Hid (w.alloc (.cells #[.int .i64 Ep, .slice a n c, .int .i64 Op] 24) = w0) := hw0
  clear hI hnn hw0
  go_enter Tryz.func18, Tryz.ntmps18
  by_cases h0 : Ep < 1
  · go_wp2_with fail
    rw [HW0.out]
    clear hc0 hc1 hc2
    obtain rfl : D = false := Bool.eq_false_iff.2 (fun e => by have := (HD.out.1 e).1.1; have t : 1 ≤ Ep := this; omega)
    go_ret
    exact ⟨rfl, HB0.out⟩
  by_cases h1 : 1099511627775 < Ep
  · go_wp2_with fail
    rw [HW0.out]
    clear hc0 hc1 hc2
    obtain rfl : D = false := Bool.eq_false_iff.2 (fun e => by have := (HD.out.1 e).1.2; have t : Ep ≤ 1099511627775 := this; omega)
    go_ret
    exact ⟨rfl, HB0.out⟩
  by_cases h2 : Op < 0
  · go_wp2_with fail
    rw [HW0.out]
    clear hc0 hc1 hc2
    obtain rfl : D = false := Bool.eq_false_iff.2 (fun e => by have := (HD.out.1 e).2.1.1; have t : 0 ≤ Op := this; omega)
    go_ret
    exact ⟨rfl, HB0.out⟩
  by_cases h3 : 500 < Op
  · go_wp2_with fail
    rw [HW0.out]
    clear hc0 hc1 hc2
    obtain rfl : D = false := Bool.eq_false_iff.2 (fun e => by have := (HD.out.1 e).2.1.2; have t : Op ≤ 500 := this; omega)
    go_ret
    exact ⟨rfl, HB0.out⟩
  by_cases h4 : ¬ n = 6
  · have b4 : ((n : Int) != 6) = true := by simp; omega
    go_wp2_with fail
    rw [HW0.out]
    clear hc0 hc1 hc2
    obtain rfl : D = false := Bool.eq_false_iff.2 (fun e => h4 (by rw [← HL.out]; exact (HD.out.1 e).2.2.1))
    go_ret
    exact ⟨rfl, HB0.out⟩
  obtain rfl : n = 6 := by omega
  have HR : Hid ((1 ≤ Ep ∧ Ep ≤ 1099511627775) ∧ 0 ≤ Op ∧ Op ≤ 500) := ⟨⟨by omega, by omega⟩, by omega, by omega⟩
  go_wp2_with fail
  rw [HW0.out] at hc1 ⊢
  clear hc0 hc2 h0 h1 h2 h3 hn
  as_aux_lemma =>
  obtain ⟨lb, off, rfl, hcl⟩ : ∃ lb off, a = some ⟨lb, off, none⟩ ∧ ∀ i, i < 6 → w0.cell? ⟨lb, off + i * 3, none⟩ = some (.int .i64 (mmL l i).1) ∧ w0.cell? ⟨lb, off + i * 3 + 1, none⟩ = some (.int .i64 (mmL l i).2.1) ∧ w0.cell? ⟨lb, off + i * 3 + 2, none⟩ = some (.bool (mmL l i).2.2) := by
    rcases HI.out.2 with h | h
    · omega
    · exact h
  have HCL : Hid (∀ i, i < 6 → w0.cell? ⟨lb, off + i * 3, none⟩ = some (.int .i64 (mmL l i).1) ∧ w0.cell? ⟨lb, off + i * 3 + 1, none⟩ = some (.int .i64 (mmL l i).2.1) ∧ w0.cell? ⟨lb, off + i * 3 + 2, none⟩ = some (.bool (mmL l i).2.2)) := hcl
  have HC1 : Hid (w0.cell? ⟨w.heap.size, 1, none⟩ = some (.slice (some ⟨lb, off, none⟩) 6 c)) := hc1
  clear hcl hc1
  go_loopw [3] (fun v wr => ∃ k : Nat, k ≤ 6 ∧ v = .int .i64 k ∧ Hid (Below w0.heap.size w0 wr) ∧ Hid (∀ i, i < k → (mmL l i).1 = (i : Int) + 1 ∧ 0 ≤ (mmL l i).2.1 ∧ (mmL l i).2.1 ≤ 1099511627775 ∧ (i = 0 → (mmL l i).2.2 = true))) (fun v _ => 6 - (intOf v).toNat)
  case atStart => exact ⟨0, Nat.zero_le _, rfl, Below.refl _ _, fun i h => absurd h (Nat.not_lt_zero _)⟩
  case round =>
    obtain ⟨k, hk, rfl, HB, HK⟩ := hrel
    have HBw : Hid (Below w.heap.size w wr) := below_step HB0.out (Nat.le_refl _) HB.out
    by_cases hlt : k < 6
    · have d0 : (k : Int) < 6 := by omega
      have d1 : (0 : Int) ≤ (k : Int) := by omega
      have cell : ∀ {p : Addr} {v : Value}, w0.cell? p = some v → wr.cell? p = some v := fun h => by rw [HB.out.cell (World.block_lt_of_cell? w0 _ h)]; exact h
      have c1 := cell HC1.out
      have k0 := cell (HCL.out k hlt).1
      have k1 := cell (HCL.out k hlt).2.1
      have k2 := cell (HCL.out k hlt).2.2
      obtain ⟨x, hx⟩ : ∃ x, (mmL l k).1 = x := ⟨_, rfl⟩
      obtain ⟨y, hy⟩ : ∃ y, (mmL l k).2.1 = y := ⟨_, rfl⟩
      obtain ⟨z, hz⟩ : ∃ z, (mmL l k).2.2 = z := ⟨_, rfl⟩
      have hxw := HWW.out k hlt
      rw [hx] at k0 hxw
      rw [hy] at k1
      rw [hz] at k2
      obtain ⟨hx1, hx2⟩ := hxw
      have Hxyz : Hid ((mmL l k).1 = x ∧ (mmL l k).2.1 = y ∧ (mmL l k).2.2 = z) := ⟨hx, hy, hz⟩
      clear hx hy hz cell
      obtain ⟨u, hu⟩ : ∃ u, IntKind.i64.wrap (x - 1) = u := ⟨_, rfl⟩
      have Hu : Hid (IntKind.i64.wrap (x - 1) = u) := hu
      by_cases e0 : u = (k : Int)
      · have b0 : (u != (k : Int)) = false := by simp [e0]
        have HX1 : Hid (x = (k : Int) + 1) := by have := Hu.out; rw [IntKind.wrap_i64, e0] at this; show x = _; omega
        clear e0
        by_cases e1 : y < 0
        · have WHY : Hid (¬ (x = (k : Int) + 1 ∧ 0 ≤ y ∧ y ≤ 1099511627775 ∧ (k = 0 → z = true))) := fun h => by omega
          obtain rfl : D = false := Bool.eq_false_iff.2 (fun e => by have := (HD.out.1 e).2.2.2 k hlt; have q : (mmL l k).1 = (k : Int) + 1 ∧ 0 ≤ (mmL l k).2.1 ∧ (mmL l k).2.1 ≤ 1099511627775 ∧ (k = 0 → (mmL l k).2.2 = true) := this; rw [Hxyz.out.1, Hxyz.out.2.1, Hxyz.out.2.2] at q; exact WHY.out q)
          clear WHY hx1 hx2
          go_wp2_with fail
          go_ret
          exact ⟨rfl, Below.trans2 HBw.out (by first | exact below_new _ _ | exact Below.refl _ _)⟩
        by_cases e2 : 1099511627775 < y
        · have WHY : Hid (¬ (x = (k : Int) + 1 ∧ 0 ≤ y ∧ y ≤ 1099511627775 ∧ (k = 0 → z = true))) := fun h => by omega
          obtain rfl : D = false := Bool.eq_false_iff.2 (fun e => by have := (HD.out.1 e).2.2.2 k hlt; have q : (mmL l k).1 = (k : Int) + 1 ∧ 0 ≤ (mmL l k).2.1 ∧ (mmL l k).2.1 ≤ 1099511627775 ∧ (k = 0 → (mmL l k).2.2 = true) := this; rw [Hxyz.out.1, Hxyz.out.2.1, Hxyz.out.2.2] at q; exact WHY.out q)
          clear WHY hx1 hx2
          go_wp2_with fail
          go_ret
          exact ⟨rfl, Below.trans2 HBw.out (by first | exact below_new _ _ | exact Below.refl _ _)⟩
        by_cases e3 : k = 0
        · have b3 : ((k : Int) == 0) = true := by simp [e3]
          have HE3 : Hid (k = 0) := e3
          clear e3
          cases z with
          | false =>
            have WHY : Hid (¬ (x = (k : Int) + 1 ∧ 0 ≤ y ∧ y ≤ 1099511627775 ∧ (k = 0 → false = true))) := fun h => Bool.noConfusion (h.2.2.2 HE3.out)
            obtain rfl : D = false := Bool.eq_false_iff.2 (fun e => by have := (HD.out.1 e).2.2.2 k hlt; have q : (mmL l k).1 = (k : Int) + 1 ∧ 0 ≤ (mmL l k).2.1 ∧ (mmL l k).2.1 ≤ 1099511627775 ∧ (k = 0 → (mmL l k).2.2 = true) := this; rw [Hxyz.out.1, Hxyz.out.2.1, Hxyz.out.2.2] at q; exact WHY.out q)
            clear WHY hx1 hx2
            go_wp2_with fail
            go_ret
            exact ⟨rfl, Below.trans2 HBw.out (by first | exact below_new _ _ | exact Below.refl _ _)⟩
          | true =>
            have HOK : Hid (x = (k : Int) + 1 ∧ 0 ≤ y ∧ y ≤ 1099511627775 ∧ (k = 0 → true = true)) := ⟨HX1.out, by omega, by omega, fun _ => rfl⟩
            clear hx1 hx2
            go_wp2_with fail
            refine ⟨⟨k + 1, by omega, by go_num, ?_, ?_⟩, ?_⟩
            · exact below_step HB.out (Nat.le_refl _) (below_new _ _)
            · intro i hi
              by_cases e : i = k
              · rw [e, Hxyz.out.1, Hxyz.out.2.1, Hxyz.out.2.2]; exact HOK.out
              · exact HK.out i (by omega)
            · simp [intOf]; omega
        · have b3 : ((k : Int) == 0) = false := by simp [e3]
          have HOK : Hid (x = (k : Int) + 1 ∧ 0 ≤ y ∧ y ≤ 1099511627775 ∧ (k = 0 → z = true)) := ⟨HX1.out, by omega, by omega, fun h => absurd h e3⟩
          clear e3
          clear hx1 hx2
          go_wp2_with fail
          refine ⟨⟨k + 1, by omega, by go_num, ?_, ?_⟩, ?_⟩
          · exact below_step HB.out (Nat.le_refl _) (below_new _ _)
          · intro i hi
            by_cases e : i = k
            · rw [e, Hxyz.out.1, Hxyz.out.2.1, Hxyz.out.2.2]; exact HOK.out
            · exact HK.out i (by omega)
          · simp [intOf]; omega
      · have b0 : (u != (k : Int)) = true := by simp [e0]
        have WHY : Hid (¬ (x = (k : Int) + 1 ∧ 0 ≤ y ∧ y ≤ 1099511627775 ∧ (k = 0 → z = true))) := fun h => e0 (by rw [← Hu.out, IntKind.wrap_i64, h.1]; omega)
        clear e0
        obtain rfl : D = false := Bool.eq_false_iff.2 (fun e => by have := (HD.out.1 e).2.2.2 k hlt; have q : (mmL l k).1 = (k : Int) + 1 ∧ 0 ≤ (mmL l k).2.1 ∧ (mmL l k).2.1 ≤ 1099511627775 ∧ (k = 0 → (mmL l k).2.2 = true) := this; rw [Hxyz.out.1, Hxyz.out.2.1, Hxyz.out.2.2] at q; exact WHY.out q)
        clear WHY hx1 hx2
        go_wp2_with fail
        go_ret
        exact ⟨rfl, Below.trans2 HBw.out (by first | exact below_new _ _ | exact Below.refl _ _)⟩
    · obtain rfl : k = 6 := by omega
      obtain rfl : D = true := HD.out.2 ⟨HR.out.1, HR.out.2, HL.out, HK.out⟩
      go_wp2_with fail
      go_ret
      exact ⟨rfl, HBw.out⟩

end Go.Proofs.YtabhkebkbidfhaaGreatDoor
