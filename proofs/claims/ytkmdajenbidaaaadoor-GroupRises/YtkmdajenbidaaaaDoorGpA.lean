/- Layer 20, the code's: isNum, find with its two closures, byWho, In. -/
import Derived.Test.YtkmdajenbidaaaaDoorRGpC
namespace Go.Proofs.YtkmdajenbidaaaaDoor
open Go.RowKit
set_option maxRecDepth 100000
set_option linter.unusedSimpArgs false
set_option linter.unusedVariables false
set_option maxRecDepth 100000

theorem isNum20_any (x : Int) (w : World) (D : Bool) (hD : D = true ↔ (0 ≤ x ∧ x ≤ 1099511627775)) :
    Calls Tryd.prog 32 #[.int .i64 x] w fun e w' => e = .returned (.bool D) ∧ w' = w := by
  have HD : Hid (D = true ↔ (0 ≤ x ∧ x ≤ 1099511627775)) := hD
  clear hD
  by_cases h0 : x < 0
  · obtain rfl : D = false := Bool.eq_false_iff.2 (fun e => by have := HD.out.1 e; omega)
    clear HD
    go_enter Tryd.func32, Tryd.ntmps32
    go_wp2_with fail
    go_ret
    exact ⟨rfl, rfl⟩
  · by_cases h1 : 1099511627775 < x
    · obtain rfl : D = false := Bool.eq_false_iff.2 (fun e => by have := HD.out.1 e; omega)
      clear HD
      have b1 : decide (x ≤ 1099511627775) = false := decide_eq_false (by omega)
      go_enter Tryd.func32, Tryd.ntmps32
      go_wp2_with fail
      go_ret
      exact ⟨rfl, rfl⟩
    · obtain rfl : D = true := HD.out.2 ⟨by omega, by omega⟩
      clear HD
      have b1 : decide (x ≤ 1099511627775) = true := decide_eq_true (by omega)
      go_enter Tryd.func32, Tryd.ntmps32
      go_wp2_with fail
      go_ret
      exact ⟨rfl, rfl⟩

theorem fitWho_any (x : MemT) (who : Int) (h : Nat) (w : World) (D : Bool) (hD : decide (x.1 = who) = D) (hc : w.cell? ⟨h, 0, none⟩ = some (.int .i64 who)) :
    Calls Tryd.prog 23 #[.agg (memA x), .pointer (some ⟨h, 0, none⟩)] w fun e w' => e = .returned (.bool D) ∧ Below w.heap.size w w' := by
  obtain ⟨x0, x1, x2⟩ := x
  have b0 : (x0 == who) = D := by rw [← hD]; by_cases e : x0 = who <;> simp [e]
  have n0 := below_new w (.cells #[.int .i64 x0, .int .i64 x1, .bool x2] 42)
  have HB : Hid (Below w.heap.size w (w.alloc (.cells #[.int .i64 x0, .int .i64 x1, .bool x2] 42))) := n0
  have c0 : (w.alloc (.cells #[.int .i64 x0, .int .i64 x1, .bool x2] 42)).cell? ⟨h, 0, none⟩ = some (.int .i64 who) := by rw [n0.cell (World.block_lt_of_cell? w _ hc)]; exact hc
  simp only [memA]
  clear hD n0 hc
  go_enter Tryd.func23, Tryd.ntmps23
  go_wp2_with fail
  go_ret
  exact ⟨rfl, HB.out⟩

theorem fitIn_any (x : MemT) (who : Int) (h : Nat) (w : World) (D : Bool) (hD : (decide (x.1 = who) && x.2.2) = D) (hc : w.cell? ⟨h, 0, none⟩ = some (.int .i64 who)) :
    Calls Tryd.prog 22 #[.agg (memA x), .pointer (some ⟨h, 0, none⟩)] w fun e w' => e = .returned (.bool D) ∧ Below w.heap.size w w' := by
  obtain ⟨x0, x1, x2⟩ := x
  have n0 := below_new w (.cells #[.int .i64 x0, .int .i64 x1, .bool x2] 42)
  have HB : Hid (Below w.heap.size w (w.alloc (.cells #[.int .i64 x0, .int .i64 x1, .bool x2] 42))) := n0
  have c0 : (w.alloc (.cells #[.int .i64 x0, .int .i64 x1, .bool x2] 42)).cell? ⟨h, 0, none⟩ = some (.int .i64 who) := by rw [n0.cell (World.block_lt_of_cell? w _ hc)]; exact hc
  simp only [memA]
  by_cases e : x0 = who
  · have b0 : (x0 == who) = true := by simp [e]
    obtain rfl : x2 = D := by rw [← hD]; simp [e]
    clear hD n0 hc e
    go_enter Tryd.func22, Tryd.ntmps22
    go_wp2_with fail
    go_ret
    exact ⟨rfl, HB.out⟩
  · have b0 : (x0 == who) = false := by simp [e]
    obtain rfl : false = D := by rw [← hD]; simp [e]
    clear hD n0 hc e
    go_enter Tryd.func22, Tryd.ntmps22
    go_wp2_with fail
    go_ret
    exact ⟨rfl, HB.out⟩

set_option maxHeartbeats 2000000 in
theorem findW_any (l : List MemT) (b off n c k : Nat) (who : Int) (h : Nat) (w : World) (hn : n ≤ 1048576) (hI : MmsAt w (some ⟨b, off, none⟩) n l) (hk : k < n) (h0 : ∀ i, i < k → (mmL l i).1 ≠ who) (h1 : (mmL l k).1 = who) (hp : w.cell? ⟨h, 0, none⟩ = some (.int .i64 who)) :
    Calls Tryd.prog 21 #[.slice (some ⟨b, off, none⟩) n c, .func (.func 23) #[] #[.pointer (some ⟨h, 0, none⟩)]] w fun e w' => e = .returned (.pointer (some ⟨b, off + k * 3, none⟩)) ∧ Below w.heap.size w w' := by
  have HI : Hid (MmsAt w (some ⟨b, off, none⟩) n l) := hI
  have H0 : Hid (∀ i, i < k → (mmL l i).1 ≠ who) := h0
  have H1 : Hid ((mmL l k).1 = who) := h1
  have HP : Hid (w.cell? ⟨h, 0, none⟩ = some (.int .i64 who)) := hp
  have HKN : Hid (k < n) := hk
  clear hI h0 h1 hp hk
  go_enter Tryd.func21, Tryd.ntmps21
  go_wp2_with fail
  go_loopw [8] (fun v wr => ∃ i : Nat, i ≤ k ∧ v = .int .i64 i ∧ Hid (Below w.heap.size w wr)) (fun v _ => n - (intOf v).toNat)
  case atStart => exact ⟨0, Nat.zero_le _, rfl, Below.refl _ _⟩
  case round =>
    obtain ⟨i, hi, rfl, HB⟩ := hrel
    have hkn := HKN.out
    have d0 : (i : Int) < (n : Int) := by omega
    have d1 : (0 : Int) ≤ (i : Int) := by omega
    have hcl : ∀ i, i < n → w.cell? ⟨b, off + i * 3, none⟩ = some (.int .i64 (mmL l i).1) ∧ w.cell? ⟨b, off + i * 3 + 1, none⟩ = some (.int .i64 (mmL l i).2.1) ∧ w.cell? ⟨b, off + i * 3 + 2, none⟩ = some (.bool (mmL l i).2.2) := by
      rcases HI.out.2 with h | ⟨b', off', e, h⟩
      · omega
      · cases e; exact h
    have cell : ∀ {p : Addr} {v : Value}, w.cell? p = some v → wr.cell? p = some v := fun h => by rw [HB.out.cell (World.block_lt_of_cell? w _ h)]; exact h
    have k0 := cell (hcl i (by omega)).1
    have k1 := cell (hcl i (by omega)).2.1
    have k2 := cell (hcl i (by omega)).2.2
    have CW : ∀ D, decide ((mmL l i).1 = who) = D → Hid (Calls Tryd.prog 23 #[.agg (memA (mmL l i)), .pointer (some ⟨h, 0, none⟩)] wr fun e w' => e = .returned (.bool D) ∧ Below wr.heap.size wr w') := fun D hD => fitWho_any (mmL l i) who h wr D hD (cell HP.out)
    obtain ⟨x, hx⟩ : ∃ x, (mmL l i).1 = x := ⟨_, rfl⟩
    obtain ⟨y, hy⟩ : ∃ y, (mmL l i).2.1 = y := ⟨_, rfl⟩
    obtain ⟨z, hz⟩ : ∃ z, (mmL l i).2.2 = z := ⟨_, rfl⟩
    rw [hx] at k0
    rw [hy] at k1
    rw [hz] at k2
    simp only [memA, hx, hy, hz] at CW
    have HX : Hid ((mmL l i).1 = x) := hx
    clear hcl hx hy hz cell
    by_cases e : i = k
    · subst e
      have C := CW true (by have := H1.out; rw [HX.out] at this; exact decide_eq_true this)
      clear CW
      go_wp2_with fail
      refine Calls.mono C.out ?_
      rintro e w1 ⟨rfl, hb⟩
      have HB1 : Hid (Below w.heap.size w w1) := below_step HB.out (Nat.le_refl _) hb
      clear hb HB C
      go_wp2_with fail
      go_ret
      exact ⟨rfl, HB1.out⟩
    · have C := CW false (by have := H0.out i (by omega); rw [HX.out] at this; exact decide_eq_false this)
      have hik : i < k := by omega
      clear CW e
      go_wp2_with fail
      refine Calls.mono C.out ?_
      rintro e w1 ⟨rfl, hb⟩
      have HB1 : Hid (Below w.heap.size w w1) := below_step HB.out (Nat.le_refl _) hb
      clear hb HB C
      go_wp2_with fail
      refine ⟨⟨i + 1, by omega, by go_num, HB1⟩, ?_⟩
      simp [intOf]; omega

set_option maxHeartbeats 2000000 in
theorem findI_any (l : List MemT) (a : Option Addr) (n c : Nat) (who : Int) (h : Nat) (w : World) (D : Bool) (hD : inB l who = D) (hn : n ≤ 1048576) (hI : MmsAt w a n l) (hp : w.cell? ⟨h, 0, none⟩ = some (.int .i64 who)) :
    Calls Tryd.prog 21 #[.slice a n c, .func (.func 22) #[] #[.pointer (some ⟨h, 0, none⟩)]] w fun e w' => (∃ p, e = .returned (.pointer p) ∧ (p != none) = D) ∧ Below w.heap.size w w' := by
  have HI : Hid (MmsAt w a n l) := hI
  have HD : Hid (inB l who = D) := hD
  have HP : Hid (w.cell? ⟨h, 0, none⟩ = some (.int .i64 who)) := hp
  have HL : Hid (l.length = n) := hI.1
  clear hI hD hp
  go_enter Tryd.func21, Tryd.ntmps21
  go_wp2_with fail
  go_loopw [8] (fun v wr => ∃ i : Nat, i ≤ n ∧ v = .int .i64 i ∧ Hid (Below w.heap.size w wr) ∧ Hid (∀ j, j < i → ¬ ((mmL l j).1 = who ∧ (mmL l j).2.2 = true))) (fun v _ => n - (intOf v).toNat)
  case atStart => exact ⟨0, Nat.zero_le _, rfl, Below.refl _ _, fun j h => absurd h (Nat.not_lt_zero _)⟩
  case round =>
    obtain ⟨i, hi, rfl, HB, HK⟩ := hrel
    by_cases hlt : i < n
    · have d0 : (i : Int) < (n : Int) := by omega
      have d1 : (0 : Int) ≤ (i : Int) := by omega
      obtain ⟨b, off, rfl, hcl⟩ : ∃ b off, a = some ⟨b, off, none⟩ ∧ ∀ i, i < n → w.cell? ⟨b, off + i * 3, none⟩ = some (.int .i64 (mmL l i).1) ∧ w.cell? ⟨b, off + i * 3 + 1, none⟩ = some (.int .i64 (mmL l i).2.1) ∧ w.cell? ⟨b, off + i * 3 + 2, none⟩ = some (.bool (mmL l i).2.2) := by
        rcases HI.out.2 with h | h
        · omega
        · exact h
      have cell : ∀ {p : Addr} {v : Value}, w.cell? p = some v → wr.cell? p = some v := fun h => by rw [HB.out.cell (World.block_lt_of_cell? w _ h)]; exact h
      have k0 := cell (hcl i (by omega)).1
      have k1 := cell (hcl i (by omega)).2.1
      have k2 := cell (hcl i (by omega)).2.2
      have CW : ∀ D, (decide ((mmL l i).1 = who) && (mmL l i).2.2) = D → Hid (Calls Tryd.prog 22 #[.agg (memA (mmL l i)), .pointer (some ⟨h, 0, none⟩)] wr fun e w' => e = .returned (.bool D) ∧ Below wr.heap.size wr w') := fun D hD => fitIn_any (mmL l i) who h wr D hD (cell HP.out)
      obtain ⟨x, hx⟩ : ∃ x, (mmL l i).1 = x := ⟨_, rfl⟩
      obtain ⟨y, hy⟩ : ∃ y, (mmL l i).2.1 = y := ⟨_, rfl⟩
      obtain ⟨z, hz⟩ : ∃ z, (mmL l i).2.2 = z := ⟨_, rfl⟩
      rw [hx] at k0
      rw [hy] at k1
      rw [hz] at k2
      simp only [memA, hx, hy, hz] at CW
      have HXZ : Hid ((mmL l i).1 = x ∧ (mmL l i).2.2 = z) := ⟨hx, hz⟩
      clear hcl hx hy hz cell
      by_cases e : x = who ∧ z = true
      · have C := CW true (by rw [e.2, Bool.and_true]; exact decide_eq_true e.1)
        obtain rfl : D = true := by rw [← HD.out]; exact inB_yes l who i (by rw [HL.out]; exact hlt) (by rw [HXZ.out.1]; exact e.1) (by rw [HXZ.out.2]; exact e.2)
        clear CW e
        go_wp2_with fail
        refine Calls.mono C.out ?_
        rintro e w1 ⟨rfl, hb⟩
        have HB1 : Hid (Below w.heap.size w w1) := below_step HB.out (Nat.le_refl _) hb
        clear hb HB C
        go_wp2_with fail
        go_ret
        exact ⟨⟨_, rfl, rfl⟩, HB1.out⟩
      · have C := CW false (by cases z with | false => exact Bool.and_false _ | true => rw [Bool.and_true]; exact decide_eq_false (fun h => e ⟨h, rfl⟩))
        have HNO : Hid (∀ j, j < i + 1 → ¬ ((mmL l j).1 = who ∧ (mmL l j).2.2 = true)) := fun j hj => by
          by_cases ej : j = i
          · rw [ej, HXZ.out.1, HXZ.out.2]; exact e
          · exact HK.out j (by omega)
        clear CW e HK
        go_wp2_with fail
        refine Calls.mono C.out ?_
        rintro e w1 ⟨rfl, hb⟩
        have HB1 : Hid (Below w.heap.size w w1) := below_step HB.out (Nat.le_refl _) hb
        clear hb HB C
        go_wp2_with fail
        refine ⟨⟨i + 1, by omega, by go_num, HB1, HNO⟩, ?_⟩
        simp [intOf]; omega
    · obtain rfl : i = n := by omega
      have d0 : ¬ ((i : Int) < (i : Int)) := by omega
      obtain rfl : D = false := by rw [← HD.out]; exact inB_no l who (fun j hj => HK.out j (by rw [HL.out] at hj; exact hj))
      go_wp2_with fail
      go_ret
      first
      | exact ⟨⟨_, rfl, rfl⟩, HB.out⟩
      | exact ⟨rfl, HB.out⟩
      | (trace_state; exact HB.out)

end Go.Proofs.YtkmdajenbidaaaaDoor
