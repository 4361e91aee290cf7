/- The code's isClient, Check, Less (layer 10). -/
import Derived.Test.YtebnmghjdoblaaaGreatDoorR10
namespace Go.Proofs.YtebnmghjdoblaaaGreatDoor
open Go.RowKit
set_option linter.unusedSimpArgs false


set_option maxHeartbeats 1000000 in
theorem isClient_any (u : Int) (w : World) :
    Calls Tryz.prog 78 #[.int .i64 u] w fun e w' => e = .returned (.bool (decide (1 ≤ u ∧ u ≤ 6))) ∧ w' = w := by
  obtain ⟨D, hD'⟩ : ∃ D, decide (1 ≤ u ∧ u ≤ 6) = D := ⟨_, rfl⟩
  rw [hD']
  by_cases h1 : 1 ≤ u
  · have g1 : decide (1 ≤ u) = true := by simp; omega
    by_cases h2 : u ≤ 6
    · have g2 : decide (u ≤ 6) = true := by simp; omega
      have hD : D = true := by rw [← hD']; exact decide_eq_true ⟨h1, h2⟩
      subst hD
      clear hD'
      go_enter Tryz.func78, Tryz.ntmps78
      go_wp2
      go_ret
      exact ⟨rfl, rfl⟩
    · have g2 : decide (u ≤ 6) = false := by simp; omega
      have hD : D = false := by rw [← hD']; exact decide_eq_false (fun h => h2 h.2)
      subst hD
      clear hD'
      go_enter Tryz.func78, Tryz.ntmps78
      go_wp2
      go_ret
      exact ⟨rfl, rfl⟩
  · have g1 : decide (1 ≤ u) = false := by simp; omega
    have hD : D = false := by rw [← hD']; exact decide_eq_false (fun h => h1 h.1)
    subst hD
    clear hD'
    go_enter Tryz.func78, Tryz.ntmps78
    go_wp2
    go_ret
    exact ⟨rfl, rfl⟩


set_option maxRecDepth 100000 in
set_option maxHeartbeats 2000000 in
theorem checkS_any (s : Int × Int) (w : World) :
    Calls Tryz.prog 55 #[stampV s] w fun e w' => e = .returned (.int .i64 (if MayS s then 0 else 1)) ∧ Below w.heap.size w w' := by
  have C' := fun w => isClient_any s.2 w
  obtain ⟨t, u⟩ := s
  obtain ⟨D, hD'⟩ : ∃ D, (if MayS (t, u) then (0 : Int) else 1) = D := ⟨_, rfl⟩
  rw [hD']
  show Calls Tryz.prog _ #[.agg #[.int .i64 t, .int .i64 u]] w _
  by_cases h1 : 1 ≤ t
  · have g1 : decide (t < 1) = false := by simp; omega
    by_cases h2 : t ≤ 1099511627775
    · have g2 : decide (1099511627775 < t) = false := by simp; omega
      by_cases h3 : 1 ≤ u ∧ u ≤ 6
      · have hD : D = 0 := by rw [← hD']; exact if_pos ⟨h1, h2, h3⟩
        rw [decide_eq_true h3] at C'
        have C : Hid (∀ w, Calls Tryz.prog 78 #[.int .i64 u] w fun e w' => e = .returned (.bool true) ∧ w' = w) := C'
        subst hD
        clear hD' h3 C'
        go_enter Tryz.func55, Tryz.ntmps55
        go_wp2_with fail
        refine (C.out _).mono ?_
        rintro e w1 ⟨rfl, hw1⟩
        subst hw1
        go_wp2
        go_ret
        exact ⟨rfl, below_new w _⟩
      · have hD : D = 1 := by rw [← hD']; exact if_neg (fun h => h3 h.2.2)
        rw [decide_eq_false h3] at C'
        have C : Hid (∀ w, Calls Tryz.prog 78 #[.int .i64 u] w fun e w' => e = .returned (.bool false) ∧ w' = w) := C'
        subst hD
        clear hD' h3 C'
        go_enter Tryz.func55, Tryz.ntmps55
        go_wp2_with fail
        refine (C.out _).mono ?_
        rintro e w1 ⟨rfl, hw1⟩
        subst hw1
        go_wp2
        go_ret
        exact ⟨rfl, below_new w _⟩
    · have g2 : decide (1099511627775 < t) = true := by simp; omega
      have hD : D = 1 := by rw [← hD']; exact if_neg (fun h => h2 h.2.1)
      subst hD
      clear hD' C'
      go_enter Tryz.func55, Tryz.ntmps55
      go_wp2
      go_ret
      exact ⟨rfl, below_new w _⟩
  · have g1 : decide (t < 1) = true := by simp; omega
    have hD : D = 1 := by rw [← hD']; exact if_neg (fun h => h1 h.1)
    subst hD
    clear hD' C'
    go_enter Tryz.func55, Tryz.ntmps55
    go_wp2
    go_ret
    exact ⟨rfl, below_new w _⟩


set_option maxRecDepth 100000 in
set_option maxHeartbeats 2000000 in
theorem less_any (a b : Int × Int) (w : World) :
    Calls Tryz.prog 54 #[stampV a, stampV b] w fun e w' => e = .returned (.bool (decide (LessS a b))) ∧ Below w.heap.size w w' := by
  obtain ⟨t, u⟩ := a
  obtain ⟨x, y⟩ := b
  obtain ⟨D, hD'⟩ : ∃ D, decide (LessS (t, u) (x, y)) = D := ⟨_, rfl⟩
  rw [hD']
  show Calls Tryz.prog _ #[.agg #[.int .i64 t, .int .i64 u], .agg #[.int .i64 x, .int .i64 y]] w _
  by_cases h2 : t = x
  · subst h2
    by_cases h3 : u < y
    · have g3 : decide (u < y) = true := by simp; omega
      have hD : D = true := by rw [← hD']; exact decide_eq_true (.inr ⟨rfl, h3⟩)
      subst hD
      clear hD'
      go_enter Tryz.func54, Tryz.ntmps54
      go_wp2
      go_ret
      exact ⟨rfl, (below_new w _).alloc (by simp) _⟩
    · have g3 : decide (u < y) = false := by simp; omega
      have hD : D = false := by rw [← hD']; exact decide_eq_false (fun h => h.elim (fun h => absurd h (Int.lt_irrefl _)) (fun h => h3 h.2))
      subst hD
      clear hD'
      go_enter Tryz.func54, Tryz.ntmps54
      go_wp2
      go_ret
      exact ⟨rfl, (below_new w _).alloc (by simp) _⟩
  · have g2 : (t == x) = false := by rw [beq_eq_false_iff_ne]; exact h2
    by_cases h1 : t < x
    · have g1 : decide (t < x) = true := by simp; omega
      have hD : D = true := by rw [← hD']; exact decide_eq_true (.inl h1)
      subst hD
      clear hD'
      go_enter Tryz.func54, Tryz.ntmps54
      go_wp2
      go_ret
      exact ⟨rfl, (below_new w _).alloc (by simp) _⟩
    · have g1 : decide (t < x) = false := by simp; omega
      have hD : D = false := by rw [← hD']; exact decide_eq_false (fun h => h.elim h1 (fun h => h2 h.1))
      subst hD
      clear hD'
      go_enter Tryz.func54, Tryz.ntmps54
      go_wp2
      go_ret
      exact ⟨rfl, (below_new w _).alloc (by simp) _⟩

end Go.Proofs.YtebnmghjdoblaaaGreatDoor
