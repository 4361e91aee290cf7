import Derived.Test.YtebnmghjdoblaaaGreatDoorG
import Derived.Test.YtebnmghjdoblaaaGreatDoorBA
import Derived.Test.YtebnmghjdoblaaaGreatDoorL1
/- The document's May, Check, Less, See, Next (layer 10). -/
namespace Go.Proofs.YtebnmghjdoblaaaGreatDoor
open Go.RowKit
set_option linter.unusedSimpArgs false

/-- May a stamp be one of an operation? -/
abbrev MayS (s : Int × Int) : Prop := 1 ≤ s.1 ∧ s.1 ≤ 1099511627775 ∧ 1 ≤ s.2 ∧ s.2 ≤ 6

def stampV (s : Int × Int) : Value := .agg #[.int .i64 s.1, .int .i64 s.2]

set_option maxRecDepth 100000 in
set_option maxHeartbeats 2000000 in
theorem rmayS_any (s : Int × Int) (w : World) :
    Calls Tryz.prog 50 #[stampV s] w fun e w' => e = .returned (.bool (decide (MayS s))) ∧ Below w.heap.size w w' := by
  obtain ⟨t, u⟩ := s
  obtain ⟨D, hD'⟩ : ∃ D, decide (MayS (t, u)) = D := ⟨_, rfl⟩
  rw [hD']
  show Calls Tryz.prog _ #[.agg #[.int .i64 t, .int .i64 u]] w _
  by_cases h1 : 1 ≤ t
  · have g1 : decide (1 ≤ t) = true := by simp; omega
    by_cases h2 : t ≤ 1099511627775
    · have g2 : decide (t ≤ 1099511627775) = true := by simp; omega
      by_cases h3 : 1 ≤ u
      · have g3 : decide (1 ≤ u) = true := by simp; omega
        by_cases h4 : u ≤ 6
        · have g4 : decide (u ≤ 6) = true := by simp; omega
          have hD : D = true := by rw [← hD']; exact decide_eq_true ⟨h1, h2, h3, h4⟩
          subst hD
          clear hD'
          go_enter Tryz.func50, Tryz.ntmps50
          go_wp2
          go_ret
          exact ⟨rfl, below_new w _⟩
        · have g4 : decide (u ≤ 6) = false := by simp; omega
          have hD : D = false := by rw [← hD']; exact decide_eq_false (fun h => h4 h.2.2.2)
          subst hD
          clear hD'
          go_enter Tryz.func50, Tryz.ntmps50
          go_wp2
          go_ret
          exact ⟨rfl, below_new w _⟩
      · have g3 : decide (1 ≤ u) = false := by simp; omega
        have hD : D = false := by rw [← hD']; exact decide_eq_false (fun h => h3 h.2.2.1)
        subst hD
        clear hD'
        go_enter Tryz.func50, Tryz.ntmps50
        go_wp2
        go_ret
        exact ⟨rfl, below_new w _⟩
    · have g2 : decide (t ≤ 1099511627775) = false := by simp; omega
      have hD : D = false := by rw [← hD']; exact decide_eq_false (fun h => h2 h.2.1)
      subst hD
      clear hD'
      go_enter Tryz.func50, Tryz.ntmps50
      go_wp2
      go_ret
      exact ⟨rfl, below_new w _⟩
  · have g1 : decide (1 ≤ t) = false := by simp; omega
    have hD : D = false := by rw [← hD']; exact decide_eq_false (fun h => h1 h.1)
    subst hD
    clear hD'
    go_enter Tryz.func50, Tryz.ntmps50
    go_wp2
    go_ret
    exact ⟨rfl, below_new w _⟩

/-- Which of two stamps stands ahead. -/
abbrev LessS (a b : Int × Int) : Prop := a.1 < b.1 ∨ (a.1 = b.1 ∧ a.2 < b.2)

set_option maxRecDepth 100000 in
set_option maxHeartbeats 2000000 in
theorem rless_any (a b : Int × Int) (w : World) :
    Calls Tryz.prog 47 #[stampV a, stampV b] w fun e w' => e = .returned (.bool (decide (LessS a b))) ∧ Below w.heap.size w w' := by
  obtain ⟨t, u⟩ := a
  obtain ⟨x, y⟩ := b
  obtain ⟨D, hD'⟩ : ∃ D, decide (LessS (t, u) (x, y)) = D := ⟨_, rfl⟩
  rw [hD']
  show Calls Tryz.prog _ #[.agg #[.int .i64 t, .int .i64 u], .agg #[.int .i64 x, .int .i64 y]] w _
  by_cases h1 : t < x
  · have g1 : decide (t < x) = true := by simp; omega
    have hD : D = true := by rw [← hD']; exact decide_eq_true (.inl h1)
    subst hD
    clear hD'
    go_enter Tryz.func47, Tryz.ntmps47
    go_wp2
    go_ret
    exact ⟨rfl, (below_new w _).alloc (by simp) _⟩
  · have g1 : decide (t < x) = false := by simp; omega
    by_cases h2 : t = x
    · have g2 : (t == x) = true := by rw [beq_iff_eq]; exact h2
      by_cases h3 : u < y
      · have g3 : decide (u < y) = true := by simp; omega
        have hD : D = true := by rw [← hD']; exact decide_eq_true (.inr ⟨h2, h3⟩)
        subst hD
        clear hD' h2
        go_enter Tryz.func47, Tryz.ntmps47
        go_wp2
        go_ret
        exact ⟨rfl, (below_new w _).alloc (by simp) _⟩
      · have g3 : decide (u < y) = false := by simp; omega
        have hD : D = false := by rw [← hD']; exact decide_eq_false (fun h => h.elim h1 (fun h => h3 h.2))
        subst hD
        clear hD' h2
        go_enter Tryz.func47, Tryz.ntmps47
        go_wp2
        go_ret
        exact ⟨rfl, (below_new w _).alloc (by simp) _⟩
    · have g2 : (t == x) = false := by rw [beq_eq_false_iff_ne]; exact h2
      have hD : D = false := by rw [← hD']; exact decide_eq_false (fun h => h.elim h1 (fun h => h2 h.1))
      subst hD
      clear hD'
      go_enter Tryz.func47, Tryz.ntmps47
      go_wp2
      go_ret
      exact ⟨rfl, (below_new w _).alloc (by simp) _⟩

end Go.Proofs.YtebnmghjdoblaaaGreatDoor

/- The document's See, Next (layer 10). -/
namespace Go.Proofs.YtebnmghjdoblaaaGreatDoor
open Go.RowKit
set_option linter.unusedSimpArgs false

end Go.Proofs.YtebnmghjdoblaaaGreatDoor

/- The document's Next (layer 10). -/
namespace Go.Proofs.YtebnmghjdoblaaaGreatDoor
open Go.RowKit
set_option linter.unusedSimpArgs false

end Go.Proofs.YtebnmghjdoblaaaGreatDoor

/- The document's Stable (layer 10). -/
namespace Go.Proofs.YtebnmghjdoblaaaGreatDoor
open Go.RowKit
set_option linter.unusedSimpArgs false

theorem StampsAt.below {w w' : World} {a : Option Addr} {n : Nat} {l : List (Int × Int)} (h : StampsAt w a n l) (hb : Below w.heap.size w w') : StampsAt w' a n l := by
  refine ⟨h.1, ?_⟩
  rcases h.2 with h0 | ⟨b, off, ha, hc⟩
  · exact .inl h0
  · refine .inr ⟨b, off, ha, fun i hi => ?_⟩
    obtain ⟨h1, h2⟩ := hc i hi
    have hlt := World.block_lt_of_cell? w _ h1
    exact ⟨by rw [hb.cell (p := ⟨b, off + i * 2, none⟩) hlt]; exact h1, by rw [hb.cell (p := ⟨b, off + i * 2 + 1, none⟩) hlt]; exact h2⟩

theorem StampsAt.some {w : World} {a : Option Addr} {n : Nat} {l : List (Int × Int)} (h : StampsAt w a n l) (hn : 0 < n) : ∃ b off, a = .some ⟨b, off, none⟩ ∧ ∀ i, i < n → w.cell? ⟨b, off + i * 2, none⟩ = .some (.int .i64 (stL l i).1) ∧ w.cell? ⟨b, off + i * 2 + 1, none⟩ = .some (.int .i64 (stL l i).2) := by
  rcases h.2 with h0 | h
  · omega
  · exact h

theorem IntsAt.some {w : World} {K : IntKind} {a : Option Addr} {n : Nat} {l : List Int} (h : IntsAt w K a n l) (hn : 0 < n) : ∃ b off, a = .some ⟨b, off, none⟩ ∧ ∀ i, i < n → w.cell? ⟨b, off + i, none⟩ = .some (.int K (l.getD i 0)) := by
  rcases h.2 with h0 | h
  · omega
  · exact h

end Go.Proofs.YtebnmghjdoblaaaGreatDoor

/- Layer 10 on plain data: orders, and stable times. Nothing of the program. -/
namespace Go.Proofs.YtebnmghjdoblaaaGreatDoor
open Go.RowKit
set_option linter.unusedSimpArgs false

theorem lessS_self (a : Int × Int) : ¬ LessS a a := by unfold LessS; omega

theorem lessS_one (a b : Int × Int) : (LessS a b ∨ LessS b a) ↔ a ≠ b := by
  unfold LessS
  constructor
  · rintro h rfl; omega
  · intro h
    by_cases h1 : a.1 = b.1
    · by_cases h2 : a.2 = b.2
      · exact absurd (Prod.ext h1 h2) h
      · omega
    · omega

theorem lessS_not (a b : Int × Int) (h : LessS a b) : ¬ LessS b a := by unfold LessS at *; omega

theorem lessS_trans (a b c : Int × Int) (h : LessS a b) (k : LessS b c) : LessS a c := by unfold LessS at *; omega

end Go.Proofs.YtebnmghjdoblaaaGreatDoor
