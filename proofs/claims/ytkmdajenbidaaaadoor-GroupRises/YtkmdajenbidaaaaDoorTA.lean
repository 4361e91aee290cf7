import Derived.Test.YtkmdajenbidaaaaDoorR10
import Derived.Test.YtkmdajenbidaaaaDoorG
import Derived.BigQuiet
import Derived.Deep.QuietTactic
import Derived.Sort.Grow
import Derived.Test.YtkmdajenbidaaaaDoorRT
/- The code's isClient, Check, Less (layer 10). -/
namespace Go.Proofs.YtkmdajenbidaaaaDoor
open Go.RowKit
set_option maxRecDepth 100000
set_option linter.unusedSimpArgs false


set_option maxHeartbeats 1000000 in
theorem isClient_any (u : Int) (w : World) :
    Calls Tryd.prog 55 #[.int .i64 u] w fun e w' => e = .returned (.bool (decide (1 ≤ u ∧ u ≤ 6))) ∧ w' = w := by
  obtain ⟨D, hD'⟩ : ∃ D, decide (1 ≤ u ∧ u ≤ 6) = D := ⟨_, rfl⟩
  rw [hD']
  by_cases h1 : 1 ≤ u
  · have g1 : decide (1 ≤ u) = true := by simp; omega
    by_cases h2 : u ≤ 6
    · have g2 : decide (u ≤ 6) = true := by simp; omega
      have hD : D = true := by rw [← hD']; exact decide_eq_true ⟨h1, h2⟩
      subst hD
      clear hD'
      go_enter Tryd.func55, Tryd.ntmps55
      go_wp2
      go_ret
      exact ⟨rfl, rfl⟩
    · have g2 : decide (u ≤ 6) = false := by simp; omega
      have hD : D = false := by rw [← hD']; exact decide_eq_false (fun h => h2 h.2)
      subst hD
      clear hD'
      go_enter Tryd.func55, Tryd.ntmps55
      go_wp2
      go_ret
      exact ⟨rfl, rfl⟩
  · have g1 : decide (1 ≤ u) = false := by simp; omega
    have hD : D = false := by rw [← hD']; exact decide_eq_false (fun h => h1 h.1)
    subst hD
    clear hD'
    go_enter Tryd.func55, Tryd.ntmps55
    go_wp2
    go_ret
    exact ⟨rfl, rfl⟩


set_option maxRecDepth 100000 in
set_option maxHeartbeats 2000000 in
theorem checkS_any (s : Int × Int) (w : World) :
    Calls Tryd.prog 51 #[stampV s] w fun e w' => e = .returned (.int .i64 (if MayS s then 0 else 1)) ∧ Below w.heap.size w w' := by
  have C' := fun w => isClient_any s.2 w
  obtain ⟨t, u⟩ := s
  obtain ⟨D, hD'⟩ : ∃ D, (if MayS (t, u) then (0 : Int) else 1) = D := ⟨_, rfl⟩
  rw [hD']
  show Calls Tryd.prog _ #[.agg #[.int .i64 t, .int .i64 u]] w _
  by_cases h1 : 1 ≤ t
  · have g1 : decide (t < 1) = false := by simp; omega
    by_cases h2 : t ≤ 1099511627775
    · have g2 : decide (1099511627775 < t) = false := by simp; omega
      by_cases h3 : 1 ≤ u ∧ u ≤ 6
      · have hD : D = 0 := by rw [← hD']; exact if_pos ⟨h1, h2, h3⟩
        rw [decide_eq_true h3] at C'
        have C : Hid (∀ w, Calls Tryd.prog 55 #[.int .i64 u] w fun e w' => e = .returned (.bool true) ∧ w' = w) := C'
        subst hD
        clear hD' h3 C'
        go_enter Tryd.func51, Tryd.ntmps51
        go_wp2_with fail
        refine (C.out _).mono ?_
        rintro e w1 ⟨rfl, hw1⟩
        subst hw1
        go_wp2
        go_ret
        exact ⟨rfl, below_new w _⟩
      · have hD : D = 1 := by rw [← hD']; exact if_neg (fun h => h3 h.2.2)
        rw [decide_eq_false h3] at C'
        have C : Hid (∀ w, Calls Tryd.prog 55 #[.int .i64 u] w fun e w' => e = .returned (.bool false) ∧ w' = w) := C'
        subst hD
        clear hD' h3 C'
        go_enter Tryd.func51, Tryd.ntmps51
        go_wp2_with fail
        refine (C.out _).mono ?_
        rintro e w1 ⟨rfl, hw1⟩
        subst hw1
        go_wp2
        go_ret
        exact ⟨rfl, below_new w _⟩
    · have g2 : decide (1099511627775 < t) = true := by simp; omega
      have hD : D = 1 := by rw [← hD']; exact if_neg (fun h => h2 h.2.1)
      subst hD
      clear hD' C'
      go_enter Tryd.func51, Tryd.ntmps51
      go_wp2
      go_ret
      exact ⟨rfl, below_new w _⟩
  · have g1 : decide (t < 1) = true := by simp; omega
    have hD : D = 1 := by rw [← hD']; exact if_neg (fun h => h1 h.1)
    subst hD
    clear hD' C'
    go_enter Tryd.func51, Tryd.ntmps51
    go_wp2
    go_ret
    exact ⟨rfl, below_new w _⟩

end Go.Proofs.YtkmdajenbidaaaaDoor

/- A region that draws its order, whose operations only read and whose callees leave what was there as it was: walked once. Plain facts. -/
namespace Go.Proofs.YtkmdajenbidaaaaDoor
open Go.RowKit
set_option maxRecDepth 100000
set_option linter.unusedSimpArgs false

/-- A world behind another, with all that was there as it was. -/
structure Beh (w : World) where
  w' : World
  h : Below w.heap.size w w'

theorem wp_region_quiet_beh {P : Program} {id : Nat} {Q : Exit → Act → World → Prop} {a : Act} {w : World} {l : List Oper} (hm : P.follows .mixedOrders = true) (hB : Region.lexB .any l.toArray = true)
    (h : wpQuiet P l.toArray (fun w' => ∃ p : Beh w, w' = p.w') (fun a' => ∀ w', (∃ p : Beh w, w' = p.w') → Q .normal a' w') l a) : (Code.region id l.toArray true).wp P Q a w :=
  wp_region_quiet (C := fun w' => ∃ p : Beh w, w' = p.w') hm hB ⟨⟨w.drew, (Below.refl _ _).drew⟩, rfl⟩ (by simpa using h)

/-- A callee's contract, met in a world behind w. -/
theorem Calls.beh_of {P : Program} {f : FuncId} {args : Array Value} {w : World} {p : Beh w} {v : Value} (h : Calls P f args p.w' fun e w' => e = .returned v ∧ Below p.w'.heap.size p.w' w') :
    Calls P f args p.w' fun e w'' => e = .returned v ∧ ∃ q : Beh w, w'' = q.w' :=
  h.mono fun _ w' ⟨he, hb⟩ => ⟨he, ⟨⟨w', below_step p.h (Nat.le_refl _) hb⟩, rfl⟩⟩

theorem Beh.cell {w : World} (p : Beh w) {a : Addr} {v : Value} (h : w.cell? a = some v) : p.w'.cell? a = some v := by
  rw [p.h.cell (World.block_lt_of_cell? w _ h)]; exact h
end Go.Proofs.YtkmdajenbidaaaaDoor

/- The code's root, trash, isTop, isStamp, mayHold, isValue (layer 11). -/
namespace Go.Proofs.YtkmdajenbidaaaaDoor
open Go.RowKit
set_option maxRecDepth 100000
set_option linter.unusedSimpArgs false

set_option maxHeartbeats 1000000 in
theorem root_any (w : World) : Calls Tryd.prog 58 #[] w fun e w' => e = .returned (.agg #[.int .i64 0, .int .i64 0]) ∧ Below w.heap.size w w' := by
  have HB : Hid (Blk (w.alloc (.cells #[.int .i64 0, .int .i64 0] 30)) 30 w.heap.size #[.int .i64 0, .int .i64 0]) := Blk.new _ _ _
  go_enter Tryd.func58, Tryd.ntmps58
  go_wp2_with fail
  exact bodyPost_row rfl w.heap.size #[.int .i64 0, .int .i64 0] rfl rfl HB.out _ Tryd.underlying30 rfl (by kernel_rfl) ⟨rfl, below_new w _⟩

set_option maxHeartbeats 1000000 in
theorem trash_any (w : World) : Calls Tryd.prog 59 #[] w fun e w' => e = .returned (.agg #[.int .i64 0, .int .i64 1]) ∧ Below w.heap.size w w' := by
  have HB : Hid (Blk (w.alloc (.cells #[.int .i64 0, .int .i64 0] 30)) 30 w.heap.size #[.int .i64 0, .int .i64 0]) := Blk.new _ _ _
  go_enter Tryd.func59, Tryd.ntmps59
  go_wp2_with (with_reducible refine wpList_storeBlk rfl 30 _ _ rfl w.heap.size #[.int .i64 0, .int .i64 0] #[.int .i64 0, .int .i64 1] ?hx ?hy HB.out rfl ?hi ?h1 ?_)
  try (case hx => rfl)
  try (case hy => rfl)
  try (case hi => kernel_rfl)
  try (case h1 => simp [Value.oneCell'])
  exact bodyPost_row rfl w.heap.size #[.int .i64 0, .int .i64 1] rfl rfl (HB.out.setRow _) _ Tryd.underlying30 rfl (by kernel_rfl) ⟨rfl, below_setRow (below_new w _) (Nat.le_refl _) _⟩


set_option maxRecDepth 100000 in
set_option maxHeartbeats 2000000 in
theorem isTop_any (s : Int × Int) (w : World) : Calls Tryd.prog 56 #[stampV s] w fun e w' => e = .returned (.bool (decide (s = (0, 0)) || decide (s = (0, 1)))) ∧ Below w.heap.size w w' := by
  have CR : Hid (∀ w, _) := root_any
  have CT : Hid (∀ w, _) := trash_any
  obtain ⟨t, u⟩ := s
  show Calls Tryd.prog _ #[.agg #[.int .i64 t, .int .i64 u]] w _
  have e0 := fun w => stampEq t u 0 0 w
  have e1 := fun w => stampEq t u 0 1 w
  by_cases h0 : (t, u) = (0, 0)
  · rw [decide_eq_true h0] at e0 ⊢
    rw [Bool.true_or]
    clear h0 e1
    go_enter Tryd.func56, Tryd.ntmps56
    go_wp2_with fail
    generalize hq : World.alloc w _ = w0 at *
    have hb0 : Below w.heap.size w w0 := by rw [← hq]; exact below_new w _
    have c0 : ∀ p : Beh w0, p.w'.cell? ⟨w.heap.size, 0, none⟩ = some (.int .i64 t) := fun p => p.cell (by rw [← hq]; simp)
    have c1 : ∀ p : Beh w0, p.w'.cell? ⟨w.heap.size, 1, none⟩ = some (.int .i64 u) := fun p => p.cell (by rw [← hq]; simp)
    clear hq
    have hne_ : Nonempty (Beh w0) := ⟨⟨_, Below.refl _ _⟩⟩
    refine wp_region_quiet_beh (by kernel_rfl) (by kernel_rfl) ?_
    repeat (quiet_step (first | (go_at_call 58; refine Calls.beh_of (CR.out _)) | (go_at_call 59; refine Calls.beh_of (CT.out _))))
    refine wpQuiet_nil ?_
    intro wq hw_
    obtain ⟨⟨wz_, hbq⟩, hw_⟩ := hw_
    subst hw_
    try dsimp only
    clear hne_
    go_wp2_with fail
    go_ret
    exact ⟨rfl, below_step hb0 (Nat.le_refl _) hbq⟩
  · rw [decide_eq_false h0] at e0 ⊢
    by_cases h1 : (t, u) = (0, 1)
    · rw [decide_eq_true h1] at e1 ⊢
      rw [Bool.false_or]
      clear h0 h1
      go_enter Tryd.func56, Tryd.ntmps56
      go_wp2_with fail
      generalize hq : World.alloc w _ = w0 at *
      have hb0 : Below w.heap.size w w0 := by rw [← hq]; exact below_new w _
      have c0 : ∀ p : Beh w0, p.w'.cell? ⟨w.heap.size, 0, none⟩ = some (.int .i64 t) := fun p => p.cell (by rw [← hq]; simp)
      have c1 : ∀ p : Beh w0, p.w'.cell? ⟨w.heap.size, 1, none⟩ = some (.int .i64 u) := fun p => p.cell (by rw [← hq]; simp)
      clear hq
      have hne_ : Nonempty (Beh w0) := ⟨⟨_, Below.refl _ _⟩⟩
      refine wp_region_quiet_beh (by kernel_rfl) (by kernel_rfl) ?_
      repeat (quiet_step (first | (go_at_call 58; refine Calls.beh_of (CR.out _)) | (go_at_call 59; refine Calls.beh_of (CT.out _))))
      refine wpQuiet_nil ?_
      intro wq hw_
      obtain ⟨⟨wz_, hbq⟩, hw_⟩ := hw_
      subst hw_
      try dsimp only
      clear hne_
      go_wp2_with fail
      go_ret
      exact ⟨rfl, below_step hb0 (Nat.le_refl _) hbq⟩
    · rw [decide_eq_false h1] at e1 ⊢
      rw [Bool.false_or]
      clear h0 h1
      go_enter Tryd.func56, Tryd.ntmps56
      go_wp2_with fail
      generalize hq : World.alloc w _ = w0 at *
      have hb0 : Below w.heap.size w w0 := by rw [← hq]; exact below_new w _
      have c0 : ∀ p : Beh w0, p.w'.cell? ⟨w.heap.size, 0, none⟩ = some (.int .i64 t) := fun p => p.cell (by rw [← hq]; simp)
      have c1 : ∀ p : Beh w0, p.w'.cell? ⟨w.heap.size, 1, none⟩ = some (.int .i64 u) := fun p => p.cell (by rw [← hq]; simp)
      clear hq
      have hne_ : Nonempty (Beh w0) := ⟨⟨_, Below.refl _ _⟩⟩
      refine wp_region_quiet_beh (by kernel_rfl) (by kernel_rfl) ?_
      repeat (quiet_step (first | (go_at_call 58; refine Calls.beh_of (CR.out _)) | (go_at_call 59; refine Calls.beh_of (CT.out _))))
      refine wpQuiet_nil ?_
      intro wq hw_
      obtain ⟨⟨wz_, hbq⟩, hw_⟩ := hw_
      subst hw_
      try dsimp only
      clear hne_
      go_wp2_with fail
      go_ret
      exact ⟨rfl, below_step hb0 (Nat.le_refl _) hbq⟩

set_option maxHeartbeats 1000000 in
theorem isStamp_any (s : Int × Int) (w : World) : Calls Tryd.prog 48 #[stampV s] w fun e w' => e = .returned (.bool (decide (MayS s))) ∧ Below w.heap.size w w' := by
  have C' := fun w => checkS_any s w
  obtain ⟨D, hD⟩ : ∃ D, decide (MayS s) = D := ⟨_, rfl⟩
  rw [hD]
  obtain ⟨t, u⟩ := s
  show Calls Tryd.prog _ #[.agg #[.int .i64 t, .int .i64 u]] w _
  by_cases h : MayS (t, u)
  · obtain rfl : D = true := by rw [← hD]; exact decide_eq_true h
    rw [if_pos h] at C'
    have C : Hid (∀ w, Calls Tryd.prog 51 #[.agg #[.int .i64 t, .int .i64 u]] w fun e w' => e = .returned (.int .i64 0) ∧ Below w.heap.size w w') := C'
    clear C' h hD
    go_enter Tryd.func48, Tryd.ntmps48
    go_wp2_with fail
    refine (C.out _).mono ?_
    rintro e w1 ⟨rfl, hb1⟩
    have hB1 := below_step (below_new w _) (Nat.le_refl _) hb1
    clear C hb1
    go_wp2_with fail
    go_ret
    exact ⟨rfl, hB1⟩
  · obtain rfl : D = false := by rw [← hD]; exact decide_eq_false h
    rw [if_neg h] at C'
    have C : Hid (∀ w, Calls Tryd.prog 51 #[.agg #[.int .i64 t, .int .i64 u]] w fun e w' => e = .returned (.int .i64 1) ∧ Below w.heap.size w w') := C'
    clear C' h hD
    go_enter Tryd.func48, Tryd.ntmps48
    go_wp2_with fail
    refine (C.out _).mono ?_
    rintro e w1 ⟨rfl, hb1⟩
    have hB1 := below_step (below_new w _) (Nat.le_refl _) hb1
    clear C hb1
    go_wp2_with fail
    go_ret
    exact ⟨rfl, hB1⟩


set_option maxRecDepth 100000 in
set_option maxHeartbeats 2000000 in
theorem mayHold_any (s : Int × Int) (w : World) : Calls Tryd.prog 52 #[stampV s] w fun e w' => e = .returned (.bool (decide (ParS s))) ∧ Below w.heap.size w w' := by
  have CT' := fun w => isTop_any s w
  have CS' := fun w => isStamp_any s w
  have hp : ParS s ↔ (MayS s ∨ s = (0, 0) ∨ s = (0, 1)) := by
    obtain ⟨t, u⟩ := s
    simp only [ParS, Prod.mk.injEq]
    constructor
    · rintro (h | ⟨h1, h2 | h2⟩)
      · exact .inl h
      · exact .inr (.inl ⟨h1, h2⟩)
      · exact .inr (.inr ⟨h1, h2⟩)
    · rintro (h | ⟨h1, h2⟩ | ⟨h1, h2⟩)
      · exact .inl h
      · exact .inr ⟨h1, .inl h2⟩
      · exact .inr ⟨h1, .inr h2⟩
  obtain ⟨D, hD⟩ : ∃ D, decide (ParS s) = D := ⟨_, rfl⟩
  obtain ⟨B, hB⟩ : ∃ B, (decide (s = (0, 0)) || decide (s = (0, 1))) = B := ⟨_, rfl⟩
  obtain ⟨A, hA⟩ : ∃ A, decide (MayS s) = A := ⟨_, rfl⟩
  have hd : D = (B || A) := by
    rw [← hD, ← hB, ← hA]
    by_cases h : ParS s
    · rw [decide_eq_true h]
      rcases hp.1 h with h1 | h1 | h1
      · rw [decide_eq_true h1, Bool.or_true]
      · rw [decide_eq_true h1, Bool.true_or, Bool.true_or]
      · rw [decide_eq_true h1, Bool.or_true, Bool.true_or]
    · rw [decide_eq_false h, decide_eq_false (fun k => h (hp.2 (.inl k))), decide_eq_false (fun k => h (hp.2 (.inr (.inl k)))), decide_eq_false (fun k => h (hp.2 (.inr (.inr k))))]
      rfl
  rw [hD]
  rw [hB] at CT'
  rw [hA] at CS'
  clear hD hB hA hp
  obtain ⟨t, u⟩ := s
  have CT : Hid (∀ w, Calls Tryd.prog 56 #[.agg #[.int .i64 t, .int .i64 u]] w fun e w' => e = .returned (.bool B) ∧ Below w.heap.size w w') := CT'
  have CS : Hid (∀ w, Calls Tryd.prog 48 #[.agg #[.int .i64 t, .int .i64 u]] w fun e w' => e = .returned (.bool A) ∧ Below w.heap.size w w') := CS'
  clear CT' CS'
  show Calls Tryd.prog _ #[.agg #[.int .i64 t, .int .i64 u]] w _
  cases B with
  | true =>
    obtain rfl : D = true := hd
    clear CS
    go_enter Tryd.func52, Tryd.ntmps52
    go_wp2_with fail
    refine (CT.out _).mono ?_
    rintro e w1 ⟨rfl, hb1⟩
    have c0 : w1.cell? ⟨w.heap.size, 0, none⟩ = some (.int .i64 t) := by rw [hb1.cell (p := ⟨w.heap.size, 0, none⟩) (by simp)]; simp
    have c1 : w1.cell? ⟨w.heap.size, 1, none⟩ = some (.int .i64 u) := by rw [hb1.cell (p := ⟨w.heap.size, 1, none⟩) (by simp)]; simp
    have hB1 := below_step (below_new w _) (Nat.le_refl _) hb1
    clear CT hb1
    go_wp2_with fail
    go_ret
    exact ⟨rfl, hB1⟩
  | false =>
    obtain rfl : D = A := hd
    go_enter Tryd.func52, Tryd.ntmps52
    go_wp2_with fail
    refine (CT.out _).mono ?_
    rintro e w1 ⟨rfl, hb1⟩
    have c0 : w1.cell? ⟨w.heap.size, 0, none⟩ = some (.int .i64 t) := by rw [hb1.cell (p := ⟨w.heap.size, 0, none⟩) (by simp)]; simp
    have c1 : w1.cell? ⟨w.heap.size, 1, none⟩ = some (.int .i64 u) := by rw [hb1.cell (p := ⟨w.heap.size, 1, none⟩) (by simp)]; simp
    have hB1 := below_step (below_new w _) (Nat.le_refl _) hb1
    clear CT hb1
    go_wp2_with fail
    refine (CS.out _).mono ?_
    rintro e w2 ⟨rfl, hb2⟩
    have hB2 := below_step hB1 (Nat.le_refl _) hb2
    clear CS hB1 hb2 c0 c1
    go_wp2_with fail
    go_ret
    exact ⟨rfl, hB2⟩

set_option maxHeartbeats 1000000 in
theorem isValue_any (s : ByteArray) (w : World) (hs : s.size ≤ 9223372036854775807) : Calls Tryd.prog 54 #[.string s] w fun e w' => e = .returned (.bool (decide (s.size ≤ 64))) ∧ w' = w := by
  obtain ⟨D, hD⟩ : ∃ D, decide (s.size ≤ 64) = D := ⟨_, rfl⟩
  rw [hD]
  by_cases h : s.size ≤ 64
  · obtain rfl : D = true := by rw [← hD]; exact decide_eq_true h
    have g : decide ((s.size : Int) ≤ 64) = true := by simp; omega
    clear hD
    go_enter Tryd.func54, Tryd.ntmps54
    go_wp2
    go_ret
    exact ⟨rfl, rfl⟩
  · obtain rfl : D = false := by rw [← hD]; exact decide_eq_false h
    have g : decide ((s.size : Int) ≤ 64) = false := by simp; omega
    clear hD
    go_enter Tryd.func54, Tryd.ntmps54
    go_wp2
    go_ret
    exact ⟨rfl, rfl⟩
end Go.Proofs.YtkmdajenbidaaaaDoor
