/- The code's See, Next (layer 10). -/
import Derived.Test.YtegbjglkglmgiaaCkB
namespace Go.Proofs.Ytegbjglkglmgiaa
open Go.RowKit
set_option linter.unusedSimpArgs false

set_option maxRecDepth 100000 in
set_option maxHeartbeats 2000000 in
theorem csee_any (g : Nat) (c s : Int × Int) (w : World) (h : ClockAt w g c) :
    Calls Try.prog 18 #[.pointer (some ⟨g, 0, none⟩), stampV s] w fun e w' => e = .returned (.int .i64 (if MayS s then 0 else 1)) ∧ ClockTo w g (seeP c s) w' := by
  have C' := fun w => checkS_any s w
  unfold seeP
  obtain ⟨p, q⟩ := c
  obtain ⟨t, u⟩ := s
  have A1 : Hid (ClockAt (w.alloc (.cells #[.int .i64 t, .int .i64 u] 23)) g (p, q)) := h.on (below_new w _)
  have A2 : Hid (Blk (w.alloc (.cells #[.int .i64 t, .int .i64 u] 23)) 23 w.heap.size #[.int .i64 t, .int .i64 u]) := Blk.new _ _ _
  have HC : Hid (∀ w', w' = w.alloc (.cells #[.int .i64 t, .int .i64 u] 23) → Calls Try.prog 24 #[.pointer (some ⟨g, 0, none⟩)] w' fun e w'' => e = .returned (.bool true) ∧ w'' = w') := fun w' e => by subst e; exact cgiven_any g _ _ A1.out
  have hq1 : Hid (0 ≤ q ∧ q ≤ 1099511627775) := h.2
  show Calls Try.prog _ #[.pointer (some ⟨g, 0, none⟩), .agg #[.int .i64 t, .int .i64 u]] w _
  clear h
  by_cases h : MayS (t, u)
  · rw [if_pos h] at C' ⊢
    rw [if_pos h]
    have C : Hid (∀ w, Calls Try.prog 11 #[.agg #[.int .i64 t, .int .i64 u]] w fun e w' => e = .returned (.int .i64 0) ∧ Below w.heap.size w w') := C'
    have ht : Hid (1 ≤ t ∧ t ≤ 1099511627775) := ⟨h.1, h.2.1⟩
    clear C' h
    by_cases hqt : q < t
    · have m0 : ¬ (t < q) := by omega
      show Calls _ _ _ _ fun e w' => e = _ ∧ ClockTo w g (p, max q t) w'
      rw [show max q t = t by omega]
      go_enter Try.func18, Try.ntmps18
      go_wp2_with fail
      refine (HC.out _ rfl).mono ?_
      rintro e w1 ⟨rfl, hw1⟩
      subst hw1
      go_wp2_with fail
      refine (C.out _).mono ?_
      rintro e w1 ⟨rfl, hb1⟩
      have X1 : Hid (ClockAt w1 g (p, q)) := A1.out.on hb1
      have X2 : Blk w1 23 w.heap.size #[.int .i64 t, .int .i64 u] := A2.out.on hb1
      have c2 : w1.cell? ⟨g, 2, none⟩ = some (.int .i64 q) := X1.out.1.cell 2
      have f2 := X1.out.1.free 2
      have d0 : w1.cell? ⟨w.heap.size, 0, none⟩ = some (.int .i64 t) := X2.cell 0
      have B1 : Hid (Below w.heap.size w w1) := below_step (below_new w _) (Nat.le_refl _) hb1
      clear C A1 A2 HC hb1 X2
      go_wp2
      go_region
      all_goals go_wp2
      all_goals go_ret
      all_goals refine ⟨rfl, ⟨show Blk _ _ _ _ from X1.out.1.setAt 2 _, show 0 ≤ t by have := ht.out; omega, ht.out.2⟩, ?_⟩
      all_goals exact ((Kept2.ofBelow g none B1.out).setCell ⟨g, 2, none⟩ rfl _).drew
    · have m1 : t ≤ q := by omega
      show Calls _ _ _ _ fun e w' => e = _ ∧ ClockTo w g (p, max q t) w'
      rw [show max q t = q by omega]
      go_enter Try.func18, Try.ntmps18
      go_wp2_with fail
      refine (HC.out _ rfl).mono ?_
      rintro e w1 ⟨rfl, hw1⟩
      subst hw1
      go_wp2_with fail
      refine (C.out _).mono ?_
      rintro e w1 ⟨rfl, hb1⟩
      have X1 : Hid (ClockAt w1 g (p, q)) := A1.out.on hb1
      have X2 : Blk w1 23 w.heap.size #[.int .i64 t, .int .i64 u] := A2.out.on hb1
      have c2 : w1.cell? ⟨g, 2, none⟩ = some (.int .i64 q) := X1.out.1.cell 2
      have f2 := X1.out.1.free 2
      have d0 : w1.cell? ⟨w.heap.size, 0, none⟩ = some (.int .i64 t) := X2.cell 0
      have B1 : Hid (Below w.heap.size w w1) := below_step (below_new w _) (Nat.le_refl _) hb1
      clear C A1 A2 HC hb1 X2
      go_wp2
      go_region
      all_goals go_wp2
      all_goals go_ret
      all_goals refine ⟨rfl, ⟨show Blk _ _ _ _ from X1.out.1.setAt 2 _, hq1.out⟩, ?_⟩
      all_goals exact ((Kept2.ofBelow g none B1.out).setCell ⟨g, 2, none⟩ rfl _).drew
  · rw [if_neg h] at C' ⊢
    rw [if_neg h]
    have C : Hid (∀ w, Calls Try.prog 11 #[.agg #[.int .i64 t, .int .i64 u]] w fun e w' => e = .returned (.int .i64 1) ∧ Below w.heap.size w w') := C'
    clear C' h
    go_enter Try.func18, Try.ntmps18
    go_wp2_with fail
    refine (HC.out _ rfl).mono ?_
    rintro e w1 ⟨rfl, hw1⟩
    subst hw1
    go_wp2_with fail
    refine (C.out _).mono ?_
    rintro e w1 ⟨rfl, hb1⟩
    have X1 : Hid (ClockAt w1 g (p, q)) := A1.out.on hb1
    have X2 : Blk w1 23 w.heap.size #[.int .i64 t, .int .i64 u] := A2.out.on hb1
    have c2 : w1.cell? ⟨g, 2, none⟩ = some (.int .i64 q) := X1.out.1.cell 2
    have f2 := X1.out.1.free 2
    have d0 : w1.cell? ⟨w.heap.size, 0, none⟩ = some (.int .i64 t) := X2.cell 0
    have B1 : Hid (Below w.heap.size w w1) := below_step (below_new w _) (Nat.le_refl _) hb1
    clear C A1 A2 HC hb1 X2
    go_wp2
    go_ret
    exact ⟨rfl, X1.out, Kept2.ofBelow g none B1.out⟩

set_option maxRecDepth 100000 in
set_option maxHeartbeats 2000000 in
theorem csee_no (p : Value) (s : Int × Int) (w : World) (h : NoClock w p) :
    Calls Try.prog 18 #[p, stampV s] w fun e w' => e = .returned (.int .i64 1) ∧ Below w.heap.size w w' := by
  obtain ⟨t, u⟩ := s
  have HC : Hid (∀ w', w' = w.alloc (.cells #[.int .i64 t, .int .i64 u] 23) → Calls Try.prog 24 #[p] w' fun e w'' => e = .returned (.bool false) ∧ w'' = w') := fun w' e => by subst e; exact cgiven_no p _ (h.on (below_new w _))
  show Calls Try.prog _ #[p, .agg #[.int .i64 t, .int .i64 u]] w _
  clear h
  go_enter Try.func18, Try.ntmps18
  go_wp2_with fail
  refine (HC.out _ rfl).mono ?_
  rintro e w1 ⟨rfl, hw1⟩
  subst hw1
  go_wp2
  go_ret
  exact ⟨rfl, below_new w _⟩

set_option maxRecDepth 100000 in
set_option maxHeartbeats 2000000 in
theorem cnext_no (p : Value) (w : World) (h : NoClock w p) :
    Calls Try.prog 15 #[p] w fun e w' => e = .returned (.tuple #[stampV (0, 0), .int .i64 1]) ∧ Below w.heap.size w w' := by
  have HC : Hid (∀ w', w' = w.alloc (.cells #[.int .i64 0, .int .i64 0] 23) → Calls Try.prog 24 #[p] w' fun e w'' => e = .returned (.bool false) ∧ w'' = w') := fun w' e => by subst e; exact cgiven_no p _ (h.on (below_new w _))
  clear h
  go_enter Try.func15, Try.ntmps15
  go_wp2_with fail
  refine (HC.out _ rfl).mono ?_
  rintro e w1 ⟨rfl, hw1⟩
  subst hw1
  go_wp2
  exact bodyPost_rowTmp rfl w.heap.size #[.int .i64 0, .int .i64 0] _ rfl rfl rfl (Blk.new _ _ _) _ Try.underlying23 rfl (by kernel_rfl) ⟨rfl, below_new w _⟩

set_option maxRecDepth 100000 in
set_option maxHeartbeats 2000000 in
theorem cnext_any (g : Nat) (c : Int × Int) (w : World) (h : ClockAt w g c) :
    Calls Try.prog 15 #[.pointer (some ⟨g, 0, none⟩)] w fun e w' => e = .returned (.tuple #[stampV (nextP10 c).2.1, .int .i64 (nextP10 c).2.2]) ∧ ClockTo w g (nextP10 c).1 w' := by
  unfold nextP10
  obtain ⟨p, q⟩ := c
  have hlt := h.1.lt
  have A1 : Hid (ClockAt (w.alloc (.cells #[.int .i64 0, .int .i64 0] 23)) g (p, q)) := h.on (below_new w _)
  have HC : Hid (∀ w', w' = w.alloc (.cells #[.int .i64 0, .int .i64 0] 23) → Calls Try.prog 24 #[.pointer (some ⟨g, 0, none⟩)] w' fun e w'' => e = .returned (.bool true) ∧ w'' = w') := fun w' e => by subst e; exact cgiven_any g _ _ A1.out
  have c2 : (w.alloc (.cells #[.int .i64 0, .int .i64 0] 23)).cell? ⟨g, 2, none⟩ = some (.int .i64 q) := A1.out.1.cell 2
  have c1 : (w.alloc (.cells #[.int .i64 0, .int .i64 0] 23)).cell? ⟨g, 1, none⟩ = some (.int .i64 p) := A1.out.1.cell 1
  have f2 := A1.out.1.free 2
  have hq : Hid (0 ≤ q ∧ q ≤ 1099511627775) := h.2
  clear h
  show Calls Try.prog _ _ w _
  by_cases h : 1099511627775 ≤ q
  · rw [if_pos h]
    have e : q = 1099511627775 := by have := hq.out; omega
    subst e
    clear h
    go_enter Try.func15, Try.ntmps15
    go_wp2_with fail
    refine (HC.out _ rfl).mono ?_
    rintro e w1 ⟨rfl, hw1⟩
    subst hw1
    go_wp2
    exact bodyPost_rowTmp rfl w.heap.size #[.int .i64 0, .int .i64 0] _ rfl rfl rfl (Blk.new _ _ _) _ Try.underlying23 rfl (by kernel_rfl) ⟨rfl, A1.out, Kept2.ofBelow g none (below_new w _)⟩
  · rw [if_neg h]
    have g0 : (q == 1099511627775) = false := by rw [beq_eq_false_iff_ne]; omega
    have hw : IntKind.i64.wrap (q + 1) = q + 1 := by have := hq.out; rw [IntKind.wrap_i64]; omega
    have hne : ¬ (w.heap.size = g) := by omega
    have hne' : ¬ (g = w.heap.size) := by omega
    have h1 : Hid (0 ≤ q + 1 ∧ q + 1 ≤ 1099511627775) := by have := hq.out; exact ⟨by omega, by omega⟩
    have A2 : Hid (Blk (w.alloc (.cells #[.int .i64 0, .int .i64 0] 23)) 23 w.heap.size #[.int .i64 0, .int .i64 0]) := Blk.new _ _ _
    have HB : Hid (Below w.heap.size w (w.alloc (.cells #[.int .i64 0, .int .i64 0] 23))) := below_new w _
    obtain ⟨b, hb⟩ : ∃ b, b = w.heap.size := ⟨_, rfl⟩
    rw [← hb] at hne hne' A2
    clear h
    go_enter Try.func15, Try.ntmps15
    go_wp2_with fail
    refine (HC.out _ rfl).mono ?_
    rintro e w1 ⟨rfl, hw1⟩
    subst hw1
    rw [← hb]
    generalize (w.alloc (.cells #[.int .i64 0, .int .i64 0] 23)) = W1 at *
    have d0 : W1.cell? ⟨b, 0, none⟩ = some (.int .i64 0) := A2.out.cell 0
    have d1 : W1.cell? ⟨b, 1, none⟩ = some (.int .i64 0) := A2.out.cell 1
    have e0 := A2.out.free 0
    have e1 := A2.out.free 1
    have HBb : Hid (b = w.heap.size) := hb
    clear hb
    go_wp2
    go_region
    all_goals go_wp2
    all_goals refine bodyPost_rowTmp rfl b #[.int .i64 (q + 1), .int .i64 p] _ rfl rfl rfl (show Blk _ _ _ _ from ((A2.out.other ⟨g, 2, none⟩ hne _).setAt 0 _).setAt 1 _) _ Try.underlying23 rfl (by kernel_rfl) ⟨rfl, ⟨show Blk _ _ _ _ from ((A1.out.1.setAt 2 _).other ⟨b, 0, none⟩ hne' _).other ⟨b, 1, none⟩ hne' _, h1.out⟩, ?_⟩
    all_goals exact ((((Kept2.ofBelow g none HB.out).setCell ⟨g, 2, none⟩ rfl _).setNew ⟨b, 0, none⟩ (Nat.le_of_eq HBb.out.symm) _).setNew ⟨b, 1, none⟩ (Nat.le_of_eq HBb.out.symm) _).drew
end Go.Proofs.Ytegbjglkglmgiaa
