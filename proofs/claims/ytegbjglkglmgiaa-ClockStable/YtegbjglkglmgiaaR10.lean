import Derived.Test.YtegbjglkglmgiaaG
import Derived.Test.YtegbjglkglmgiaaOpenP
import Derived.Test.YtegbjglkglmgiaaL1
/- The document's May, Check, Less, See, Next (layer 10). -/
namespace Go.Proofs.Ytegbjglkglmgiaa
open Go.RowKit
set_option linter.unusedSimpArgs false

/-- May a stamp be one of an operation? -/
abbrev MayS (s : Int × Int) : Prop := 1 ≤ s.1 ∧ s.1 ≤ 1099511627775 ∧ 1 ≤ s.2 ∧ s.2 ≤ 6
def stampV (s : Int × Int) : Value := .agg #[.int .i64 s.1, .int .i64 s.2]
set_option maxRecDepth 100000 in
set_option maxHeartbeats 2000000 in
theorem rmayS_any (s : Int × Int) (w : World) :
    Calls Try.prog 23 #[stampV s] w fun e w' => e = .returned (.bool (decide (MayS s))) ∧ Below w.heap.size w w' := by
  obtain ⟨t, u⟩ := s
  obtain ⟨D, hD'⟩ : ∃ D, decide (MayS (t, u)) = D := ⟨_, rfl⟩
  rw [hD']
  show Calls Try.prog _ #[.agg #[.int .i64 t, .int .i64 u]] w _
  by_cases h1 : 1 ≤ t
  · have g1 : decide (1 ≤ t) = true := by simp; omega
    by_cases h2 : t ≤ 1099511627775
    · have g2 : decide (t ≤ 1099511627775) = true := by simp; omega
      by_cases h3 : 1 ≤ u
      · have g3 : decide (1 ≤ u) = true := by simp; omega
        by_cases h4 : u ≤ 6
        · have g4 : decide (u ≤ 6) = true := by simp; omega
          have hD : D = true := by rw [← hD']; exact decide_eq_true ⟨h1, h2, h3, h4⟩
          subst hD
          clear hD'
          go_enter Try.func23, Try.ntmps23
          go_wp2
          go_ret
          exact ⟨rfl, below_new w _⟩
        · have g4 : decide (u ≤ 6) = false := by simp; omega
          have hD : D = false := by rw [← hD']; exact decide_eq_false (fun h => h4 h.2.2.2)
          subst hD
          clear hD'
          go_enter Try.func23, Try.ntmps23
          go_wp2
          go_ret
          exact ⟨rfl, below_new w _⟩
      · have g3 : decide (1 ≤ u) = false := by simp; omega
        have hD : D = false := by rw [← hD']; exact decide_eq_false (fun h => h3 h.2.2.1)
        subst hD
        clear hD'
        go_enter Try.func23, Try.ntmps23
        go_wp2
        go_ret
        exact ⟨rfl, below_new w _⟩
    · have g2 : decide (t ≤ 1099511627775) = false := by simp; omega
      have hD : D = false := by rw [← hD']; exact decide_eq_false (fun h => h2 h.2.1)
      subst hD
      clear hD'
      go_enter Try.func23, Try.ntmps23
      go_wp2
      go_ret
      exact ⟨rfl, below_new w _⟩
  · have g1 : decide (1 ≤ t) = false := by simp; omega
    have hD : D = false := by rw [← hD']; exact decide_eq_false (fun h => h1 h.1)
    subst hD
    clear hD'
    go_enter Try.func23, Try.ntmps23
    go_wp2
    go_ret
    exact ⟨rfl, below_new w _⟩

set_option maxHeartbeats 2000000 in
theorem rcheckS_any (s : Int × Int) (w : World) :
    Calls Try.prog 12 #[stampV s] w fun e w' => e = .returned (.int .i64 (if MayS s then 0 else 1)) ∧ Below w.heap.size w w' := by
  have C' := fun w => rmayS_any s w
  by_cases h : MayS s
  · rw [decide_eq_true h] at C'
    rw [if_pos h]
    obtain ⟨t, u⟩ := s
    have C : Hid (∀ w, Calls Try.prog 23 #[.agg #[.int .i64 t, .int .i64 u]] w fun e w' => e = .returned (.bool true) ∧ Below w.heap.size w w') := C'
    show Calls Try.prog _ #[.agg #[.int .i64 t, .int .i64 u]] w _
    clear C' h
    go_enter Try.func12, Try.ntmps12
    go_wp2_with fail
    refine (C.out _).mono ?_
    rintro e w1 ⟨rfl, hb1⟩
    have hB1 := below_step (below_new w _) (Nat.le_refl _) hb1
    clear C hb1
    go_wp2_with fail
    go_ret
    exact ⟨rfl, hB1⟩
  · rw [decide_eq_false h] at C'
    rw [if_neg h]
    obtain ⟨t, u⟩ := s
    have C : Hid (∀ w, Calls Try.prog 23 #[.agg #[.int .i64 t, .int .i64 u]] w fun e w' => e = .returned (.bool false) ∧ Below w.heap.size w w') := C'
    show Calls Try.prog _ #[.agg #[.int .i64 t, .int .i64 u]] w _
    clear C' h
    go_enter Try.func12, Try.ntmps12
    go_wp2_with fail
    refine (C.out _).mono ?_
    rintro e w1 ⟨rfl, hb1⟩
    have hB1 := below_step (below_new w _) (Nat.le_refl _) hb1
    clear C hb1
    go_wp2_with fail
    go_ret
    exact ⟨rfl, hB1⟩

/-- Which of two stamps stands ahead. -/
abbrev LessS (a b : Int × Int) : Prop := a.1 < b.1 ∨ (a.1 = b.1 ∧ a.2 < b.2)
set_option maxRecDepth 100000 in
set_option maxHeartbeats 2000000 in
theorem rless_any (a b : Int × Int) (w : World) :
    Calls Try.prog 10 #[stampV a, stampV b] w fun e w' => e = .returned (.bool (decide (LessS a b))) ∧ Below w.heap.size w w' := by
  obtain ⟨t, u⟩ := a
  obtain ⟨x, y⟩ := b
  obtain ⟨D, hD'⟩ : ∃ D, decide (LessS (t, u) (x, y)) = D := ⟨_, rfl⟩
  rw [hD']
  show Calls Try.prog _ #[.agg #[.int .i64 t, .int .i64 u], .agg #[.int .i64 x, .int .i64 y]] w _
  by_cases h1 : t < x
  · have g1 : decide (t < x) = true := by simp; omega
    have hD : D = true := by rw [← hD']; exact decide_eq_true (.inl h1)
    subst hD
    clear hD'
    go_enter Try.func10, Try.ntmps10
    go_wp2
    go_ret
    exact ⟨rfl, (below_new w _).alloc (by simp) _⟩
  · have g1 : decide (t < x) = false := by simp; omega
    by_cases h2 : t = x
    · have g2 : (t == x) = true := by rw [beq_iff_eq]; exact h2
      by_cases h3 : u < y
      · have g3 : decide (u < y) = true := by simp; omega
        have hD : D = true := by rw [← hD']; exact decide_eq_true (.inr ⟨h2, h3⟩)
        subst hD
        clear hD' h2
        go_enter Try.func10, Try.ntmps10
        go_wp2
        go_ret
        exact ⟨rfl, (below_new w _).alloc (by simp) _⟩
      · have g3 : decide (u < y) = false := by simp; omega
        have hD : D = false := by rw [← hD']; exact decide_eq_false (fun h => h.elim h1 (fun h => h3 h.2))
        subst hD
        clear hD' h2
        go_enter Try.func10, Try.ntmps10
        go_wp2
        go_ret
        exact ⟨rfl, (below_new w _).alloc (by simp) _⟩
    · have g2 : (t == x) = false := by rw [beq_eq_false_iff_ne]; exact h2
      have hD : D = false := by rw [← hD']; exact decide_eq_false (fun h => h.elim h1 (fun h => h2 h.1))
      subst hD
      clear hD'
      go_enter Try.func10, Try.ntmps10
      go_wp2
      go_ret
      exact ⟨rfl, (below_new w _).alloc (by simp) _⟩
end Go.Proofs.Ytegbjglkglmgiaa

/- The document's See, Next (layer 10). -/
namespace Go.Proofs.Ytegbjglkglmgiaa
open Go.RowKit
set_option linter.unusedSimpArgs false

/-- A clock: who, and its time. -/
def seeP (c s : Int × Int) : Int × Int := if MayS s then (c.1, max c.2 s.1) else c

set_option maxRecDepth 100000 in
set_option maxHeartbeats 2000000 in
theorem rsee_any (c s : Int × Int) (w : World) :
    Calls Try.prog 17 #[stampV c, stampV s] w fun e w' => e = .returned (.tuple #[stampV (seeP c s), .int .i64 (if MayS s then 0 else 1)]) ∧ Below w.heap.size w w' := by
  have C' := fun w => rmayS_any s w
  unfold seeP
  obtain ⟨p, q⟩ := c
  have A1 : Hid (Blk (((w.alloc (.cells #[.int .i64 p, .int .i64 q] 34)).alloc (.cells #[.int .i64 s.1, .int .i64 s.2] 23)).alloc (.cells #[.int .i64 0, .int .i64 0] 34)) 34 w.heap.size #[.int .i64 p, .int .i64 q]) := ((Blk.new _ _ _).alloc _).alloc _
  have A2 : Hid (Blk (((w.alloc (.cells #[.int .i64 p, .int .i64 q] 34)).alloc (.cells #[.int .i64 s.1, .int .i64 s.2] 23)).alloc (.cells #[.int .i64 0, .int .i64 0] 34)) 23 (w.heap.size + 1) #[.int .i64 s.1, .int .i64 s.2]) := (Blk.new' _ _ _ _ (by simp)).alloc _
  have A3 : Hid (Blk (((w.alloc (.cells #[.int .i64 p, .int .i64 q] 34)).alloc (.cells #[.int .i64 s.1, .int .i64 s.2] 23)).alloc (.cells #[.int .i64 0, .int .i64 0] 34)) 34 (w.heap.size + 2) #[.int .i64 0, .int .i64 0]) := Blk.new' _ _ _ _ (by simp)
  have AB : Below w.heap.size w (((w.alloc (.cells #[.int .i64 p, .int .i64 q] 34)).alloc (.cells #[.int .i64 s.1, .int .i64 s.2] 23)).alloc (.cells #[.int .i64 0, .int .i64 0] 34)) := ((below_new w _).alloc (by simp) _).alloc (by simp; omega) _
  by_cases h : MayS s
  · rw [decide_eq_true h] at C'
    rw [if_pos h, if_pos h]
    obtain ⟨t, u⟩ := s
    have C : Hid (∀ w, Calls Try.prog 23 #[.agg #[.int .i64 t, .int .i64 u]] w fun e w' => e = .returned (.bool true) ∧ Below w.heap.size w w') := C'
    show Calls Try.prog _ #[.agg #[.int .i64 p, .int .i64 q], .agg #[.int .i64 t, .int .i64 u]] w _
    clear C' h
    by_cases hqt : q < t
    · have m0 : ¬ (t < q) := by omega
      rw [show max q t = t by omega]
      go_enter Try.func17, Try.ntmps17
      go_wp2_with fail
      refine (C.out _).mono ?_
      rintro e w1 ⟨rfl, hb1⟩
      have X1 : Blk w1 34 w.heap.size #[.int .i64 p, .int .i64 q] := A1.out.on hb1
      have X2 : Blk w1 23 (w.heap.size + 1) #[.int .i64 t, .int .i64 u] := A2.out.on hb1
      have X3 : Blk w1 34 (w.heap.size + 2) #[.int .i64 0, .int .i64 0] := A3.out.on hb1
      have c0 := X1.cell 0
      have c1 := X1.cell 1
      have d0 := X2.cell 0
      have f1 := X1.free 1
      simp only [List.getElem?_toArray, List.getElem?_cons_zero, List.getElem?_cons_succ] at c0 c1 d0
      have B1 := below_step AB (Nat.le_refl _) hb1
      clear C A1 A2 A3 AB hb1
      have Y3 : Blk (w1.setCell ⟨w.heap.size, 1, none⟩ (.int .i64 t)) 34 (w.heap.size + 2) #[.int .i64 0, .int .i64 0] := X3.other _ (by simp) _
      have B2 : Below w.heap.size w (w1.setCell ⟨w.heap.size, 1, none⟩ (.int .i64 t)) := B1.setCell (p := ⟨w.heap.size, 1, none⟩) (Nat.le_refl _) _
      go_wp2_with (with_reducible refine wpList_storeBlkH rfl 34 _ _ rfl (w.heap.size + 2) #[.int .i64 0, .int .i64 0] #[.int .i64 p, .int .i64 t] ?hx ?hy Y3 rfl ?hi ?h1 ?_)
      case hx => rfl
      case hy => rfl
      case hi => kernel_rfl
      case h1 => simp [Value.oneCell']
      unfold Hid
      go_wp2
      exact bodyPost_rowTmp rfl (w.heap.size + 2) #[.int .i64 p, .int .i64 t] _ rfl rfl rfl (Y3.setRow _) _ Try.underlying34 rfl (by kernel_rfl) ⟨rfl, below_setRow B2 (by omega) _⟩
    · have m1 : t ≤ q := by omega
      rw [show max q t = q by omega]
      go_enter Try.func17, Try.ntmps17
      go_wp2_with fail
      refine (C.out _).mono ?_
      rintro e w1 ⟨rfl, hb1⟩
      have X1 : Blk w1 34 w.heap.size #[.int .i64 p, .int .i64 q] := A1.out.on hb1
      have X2 : Blk w1 23 (w.heap.size + 1) #[.int .i64 t, .int .i64 u] := A2.out.on hb1
      have X3 : Blk w1 34 (w.heap.size + 2) #[.int .i64 0, .int .i64 0] := A3.out.on hb1
      have c0 := X1.cell 0
      have c1 := X1.cell 1
      have d0 := X2.cell 0
      have f1 := X1.free 1
      simp only [List.getElem?_toArray, List.getElem?_cons_zero, List.getElem?_cons_succ] at c0 c1 d0
      have B1 := below_step AB (Nat.le_refl _) hb1
      clear C A1 A2 A3 AB hb1
      have Y3 : Blk (w1.setCell ⟨w.heap.size, 1, none⟩ (.int .i64 q)) 34 (w.heap.size + 2) #[.int .i64 0, .int .i64 0] := X3.other _ (by simp) _
      have B2 : Below w.heap.size w (w1.setCell ⟨w.heap.size, 1, none⟩ (.int .i64 q)) := B1.setCell (p := ⟨w.heap.size, 1, none⟩) (Nat.le_refl _) _
      go_wp2_with (with_reducible refine wpList_storeBlkH rfl 34 _ _ rfl (w.heap.size + 2) #[.int .i64 0, .int .i64 0] #[.int .i64 p, .int .i64 q] ?hx ?hy Y3 rfl ?hi ?h1 ?_)
      case hx => rfl
      case hy => rfl
      case hi => kernel_rfl
      case h1 => simp [Value.oneCell']
      unfold Hid
      go_wp2
      exact bodyPost_rowTmp rfl (w.heap.size + 2) #[.int .i64 p, .int .i64 q] _ rfl rfl rfl (Y3.setRow _) _ Try.underlying34 rfl (by kernel_rfl) ⟨rfl, below_setRow B2 (by omega) _⟩
  · rw [decide_eq_false h] at C'
    rw [if_neg h, if_neg h]
    obtain ⟨t, u⟩ := s
    have C : Hid (∀ w, Calls Try.prog 23 #[.agg #[.int .i64 t, .int .i64 u]] w fun e w' => e = .returned (.bool false) ∧ Below w.heap.size w w') := C'
    show Calls Try.prog _ #[.agg #[.int .i64 p, .int .i64 q], .agg #[.int .i64 t, .int .i64 u]] w _
    clear C' h
    go_enter Try.func17, Try.ntmps17
    go_wp2_with fail
    refine (C.out _).mono ?_
    rintro e w1 ⟨rfl, hb1⟩
    have X1 : Blk w1 34 w.heap.size #[.int .i64 p, .int .i64 q] := A1.out.on hb1
    have X2 : Blk w1 23 (w.heap.size + 1) #[.int .i64 t, .int .i64 u] := A2.out.on hb1
    have X3 : Blk w1 34 (w.heap.size + 2) #[.int .i64 0, .int .i64 0] := A3.out.on hb1
    have c0 := X1.cell 0
    have c1 := X1.cell 1
    have d0 := X2.cell 0
    have f1 := X1.free 1
    simp only [List.getElem?_toArray, List.getElem?_cons_zero, List.getElem?_cons_succ] at c0 c1 d0
    have B1 := below_step AB (Nat.le_refl _) hb1
    clear C A1 A2 A3 AB hb1
    go_wp2_with (with_reducible refine wpList_storeBlkH rfl 34 _ _ rfl (w.heap.size + 2) #[.int .i64 0, .int .i64 0] #[.int .i64 p, .int .i64 q] ?hx ?hy X3 rfl ?hi ?h1 ?_)
    case hx => rfl
    case hy => rfl
    case hi => kernel_rfl
    case h1 => simp [Value.oneCell']
    unfold Hid
    go_wp2
    exact bodyPost_rowTmp rfl (w.heap.size + 2) #[.int .i64 p, .int .i64 q] _ rfl rfl rfl (X3.setRow _) _ Try.underlying34 rfl (by kernel_rfl) ⟨rfl, below_setRow B1 (by omega) _⟩
end Go.Proofs.Ytegbjglkglmgiaa

/- The document's Next (layer 10). -/
namespace Go.Proofs.Ytegbjglkglmgiaa
open Go.RowKit
set_option linter.unusedSimpArgs false

set_option maxRecDepth 100000 in
set_option maxHeartbeats 2000000 in
theorem rnext_spent (c : Int × Int) (w : World) (h : 1099511627775 ≤ c.2) :
    Calls Try.prog 16 #[stampV c] w fun e w' => e = .returned (.tuple #[stampV c, stampV (0, 0), .int .i64 150]) ∧ Below w.heap.size w w' := by
  obtain ⟨p, q⟩ := c
  show Calls Try.prog _ #[.agg #[.int .i64 p, .int .i64 q]] w _
  have g0 : decide (1099511627775 ≤ q) = true := by simp; exact h
  clear h
  go_enter Try.func16, Try.ntmps16
  go_wp2
  exact bodyPost_rowsTmp rfl (w.heap.size + 1) (w.heap.size + 2) #[.int .i64 p, .int .i64 q] #[.int .i64 0, .int .i64 0] _ rfl rfl rfl rfl ((Blk.new' _ _ _ _ (by simp)).alloc _) (Blk.new' _ _ _ _ (by simp)) _ _ Try.underlying34 rfl (by kernel_rfl) Try.underlying23 rfl (by kernel_rfl) ⟨rfl, ((below_new w _).alloc (by simp) _).alloc (by simp; omega) _⟩

set_option maxRecDepth 100000 in
set_option maxHeartbeats 2000000 in
theorem rnext_on (c : Int × Int) (w : World) (h : c.2 < 1099511627775) (h0 : -9223372036854775808 ≤ c.2) :
    Calls Try.prog 16 #[stampV c] w fun e w' => e = .returned (.tuple #[stampV (c.1, c.2 + 1), stampV (c.2 + 1, c.1), .int .i64 0]) ∧ Below w.heap.size w w' := by
  obtain ⟨p, q⟩ := c
  show Calls Try.prog _ #[.agg #[.int .i64 p, .int .i64 q]] w _
  have g0 : decide (1099511627775 ≤ q) = false := by simp; exact h
  have hw : IntKind.i64.wrap (q + 1) = q + 1 := by rw [IntKind.wrap_i64]; simp at h h0; omega
  clear h h0
  go_enter Try.func16, Try.ntmps16
  go_wp2
  go_region
  all_goals go_wp2
  all_goals exact bodyPost_rowsTmp rfl (w.heap.size + 1) (w.heap.size + 2) #[.int .i64 p, .int .i64 (q + 1)] #[.int .i64 (q + 1), .int .i64 p] _ rfl rfl rfl rfl (show Blk _ _ _ _ from (Blk.new' _ _ _ _ (by simp)).alloc _) (show Blk _ _ _ _ from Blk.new' _ _ _ _ (by simp)) _ _ Try.underlying34 rfl (by kernel_rfl) Try.underlying23 rfl (by kernel_rfl) ⟨rfl, (((below_new w _).alloc (by simp) _).alloc (by simp; omega) _).drew⟩

def nextP10 (c : Int × Int) : (Int × Int) × (Int × Int) × Int := if 1099511627775 ≤ c.2 then (c, (0, 0), 150) else ((c.1, c.2 + 1), (c.2 + 1, c.1), 0)
theorem rnext_any (c : Int × Int) (w : World) (h0 : -9223372036854775808 ≤ c.2) :
    Calls Try.prog 16 #[stampV c] w fun e w' => e = .returned (.tuple #[stampV (nextP10 c).1, stampV (nextP10 c).2.1, .int .i64 (nextP10 c).2.2]) ∧ Below w.heap.size w w' := by
  unfold nextP10
  by_cases h : 1099511627775 ≤ c.2
  · rw [if_pos h]; exact rnext_spent c w h
  · rw [if_neg h]; exact rnext_on c w (by omega) h0
end Go.Proofs.Ytegbjglkglmgiaa

/- The document's Stable (layer 10). -/
namespace Go.Proofs.Ytegbjglkglmgiaa
open Go.RowKit
set_option linter.unusedSimpArgs false

theorem StampsAt.below {w w' : World} {a : Option Addr} {n : Nat} {l : List (Int × Int)} (h : StampsAt w a n l) (hb : Below w.heap.size w w') : StampsAt w' a n l := by
  refine ⟨h.1, ?_⟩
  rcases h.2 with h0 | ⟨b, off, ha, hc⟩
  · exact .inl h0
  · refine .inr ⟨b, off, ha, fun i hi => ?_⟩
    obtain ⟨h1, h2⟩ := hc i hi
    have hlt := World.block_lt_of_cell? w _ h1
    exact ⟨by rw [hb.cell (p := ⟨b, off + i * 2, none⟩) hlt]; exact h1, by rw [hb.cell (p := ⟨b, off + i * 2 + 1, none⟩) hlt]; exact h2⟩
theorem StampsAt.some {w : World} {a : Option Addr} {n : Nat} {l : List (Int × Int)} (h : StampsAt w a n l) (hn : 0 < n) : ∃ b off, a = .some ⟨b, off, none⟩ ∧ ∀ i, i < n → w.cell? ⟨b, off + i * 2, none⟩ = .some (.int .i64 (stL l i).1) ∧ w.cell? ⟨b, off + i * 2 + 1, none⟩ = .some (.int .i64 (stL l i).2) := by
  rcases h.2 with h0 | h
  · omega
  · exact h
theorem IntsAt.some {w : World} {K : IntKind} {a : Option Addr} {n : Nat} {l : List Int} (h : IntsAt w K a n l) (hn : 0 < n) : ∃ b off, a = .some ⟨b, off, none⟩ ∧ ∀ i, i < n → w.cell? ⟨b, off + i, none⟩ = .some (.int K (l.getD i 0)) := by
  rcases h.2 with h0 | h
  · omega
  · exact h

/-- The last time that was seen of one, among the first k stamps; the least of these, of the first i clients. -/
def lastT (l : List (Int × Int)) (x : Int) : Nat → Int
  | 0 => 0
  | k + 1 => if MayS (stL l k) ∧ (stL l k).2 = x ∧ lastT l x k < (stL l k).1 then (stL l k).1 else lastT l x k
def leastT (l : List (Int × Int)) (who : List Int) : Nat → Int
  | 0 => 0
  | i + 1 => if i = 0 ∨ lastT l (who.getD i 0) l.length < leastT l who i then lastT l (who.getD i 0) l.length else leastT l who i

set_option maxRecDepth 100000 in
set_option maxHeartbeats 4000000 in
theorem rstable_any (l : List (Int × Int)) (who : List Int) (a a2 : Option Addr) (n m c c2 : Nat) (w : World) (hn : n ≤ 1048576) (hm : m ≤ 1048576) (hI : StampsAt w a n l) (hI2 : IntsAt w .i64 a2 m who) :
    Calls Try.prog 21 #[.slice a n c, .slice a2 m c2] w fun e w' => e = .returned (.int .i64 (leastT l who m)) ∧ Below w.heap.size w w' := by
  have HI : Hid (StampsAt w a n l) := hI
  have HI2 : Hid (IntsAt w .i64 a2 m who) := hI2
  have hln : l.length = n := hI.1
  clear hI hI2
  go_enter Try.func21, Try.ntmps21
  go_wp2_with fail
  go_loopw [5, 6] (fun v i wr => ∃ k : Nat, k ≤ m ∧ i = .int .i64 k ∧ v = .int .i64 (leastT l who k) ∧ Below w.heap.size w wr) (fun _ i _ => m - (intOf i).toNat)
  case atStart => exact ⟨0, Nat.zero_le _, rfl, rfl, Below.refl _ _⟩
  case round =>
    obtain ⟨i, hi, rfl, rfl, hbl⟩ := hrel
    by_cases hlt : i < m
    · obtain ⟨b2, off2, rfl, hcl2⟩ := HI2.out.some (by omega)
      have q2 := hcl2 i hlt
      obtain ⟨x, hx⟩ : ∃ x, x = who.getD i 0 := ⟨_, rfl⟩
      rw [← hx] at q2
      have b0 : (i : Int) < (m : Int) := by omega
      obtain ⟨E, HE⟩ : ∃ E, Hid (E = leastT l who i) := ⟨_, rfl⟩
      have HF : Hid (leastT l who (i + 1) = if i = 0 ∨ lastT l x n < E then lastT l x n else E) := by show _ = _; rw [HE.out, hx, ← hln]; rfl
      rw [← HE.out]
      clear hcl2 HE hx
      go_wp2_with fail
      go_loopw [7, 8] (fun v j wr => ∃ k : Nat, k ≤ n ∧ j = .int .i64 k ∧ v = .int .i64 (lastT l x k) ∧ Below w.heap.size w wr) (fun _ j _ => n - (intOf j).toNat)
      case atStart => exact ⟨0, Nat.zero_le _, rfl, rfl, hbl⟩
      case round =>
        clear hbl
        obtain ⟨k, hk, rfl, rfl, hbl⟩ := hrel
        by_cases hlt2 : k < n
        · obtain ⟨b, off, rfl, hcl⟩ := HI.out.some (by omega)
          obtain ⟨q0, q1⟩ := hcl k hlt2
          have d0 : (k : Int) < (n : Int) := by omega
          obtain ⟨s, hs⟩ : ∃ s, s = stL l k := ⟨_, rfl⟩
          rw [← hs] at q0 q1
          have C' := fun w => rmayS_any s w
          obtain ⟨L, HL⟩ : ∃ L, Hid (L = lastT l x k) := ⟨_, rfl⟩
          have HN : Hid (lastT l x (k + 1) = if MayS s ∧ s.2 = x ∧ L < s.1 then s.1 else L) := by show _ = _; rw [HL.out, hs]; rfl
          rw [← HL.out]
          clear hcl HL hs
          obtain ⟨t, u⟩ := s
          have r0 : wr.cell? ⟨b, off + k * 2, none⟩ = some (.int .i64 t) := by rw [hbl.cell (World.block_lt_of_cell? w _ q0)]; exact q0
          have r1 : wr.cell? ⟨b, off + k * 2 + 1, none⟩ = some (.int .i64 u) := by rw [hbl.cell (World.block_lt_of_cell? w _ q1)]; exact q1
          have r2 : wr.cell? ⟨b2, off2 + i, none⟩ = some (.int .i64 x) := by rw [hbl.cell (World.block_lt_of_cell? w _ q2)]; exact q2
          have hS0 : (wr.cell? ⟨b, off + k * 2, none⟩ = some (.int .i64 t) ∧ wr.cell? ⟨b, off + k * 2 + 1, none⟩ = some (.int .i64 u)) ∧ wr.cell? ⟨b2, off2 + i, none⟩ = some (.int .i64 x) := ⟨⟨r0, r1⟩, r2⟩
          clear r0 r1 r2
          by_cases hM : MayS (t, u)
          · rw [decide_eq_true hM] at C'
            have C : Hid (∀ w, Calls Try.prog 23 #[.agg #[.int .i64 t, .int .i64 u]] w fun e w' => e = .returned (.bool true) ∧ Below w.heap.size w w') := C'
            clear C'
            by_cases hu : u = x
            · have g1 : (u == x) = true := by rw [beq_iff_eq]; exact hu
              by_cases hL : L < t
              · have g2 : decide (L < t) = true := by simp; exact hL
                rw [if_pos ⟨hM, hu, hL⟩] at HN
                clear hM hu hL
                go_wp2_with fail
                refine wp_region_noPanic ?_
                refine wp_region_held_drew (S := fun W => (W.cell? ⟨b, off + k * 2, none⟩ = some (.int .i64 t) ∧ W.cell? ⟨b, off + k * 2 + 1, none⟩ = some (.int .i64 u)) ∧ W.cell? ⟨b2, off2 + i, none⟩ = some (.int .i64 x)) (by kernel_rfl) (by first | exact trivial | assumption | exact ⟨by assumption, by assumption⟩) (fun hHeld => ?_)
                refine take_at (i := 0) (v := ?_) rfl rfl (by kernel_rfl) (by kernel_rfl) (by kernel_rfl) (fun _ _ _ h => h) (Or.inl ⟨by rfl, ?_⟩) (by assumption) ?_
                rotate_left
                · intro w hSw; (try dsimp only at hSw); go_simp; try with_reducible rfl
                try simp only [Act.put, List.setIfInBounds_toArray, List.set_cons_zero, List.set_cons_succ]
                refine take_at (i := 1) (v := ?_) rfl rfl (by kernel_rfl) (by kernel_rfl) (by kernel_rfl) (fun _ _ _ h => h) (Or.inl ⟨by rfl, ?_⟩) (by assumption) ?_
                rotate_left
                · intro w hSw; (try dsimp only at hSw); go_simp; try with_reducible rfl
                try simp only [Act.put, List.setIfInBounds_toArray, List.set_cons_zero, List.set_cons_succ]
                refine take_at (i := 2) (v := ?_) rfl rfl (by kernel_rfl) (by kernel_rfl) (by kernel_rfl) (fun _ _ _ h => h) (Or.inl ⟨by rfl, ?_⟩) (by assumption) ?_
                rotate_left
                · intro w hSw; (try dsimp only at hSw); go_simp; try with_reducible rfl
                try simp only [Act.put, List.setIfInBounds_toArray, List.set_cons_zero, List.set_cons_succ]
                refine take_at (i := 3) (v := ?_) rfl rfl (by kernel_rfl) (by kernel_rfl) (by kernel_rfl) (fun _ _ _ h => h) (Or.inl ⟨by rfl, ?_⟩) (by assumption) ?_
                rotate_left
                · intro w hSw; (try dsimp only at hSw); go_simp; try with_reducible rfl
                try simp only [Act.put, List.setIfInBounds_toArray, List.set_cons_zero, List.set_cons_succ]
                refine wpAnyH_ready (rs := [4]) (by kernel_rfl) (by simp) ?_
                refine AllReadyH.cons rfl (fun K hK => ?_) AllReadyH.nil
                go_simp
                refine (C.out _).mono ?_
                rintro e w1 ⟨rfl, hb1⟩
                have hB1 : Below w.heap.size w w1 := below_step hbl.drew (Nat.le_refl _) hb1
                have hS1 : (w1.cell? ⟨b, off + k * 2, none⟩ = some (.int .i64 t) ∧ w1.cell? ⟨b, off + k * 2 + 1, none⟩ = some (.int .i64 u)) ∧ w1.cell? ⟨b2, off2 + i, none⟩ = some (.int .i64 x) := ⟨⟨by rw [hB1.cell (World.block_lt_of_cell? w _ q0)]; exact q0, by rw [hB1.cell (World.block_lt_of_cell? w _ q1)]; exact q1⟩, by rw [hB1.cell (World.block_lt_of_cell? w _ q2)]; exact q2⟩
                clear C hb1
                refine hK.out _ _ hS1 (fun hHeld => ?_)
                clear hK K
                refine take_at (i := 5) (v := ?_) rfl rfl (by kernel_rfl) (by kernel_rfl) (by kernel_rfl) (fun _ _ _ h => h) (Or.inl ⟨by rfl, ?_⟩) (by assumption) ?_
                rotate_left
                · intro w hSw; (try dsimp only at hSw); go_simp; try with_reducible rfl
                try simp only [Act.put, List.setIfInBounds_toArray, List.set_cons_zero, List.set_cons_succ]
                refine take_at (i := 6) (v := ?_) rfl rfl (by kernel_rfl) (by kernel_rfl) (by kernel_rfl) (fun _ _ _ h => h) (Or.inl ⟨by rfl, ?_⟩) (by assumption) ?_
                rotate_left
                · intro w hSw; (try dsimp only at hSw); go_simp; try with_reducible rfl
                try simp only [Act.put, List.setIfInBounds_toArray, List.set_cons_zero, List.set_cons_succ]
                refine take_at (i := 7) (v := ?_) rfl rfl (by kernel_rfl) (by kernel_rfl) (by kernel_rfl) (fun _ _ _ h => h) (Or.inl ⟨by rfl, ?_⟩) (by assumption) ?_
                rotate_left
                · intro w hSw; (try dsimp only at hSw); go_simp; try with_reducible rfl
                try simp only [Act.put, List.setIfInBounds_toArray, List.set_cons_zero, List.set_cons_succ]
                refine take_at (i := 8) (v := ?_) rfl rfl (by kernel_rfl) (by kernel_rfl) (by kernel_rfl) (fun _ _ _ h => h) (Or.inl ⟨by rfl, ?_⟩) (by assumption) ?_
                rotate_left
                · intro w hSw; (try dsimp only at hSw); go_simp; try with_reducible rfl
                try simp only [Act.put, List.setIfInBounds_toArray, List.set_cons_zero, List.set_cons_succ]
                refine take_at (i := 9) (v := ?_) rfl rfl (by kernel_rfl) (by kernel_rfl) (by kernel_rfl) (fun _ _ _ h => h) (Or.inl ⟨by rfl, ?_⟩) (by assumption) ?_
                rotate_left
                · intro w hSw; (try dsimp only at hSw); go_simp; try with_reducible rfl
                try simp only [Act.put, List.setIfInBounds_toArray, List.set_cons_zero, List.set_cons_succ]
                refine take_at (i := 10) (v := ?_) rfl rfl (by kernel_rfl) (by kernel_rfl) (by kernel_rfl) (fun _ _ _ h => h) (Or.inl ⟨by rfl, ?_⟩) (by assumption) ?_
                rotate_left
                · intro w hSw; (try dsimp only at hSw); go_simp; try with_reducible rfl
                try simp only [Act.put, List.setIfInBounds_toArray, List.set_cons_zero, List.set_cons_succ]
                refine take_at (i := 11) (v := ?_) rfl rfl (by kernel_rfl) (by kernel_rfl) (by kernel_rfl) (fun _ _ _ h => h) (Or.inl ⟨by rfl, ?_⟩) (by assumption) ?_
                rotate_left
                · intro w hSw; (try dsimp only at hSw); go_simp; try with_reducible rfl
                try simp only [Act.put, List.setIfInBounds_toArray, List.set_cons_zero, List.set_cons_succ]
                refine take_at (i := 12) (v := ?_) rfl rfl (by kernel_rfl) (by kernel_rfl) (by kernel_rfl) (fun _ _ _ h => h) (Or.inl ⟨by rfl, ?_⟩) (by assumption) ?_
                rotate_left
                · intro w hSw; (try dsimp only at hSw); go_simp; try with_reducible rfl
                try simp only [Act.put, List.setIfInBounds_toArray, List.set_cons_zero, List.set_cons_succ]
                refine take_at (i := 13) (v := ?_) rfl rfl (by kernel_rfl) (by kernel_rfl) (by kernel_rfl) (fun _ _ _ h => h) (Or.inl ⟨by rfl, ?_⟩) (by assumption) ?_
                rotate_left
                · intro w hSw; (try dsimp only at hSw); go_simp; try with_reducible rfl
                try simp only [Act.put, List.setIfInBounds_toArray, List.set_cons_zero, List.set_cons_succ]
                refine take_at (i := 14) (v := ?_) rfl rfl (by kernel_rfl) (by kernel_rfl) (by kernel_rfl) (fun _ _ _ h => h) (Or.inl ⟨by rfl, ?_⟩) (by assumption) ?_
                rotate_left
                · intro w hSw; (try dsimp only at hSw); go_simp; try with_reducible rfl
                try simp only [Act.put, List.setIfInBounds_toArray, List.set_cons_zero, List.set_cons_succ]
                refine take_at (i := 15) (v := ?_) rfl rfl (by kernel_rfl) (by kernel_rfl) (by kernel_rfl) (fun _ _ _ h => h) (Or.inl ⟨by rfl, ?_⟩) (by assumption) ?_
                rotate_left
                · intro w hSw; (try dsimp only at hSw); go_simp; try with_reducible rfl
                try simp only [Act.put, List.setIfInBounds_toArray, List.set_cons_zero, List.set_cons_succ]
                refine take_at (i := 16) (v := ?_) rfl rfl (by kernel_rfl) (by kernel_rfl) (by kernel_rfl) (fun _ _ _ h => h) (Or.inl ⟨by rfl, ?_⟩) (by assumption) ?_
                rotate_left
                · intro w hSw; (try dsimp only at hSw); go_simp; try with_reducible rfl
                try simp only [Act.put, List.setIfInBounds_toArray, List.set_cons_zero, List.set_cons_succ]
                refine take_at (i := 17) (v := ?_) rfl rfl (by kernel_rfl) (by kernel_rfl) (by kernel_rfl) (fun _ _ _ h => h) (Or.inl ⟨by rfl, ?_⟩) (by assumption) ?_
                rotate_left
                · intro w hSw; (try dsimp only at hSw); go_simp; try with_reducible rfl
                try simp only [Act.put, List.setIfInBounds_toArray, List.set_cons_zero, List.set_cons_succ]
                refine take_at (i := 18) (v := ?_) rfl rfl (by kernel_rfl) (by kernel_rfl) (by kernel_rfl) (fun _ _ _ h => h) (Or.inl ⟨by rfl, ?_⟩) (by assumption) ?_
                rotate_left
                · intro w hSw; (try dsimp only at hSw); go_simp; try with_reducible rfl
                try simp only [Act.put, List.setIfInBounds_toArray, List.set_cons_zero, List.set_cons_succ]
                refine take_at (i := 19) (v := ?_) rfl rfl (by kernel_rfl) (by kernel_rfl) (by kernel_rfl) (fun _ _ _ h => h) (Or.inl ⟨by rfl, ?_⟩) (by assumption) ?_
                rotate_left
                · intro w hSw; (try dsimp only at hSw); go_simp; try with_reducible rfl
                try simp only [Act.put, List.setIfInBounds_toArray, List.set_cons_zero, List.set_cons_succ]
                refine take_at (i := 20) (v := ?_) rfl rfl (by kernel_rfl) (by kernel_rfl) (by kernel_rfl) (fun _ _ _ h => h) (Or.inl ⟨by rfl, ?_⟩) (by assumption) ?_
                rotate_left
                · intro w hSw; (try dsimp only at hSw); go_simp; try with_reducible rfl
                try simp only [Act.put, List.setIfInBounds_toArray, List.set_cons_zero, List.set_cons_succ]
                refine take_at (i := 21) (v := ?_) rfl rfl (by kernel_rfl) (by kernel_rfl) (by kernel_rfl) (fun _ _ _ h => h) (Or.inl ⟨by rfl, ?_⟩) (by assumption) ?_
                rotate_left
                · intro w hSw; (try dsimp only at hSw); go_simp; try with_reducible rfl
                try simp only [Act.put, List.setIfInBounds_toArray, List.set_cons_zero, List.set_cons_succ]
                refine take_at (i := 22) (v := ?_) rfl rfl (by kernel_rfl) (by kernel_rfl) (by kernel_rfl) (fun _ _ _ h => h) (Or.inl ⟨by rfl, ?_⟩) (by assumption) ?_
                rotate_left
                · intro w hSw; (try dsimp only at hSw); go_simp; try with_reducible rfl
                try simp only [Act.put, List.setIfInBounds_toArray, List.set_cons_zero, List.set_cons_succ]
                refine take_at (i := 23) (v := ?_) rfl rfl (by kernel_rfl) (by kernel_rfl) (by kernel_rfl) (fun _ _ _ h => h) (Or.inl ⟨by rfl, ?_⟩) (by assumption) ?_
                rotate_left
                · intro w hSw; (try dsimp only at hSw); go_simp; try with_reducible rfl
                try simp only [Act.put, List.setIfInBounds_toArray, List.set_cons_zero, List.set_cons_succ]
                refine take_at (i := 24) (v := ?_) rfl rfl (by kernel_rfl) (by kernel_rfl) (by kernel_rfl) (fun _ _ _ h => h) (Or.inl ⟨by rfl, ?_⟩) (by assumption) ?_
                rotate_left
                · intro w hSw; (try dsimp only at hSw); go_simp; try with_reducible rfl
                try simp only [Act.put, List.setIfInBounds_toArray, List.set_cons_zero, List.set_cons_succ]
                refine take_at (i := 25) (v := ?_) rfl rfl (by kernel_rfl) (by kernel_rfl) (by kernel_rfl) (fun _ _ _ h => h) (Or.inl ⟨by rfl, ?_⟩) (by assumption) ?_
                rotate_left
                · intro w hSw; (try dsimp only at hSw); go_simp; try with_reducible rfl
                try simp only [Act.put, List.setIfInBounds_toArray, List.set_cons_zero, List.set_cons_succ]
                refine wpAnyH_done (by kernel_rfl) (NoPanic.normal ?_) _
                obtain ⟨⟨e0, e1⟩, e2⟩ := hS1
                go_wp2_with fail
                refine ⟨⟨k + 1, by omega, by go_num, by rw [HN.out], hB1⟩, ?_⟩
                simp [intOf]; omega
              · have g2 : decide (L < t) = false := by simp; omega
                rw [if_neg (fun h => hL h.2.2)] at HN
                clear hM hu hL
                go_wp2_with fail
                refine wp_region_noPanic ?_
                refine wp_region_held_drew (S := fun W => (W.cell? ⟨b, off + k * 2, none⟩ = some (.int .i64 t) ∧ W.cell? ⟨b, off + k * 2 + 1, none⟩ = some (.int .i64 u)) ∧ W.cell? ⟨b2, off2 + i, none⟩ = some (.int .i64 x)) (by kernel_rfl) (by first | exact trivial | assumption | exact ⟨by assumption, by assumption⟩) (fun hHeld => ?_)
                refine take_at (i := 0) (v := ?_) rfl rfl (by kernel_rfl) (by kernel_rfl) (by kernel_rfl) (fun _ _ _ h => h) (Or.inl ⟨by rfl, ?_⟩) (by assumption) ?_
                rotate_left
                · intro w hSw; (try dsimp only at hSw); go_simp; try with_reducible rfl
                try simp only [Act.put, List.setIfInBounds_toArray, List.set_cons_zero, List.set_cons_succ]
                refine take_at (i := 1) (v := ?_) rfl rfl (by kernel_rfl) (by kernel_rfl) (by kernel_rfl) (fun _ _ _ h => h) (Or.inl ⟨by rfl, ?_⟩) (by assumption) ?_
                rotate_left
                · intro w hSw; (try dsimp only at hSw); go_simp; try with_reducible rfl
                try simp only [Act.put, List.setIfInBounds_toArray, List.set_cons_zero, List.set_cons_succ]
                refine take_at (i := 2) (v := ?_) rfl rfl (by kernel_rfl) (by kernel_rfl) (by kernel_rfl) (fun _ _ _ h => h) (Or.inl ⟨by rfl, ?_⟩) (by assumption) ?_
                rotate_left
                · intro w hSw; (try dsimp only at hSw); go_simp; try with_reducible rfl
                try simp only [Act.put, List.setIfInBounds_toArray, List.set_cons_zero, List.set_cons_succ]
                refine take_at (i := 3) (v := ?_) rfl rfl (by kernel_rfl) (by kernel_rfl) (by kernel_rfl) (fun _ _ _ h => h) (Or.inl ⟨by rfl, ?_⟩) (by assumption) ?_
                rotate_left
                · intro w hSw; (try dsimp only at hSw); go_simp; try with_reducible rfl
                try simp only [Act.put, List.setIfInBounds_toArray, List.set_cons_zero, List.set_cons_succ]
                refine wpAnyH_ready (rs := [4]) (by kernel_rfl) (by simp) ?_
                refine AllReadyH.cons rfl (fun K hK => ?_) AllReadyH.nil
                go_simp
                refine (C.out _).mono ?_
                rintro e w1 ⟨rfl, hb1⟩
                have hB1 : Below w.heap.size w w1 := below_step hbl.drew (Nat.le_refl _) hb1
                have hS1 : (w1.cell? ⟨b, off + k * 2, none⟩ = some (.int .i64 t) ∧ w1.cell? ⟨b, off + k * 2 + 1, none⟩ = some (.int .i64 u)) ∧ w1.cell? ⟨b2, off2 + i, none⟩ = some (.int .i64 x) := ⟨⟨by rw [hB1.cell (World.block_lt_of_cell? w _ q0)]; exact q0, by rw [hB1.cell (World.block_lt_of_cell? w _ q1)]; exact q1⟩, by rw [hB1.cell (World.block_lt_of_cell? w _ q2)]; exact q2⟩
                clear C hb1
                refine hK.out _ _ hS1 (fun hHeld => ?_)
                clear hK K
                refine take_at (i := 5) (v := ?_) rfl rfl (by kernel_rfl) (by kernel_rfl) (by kernel_rfl) (fun _ _ _ h => h) (Or.inl ⟨by rfl, ?_⟩) (by assumption) ?_
                rotate_left
                · intro w hSw; (try dsimp only at hSw); go_simp; try with_reducible rfl
                try simp only [Act.put, List.setIfInBounds_toArray, List.set_cons_zero, List.set_cons_succ]
                refine take_at (i := 6) (v := ?_) rfl rfl (by kernel_rfl) (by kernel_rfl) (by kernel_rfl) (fun _ _ _ h => h) (Or.inl ⟨by rfl, ?_⟩) (by assumption) ?_
                rotate_left
                · intro w hSw; (try dsimp only at hSw); go_simp; try with_reducible rfl
                try simp only [Act.put, List.setIfInBounds_toArray, List.set_cons_zero, List.set_cons_succ]
                refine take_at (i := 7) (v := ?_) rfl rfl (by kernel_rfl) (by kernel_rfl) (by kernel_rfl) (fun _ _ _ h => h) (Or.inl ⟨by rfl, ?_⟩) (by assumption) ?_
                rotate_left
                · intro w hSw; (try dsimp only at hSw); go_simp; try with_reducible rfl
                try simp only [Act.put, List.setIfInBounds_toArray, List.set_cons_zero, List.set_cons_succ]
                refine take_at (i := 8) (v := ?_) rfl rfl (by kernel_rfl) (by kernel_rfl) (by kernel_rfl) (fun _ _ _ h => h) (Or.inl ⟨by rfl, ?_⟩) (by assumption) ?_
                rotate_left
                · intro w hSw; (try dsimp only at hSw); go_simp; try with_reducible rfl
                try simp only [Act.put, List.setIfInBounds_toArray, List.set_cons_zero, List.set_cons_succ]
                refine take_at (i := 9) (v := ?_) rfl rfl (by kernel_rfl) (by kernel_rfl) (by kernel_rfl) (fun _ _ _ h => h) (Or.inl ⟨by rfl, ?_⟩) (by assumption) ?_
                rotate_left
                · intro w hSw; (try dsimp only at hSw); go_simp; try with_reducible rfl
                try simp only [Act.put, List.setIfInBounds_toArray, List.set_cons_zero, List.set_cons_succ]
                refine take_at (i := 10) (v := ?_) rfl rfl (by kernel_rfl) (by kernel_rfl) (by kernel_rfl) (fun _ _ _ h => h) (Or.inl ⟨by rfl, ?_⟩) (by assumption) ?_
                rotate_left
                · intro w hSw; (try dsimp only at hSw); go_simp; try with_reducible rfl
                try simp only [Act.put, List.setIfInBounds_toArray, List.set_cons_zero, List.set_cons_succ]
                refine take_at (i := 11) (v := ?_) rfl rfl (by kernel_rfl) (by kernel_rfl) (by kernel_rfl) (fun _ _ _ h => h) (Or.inl ⟨by rfl, ?_⟩) (by assumption) ?_
                rotate_left
                · intro w hSw; (try dsimp only at hSw); go_simp; try with_reducible rfl
                try simp only [Act.put, List.setIfInBounds_toArray, List.set_cons_zero, List.set_cons_succ]
                refine take_at (i := 12) (v := ?_) rfl rfl (by kernel_rfl) (by kernel_rfl) (by kernel_rfl) (fun _ _ _ h => h) (Or.inl ⟨by rfl, ?_⟩) (by assumption) ?_
                rotate_left
                · intro w hSw; (try dsimp only at hSw); go_simp; try with_reducible rfl
                try simp only [Act.put, List.setIfInBounds_toArray, List.set_cons_zero, List.set_cons_succ]
                refine take_at (i := 13) (v := ?_) rfl rfl (by kernel_rfl) (by kernel_rfl) (by kernel_rfl) (fun _ _ _ h => h) (Or.inl ⟨by rfl, ?_⟩) (by assumption) ?_
                rotate_left
                · intro w hSw; (try dsimp only at hSw); go_simp; try with_reducible rfl
                try simp only [Act.put, List.setIfInBounds_toArray, List.set_cons_zero, List.set_cons_succ]
                refine take_at (i := 14) (v := ?_) rfl rfl (by kernel_rfl) (by kernel_rfl) (by kernel_rfl) (fun _ _ _ h => h) (Or.inl ⟨by rfl, ?_⟩) (by assumption) ?_
                rotate_left
                · intro w hSw; (try dsimp only at hSw); go_simp; try with_reducible rfl
                try simp only [Act.put, List.setIfInBounds_toArray, List.set_cons_zero, List.set_cons_succ]
                refine take_at (i := 15) (v := ?_) rfl rfl (by kernel_rfl) (by kernel_rfl) (by kernel_rfl) (fun _ _ _ h => h) (Or.inl ⟨by rfl, ?_⟩) (by assumption) ?_
                rotate_left
                · intro w hSw; (try dsimp only at hSw); go_simp; try with_reducible rfl
                try simp only [Act.put, List.setIfInBounds_toArray, List.set_cons_zero, List.set_cons_succ]
                refine take_at (i := 16) (v := ?_) rfl rfl (by kernel_rfl) (by kernel_rfl) (by kernel_rfl) (fun _ _ _ h => h) (Or.inl ⟨by rfl, ?_⟩) (by assumption) ?_
                rotate_left
                · intro w hSw; (try dsimp only at hSw); go_simp; try with_reducible rfl
                try simp only [Act.put, List.setIfInBounds_toArray, List.set_cons_zero, List.set_cons_succ]
                refine take_at (i := 17) (v := ?_) rfl rfl (by kernel_rfl) (by kernel_rfl) (by kernel_rfl) (fun _ _ _ h => h) (Or.inl ⟨by rfl, ?_⟩) (by assumption) ?_
                rotate_left
                · intro w hSw; (try dsimp only at hSw); go_simp; try with_reducible rfl
                try simp only [Act.put, List.setIfInBounds_toArray, List.set_cons_zero, List.set_cons_succ]
                refine take_at (i := 18) (v := ?_) rfl rfl (by kernel_rfl) (by kernel_rfl) (by kernel_rfl) (fun _ _ _ h => h) (Or.inl ⟨by rfl, ?_⟩) (by assumption) ?_
                rotate_left
                · intro w hSw; (try dsimp only at hSw); go_simp; try with_reducible rfl
                try simp only [Act.put, List.setIfInBounds_toArray, List.set_cons_zero, List.set_cons_succ]
                refine take_at (i := 19) (v := ?_) rfl rfl (by kernel_rfl) (by kernel_rfl) (by kernel_rfl) (fun _ _ _ h => h) (Or.inl ⟨by rfl, ?_⟩) (by assumption) ?_
                rotate_left
                · intro w hSw; (try dsimp only at hSw); go_simp; try with_reducible rfl
                try simp only [Act.put, List.setIfInBounds_toArray, List.set_cons_zero, List.set_cons_succ]
                refine take_at (i := 20) (v := ?_) rfl rfl (by kernel_rfl) (by kernel_rfl) (by kernel_rfl) (fun _ _ _ h => h) (Or.inl ⟨by rfl, ?_⟩) (by assumption) ?_
                rotate_left
                · intro w hSw; (try dsimp only at hSw); go_simp; try with_reducible rfl
                try simp only [Act.put, List.setIfInBounds_toArray, List.set_cons_zero, List.set_cons_succ]
                refine take_at (i := 21) (v := ?_) rfl rfl (by kernel_rfl) (by kernel_rfl) (by kernel_rfl) (fun _ _ _ h => h) (Or.inl ⟨by rfl, ?_⟩) (by assumption) ?_
                rotate_left
                · intro w hSw; (try dsimp only at hSw); go_simp; try with_reducible rfl
                try simp only [Act.put, List.setIfInBounds_toArray, List.set_cons_zero, List.set_cons_succ]
                refine take_at (i := 22) (v := ?_) rfl rfl (by kernel_rfl) (by kernel_rfl) (by kernel_rfl) (fun _ _ _ h => h) (Or.inl ⟨by rfl, ?_⟩) (by assumption) ?_
                rotate_left
                · intro w hSw; (try dsimp only at hSw); go_simp; try with_reducible rfl
                try simp only [Act.put, List.setIfInBounds_toArray, List.set_cons_zero, List.set_cons_succ]
                refine take_at (i := 23) (v := ?_) rfl rfl (by kernel_rfl) (by kernel_rfl) (by kernel_rfl) (fun _ _ _ h => h) (Or.inl ⟨by rfl, ?_⟩) (by assumption) ?_
                rotate_left
                · intro w hSw; (try dsimp only at hSw); go_simp; try with_reducible rfl
                try simp only [Act.put, List.setIfInBounds_toArray, List.set_cons_zero, List.set_cons_succ]
                refine take_at (i := 24) (v := ?_) rfl rfl (by kernel_rfl) (by kernel_rfl) (by kernel_rfl) (fun _ _ _ h => h) (Or.inl ⟨by rfl, ?_⟩) (by assumption) ?_
                rotate_left
                · intro w hSw; (try dsimp only at hSw); go_simp; try with_reducible rfl
                try simp only [Act.put, List.setIfInBounds_toArray, List.set_cons_zero, List.set_cons_succ]
                refine take_at (i := 25) (v := ?_) rfl rfl (by kernel_rfl) (by kernel_rfl) (by kernel_rfl) (fun _ _ _ h => h) (Or.inl ⟨by rfl, ?_⟩) (by assumption) ?_
                rotate_left
                · intro w hSw; (try dsimp only at hSw); go_simp; try with_reducible rfl
                try simp only [Act.put, List.setIfInBounds_toArray, List.set_cons_zero, List.set_cons_succ]
                refine wpAnyH_done (by kernel_rfl) (NoPanic.normal ?_) _
                go_wp2_with fail
                refine ⟨⟨k + 1, by omega, by go_num, by rw [HN.out], hB1⟩, ?_⟩
                simp [intOf]; omega
            · have g1 : (u == x) = false := by rw [beq_eq_false_iff_ne]; exact hu
              rw [if_neg (fun h => hu h.2.1)] at HN
              clear hM hu
              go_wp2_with fail
              refine wp_region_noPanic ?_
              refine wp_region_held_drew (S := fun W => (W.cell? ⟨b, off + k * 2, none⟩ = some (.int .i64 t) ∧ W.cell? ⟨b, off + k * 2 + 1, none⟩ = some (.int .i64 u)) ∧ W.cell? ⟨b2, off2 + i, none⟩ = some (.int .i64 x)) (by kernel_rfl) (by first | exact trivial | assumption | exact ⟨by assumption, by assumption⟩) (fun hHeld => ?_)
              refine take_at (i := 0) (v := ?_) rfl rfl (by kernel_rfl) (by kernel_rfl) (by kernel_rfl) (fun _ _ _ h => h) (Or.inl ⟨by rfl, ?_⟩) (by assumption) ?_
              rotate_left
              · intro w hSw; (try dsimp only at hSw); go_simp; try with_reducible rfl
              try simp only [Act.put, List.setIfInBounds_toArray, List.set_cons_zero, List.set_cons_succ]
              refine take_at (i := 1) (v := ?_) rfl rfl (by kernel_rfl) (by kernel_rfl) (by kernel_rfl) (fun _ _ _ h => h) (Or.inl ⟨by rfl, ?_⟩) (by assumption) ?_
              rotate_left
              · intro w hSw; (try dsimp only at hSw); go_simp; try with_reducible rfl
              try simp only [Act.put, List.setIfInBounds_toArray, List.set_cons_zero, List.set_cons_succ]
              refine take_at (i := 2) (v := ?_) rfl rfl (by kernel_rfl) (by kernel_rfl) (by kernel_rfl) (fun _ _ _ h => h) (Or.inl ⟨by rfl, ?_⟩) (by assumption) ?_
              rotate_left
              · intro w hSw; (try dsimp only at hSw); go_simp; try with_reducible rfl
              try simp only [Act.put, List.setIfInBounds_toArray, List.set_cons_zero, List.set_cons_succ]
              refine take_at (i := 3) (v := ?_) rfl rfl (by kernel_rfl) (by kernel_rfl) (by kernel_rfl) (fun _ _ _ h => h) (Or.inl ⟨by rfl, ?_⟩) (by assumption) ?_
              rotate_left
              · intro w hSw; (try dsimp only at hSw); go_simp; try with_reducible rfl
              try simp only [Act.put, List.setIfInBounds_toArray, List.set_cons_zero, List.set_cons_succ]
              refine wpAnyH_ready (rs := [4]) (by kernel_rfl) (by simp) ?_
              refine AllReadyH.cons rfl (fun K hK => ?_) AllReadyH.nil
              go_simp
              refine (C.out _).mono ?_
              rintro e w1 ⟨rfl, hb1⟩
              have hB1 : Below w.heap.size w w1 := below_step hbl.drew (Nat.le_refl _) hb1
              have hS1 : (w1.cell? ⟨b, off + k * 2, none⟩ = some (.int .i64 t) ∧ w1.cell? ⟨b, off + k * 2 + 1, none⟩ = some (.int .i64 u)) ∧ w1.cell? ⟨b2, off2 + i, none⟩ = some (.int .i64 x) := ⟨⟨by rw [hB1.cell (World.block_lt_of_cell? w _ q0)]; exact q0, by rw [hB1.cell (World.block_lt_of_cell? w _ q1)]; exact q1⟩, by rw [hB1.cell (World.block_lt_of_cell? w _ q2)]; exact q2⟩
              clear C hb1
              refine hK.out _ _ hS1 (fun hHeld => ?_)
              clear hK K
              refine take_at (i := 5) (v := ?_) rfl rfl (by kernel_rfl) (by kernel_rfl) (by kernel_rfl) (fun _ _ _ h => h) (Or.inl ⟨by rfl, ?_⟩) (by assumption) ?_
              rotate_left
              · intro w hSw; (try dsimp only at hSw); go_simp; try with_reducible rfl
              try simp only [Act.put, List.setIfInBounds_toArray, List.set_cons_zero, List.set_cons_succ]
              refine take_at (i := 6) (v := ?_) rfl rfl (by kernel_rfl) (by kernel_rfl) (by kernel_rfl) (fun _ _ _ h => h) (Or.inl ⟨by rfl, ?_⟩) (by assumption) ?_
              rotate_left
              · intro w hSw; (try dsimp only at hSw); go_simp; try with_reducible rfl
              try simp only [Act.put, List.setIfInBounds_toArray, List.set_cons_zero, List.set_cons_succ]
              refine take_at (i := 7) (v := ?_) rfl rfl (by kernel_rfl) (by kernel_rfl) (by kernel_rfl) (fun _ _ _ h => h) (Or.inl ⟨by rfl, ?_⟩) (by assumption) ?_
              rotate_left
              · intro w hSw; (try dsimp only at hSw); go_simp; try with_reducible rfl
              try simp only [Act.put, List.setIfInBounds_toArray, List.set_cons_zero, List.set_cons_succ]
              refine take_at (i := 8) (v := ?_) rfl rfl (by kernel_rfl) (by kernel_rfl) (by kernel_rfl) (fun _ _ _ h => h) (Or.inl ⟨by rfl, ?_⟩) (by assumption) ?_
              rotate_left
              · intro w hSw; (try dsimp only at hSw); go_simp; try with_reducible rfl
              try simp only [Act.put, List.setIfInBounds_toArray, List.set_cons_zero, List.set_cons_succ]
              refine take_at (i := 9) (v := ?_) rfl rfl (by kernel_rfl) (by kernel_rfl) (by kernel_rfl) (fun _ _ _ h => h) (Or.inl ⟨by rfl, ?_⟩) (by assumption) ?_
              rotate_left
              · intro w hSw; (try dsimp only at hSw); go_simp; try with_reducible rfl
              try simp only [Act.put, List.setIfInBounds_toArray, List.set_cons_zero, List.set_cons_succ]
              refine take_at (i := 10) (v := ?_) rfl rfl (by kernel_rfl) (by kernel_rfl) (by kernel_rfl) (fun _ _ _ h => h) (Or.inl ⟨by rfl, ?_⟩) (by assumption) ?_
              rotate_left
              · intro w hSw; (try dsimp only at hSw); go_simp; try with_reducible rfl
              try simp only [Act.put, List.setIfInBounds_toArray, List.set_cons_zero, List.set_cons_succ]
              refine take_at (i := 11) (v := ?_) rfl rfl (by kernel_rfl) (by kernel_rfl) (by kernel_rfl) (fun _ _ _ h => h) (Or.inl ⟨by rfl, ?_⟩) (by assumption) ?_
              rotate_left
              · intro w hSw; (try dsimp only at hSw); go_simp; try with_reducible rfl
              try simp only [Act.put, List.setIfInBounds_toArray, List.set_cons_zero, List.set_cons_succ]
              refine take_at (i := 12) (v := ?_) rfl rfl (by kernel_rfl) (by kernel_rfl) (by kernel_rfl) (fun _ _ _ h => h) (Or.inl ⟨by rfl, ?_⟩) (by assumption) ?_
              rotate_left
              · intro w hSw; (try dsimp only at hSw); go_simp; try with_reducible rfl
              try simp only [Act.put, List.setIfInBounds_toArray, List.set_cons_zero, List.set_cons_succ]
              refine take_at (i := 13) (v := ?_) rfl rfl (by kernel_rfl) (by kernel_rfl) (by kernel_rfl) (fun _ _ _ h => h) (Or.inl ⟨by rfl, ?_⟩) (by assumption) ?_
              rotate_left
              · intro w hSw; (try dsimp only at hSw); go_simp; try with_reducible rfl
              try simp only [Act.put, List.setIfInBounds_toArray, List.set_cons_zero, List.set_cons_succ]
              refine take_at (i := 14) (v := ?_) rfl rfl (by kernel_rfl) (by kernel_rfl) (by kernel_rfl) (fun _ _ _ h => h) (Or.inl ⟨by rfl, ?_⟩) (by assumption) ?_
              rotate_left
              · intro w hSw; (try dsimp only at hSw); go_simp; try with_reducible rfl
              try simp only [Act.put, List.setIfInBounds_toArray, List.set_cons_zero, List.set_cons_succ]
              refine take_at (i := 15) (v := ?_) rfl rfl (by kernel_rfl) (by kernel_rfl) (by kernel_rfl) (fun _ _ _ h => h) (Or.inl ⟨by rfl, ?_⟩) (by assumption) ?_
              rotate_left
              · intro w hSw; (try dsimp only at hSw); go_simp; try with_reducible rfl
              try simp only [Act.put, List.setIfInBounds_toArray, List.set_cons_zero, List.set_cons_succ]
              refine take_at (i := 16) (v := ?_) rfl rfl (by kernel_rfl) (by kernel_rfl) (by kernel_rfl) (fun _ _ _ h => h) (Or.inl ⟨by rfl, ?_⟩) (by assumption) ?_
              rotate_left
              · intro w hSw; (try dsimp only at hSw); go_simp; try with_reducible rfl
              try simp only [Act.put, List.setIfInBounds_toArray, List.set_cons_zero, List.set_cons_succ]
              refine take_at (i := 17) (v := ?_) rfl rfl (by kernel_rfl) (by kernel_rfl) (by kernel_rfl) (fun _ _ _ h => h) (Or.inl ⟨by rfl, ?_⟩) (by assumption) ?_
              rotate_left
              · intro w hSw; (try dsimp only at hSw); go_simp; try with_reducible rfl
              try simp only [Act.put, List.setIfInBounds_toArray, List.set_cons_zero, List.set_cons_succ]
              refine take_at (i := 18) (v := undef) rfl rfl (by kernel_rfl) (by kernel_rfl) (by kernel_rfl) (fun _ _ _ h => h) (Or.inr ⟨by rfl, rfl⟩) (by assumption) ?_
              try simp only [Act.put, List.setIfInBounds_toArray, List.set_cons_zero, List.set_cons_succ]
              refine take_at (i := 19) (v := undef) rfl rfl (by kernel_rfl) (by kernel_rfl) (by kernel_rfl) (fun _ _ _ h => h) (Or.inr ⟨by rfl, rfl⟩) (by assumption) ?_
              try simp only [Act.put, List.setIfInBounds_toArray, List.set_cons_zero, List.set_cons_succ]
              refine take_at (i := 20) (v := undef) rfl rfl (by kernel_rfl) (by kernel_rfl) (by kernel_rfl) (fun _ _ _ h => h) (Or.inr ⟨by rfl, rfl⟩) (by assumption) ?_
              try simp only [Act.put, List.setIfInBounds_toArray, List.set_cons_zero, List.set_cons_succ]
              refine take_at (i := 21) (v := undef) rfl rfl (by kernel_rfl) (by kernel_rfl) (by kernel_rfl) (fun _ _ _ h => h) (Or.inr ⟨by rfl, rfl⟩) (by assumption) ?_
              try simp only [Act.put, List.setIfInBounds_toArray, List.set_cons_zero, List.set_cons_succ]
              refine take_at (i := 22) (v := undef) rfl rfl (by kernel_rfl) (by kernel_rfl) (by kernel_rfl) (fun _ _ _ h => h) (Or.inr ⟨by rfl, rfl⟩) (by assumption) ?_
              try simp only [Act.put, List.setIfInBounds_toArray, List.set_cons_zero, List.set_cons_succ]
              refine take_at (i := 23) (v := undef) rfl rfl (by kernel_rfl) (by kernel_rfl) (by kernel_rfl) (fun _ _ _ h => h) (Or.inr ⟨by rfl, rfl⟩) (by assumption) ?_
              try simp only [Act.put, List.setIfInBounds_toArray, List.set_cons_zero, List.set_cons_succ]
              refine take_at (i := 24) (v := undef) rfl rfl (by kernel_rfl) (by kernel_rfl) (by kernel_rfl) (fun _ _ _ h => h) (Or.inr ⟨by rfl, rfl⟩) (by assumption) ?_
              try simp only [Act.put, List.setIfInBounds_toArray, List.set_cons_zero, List.set_cons_succ]
              refine take_at (i := 25) (v := ?_) rfl rfl (by kernel_rfl) (by kernel_rfl) (by kernel_rfl) (fun _ _ _ h => h) (Or.inl ⟨by rfl, ?_⟩) (by assumption) ?_
              rotate_left
              · intro w hSw; (try dsimp only at hSw); go_simp; try with_reducible rfl
              try simp only [Act.put, List.setIfInBounds_toArray, List.set_cons_zero, List.set_cons_succ]
              refine wpAnyH_done (by kernel_rfl) (NoPanic.normal ?_) _
              go_wp2_with fail
              refine ⟨⟨k + 1, by omega, by go_num, by rw [HN.out], hB1⟩, ?_⟩
              simp [intOf]; omega
          · rw [decide_eq_false hM] at C'
            have C : Hid (∀ w, Calls Try.prog 23 #[.agg #[.int .i64 t, .int .i64 u]] w fun e w' => e = .returned (.bool false) ∧ Below w.heap.size w w') := C'
            rw [if_neg (fun h => hM h.1)] at HN
            clear C' hM
            go_wp2_with fail
            refine wp_region_noPanic ?_
            refine wp_region_held_drew (S := fun W => (W.cell? ⟨b, off + k * 2, none⟩ = some (.int .i64 t) ∧ W.cell? ⟨b, off + k * 2 + 1, none⟩ = some (.int .i64 u)) ∧ W.cell? ⟨b2, off2 + i, none⟩ = some (.int .i64 x)) (by kernel_rfl) (by first | exact trivial | assumption | exact ⟨by assumption, by assumption⟩) (fun hHeld => ?_)
            refine take_at (i := 0) (v := ?_) rfl rfl (by kernel_rfl) (by kernel_rfl) (by kernel_rfl) (fun _ _ _ h => h) (Or.inl ⟨by rfl, ?_⟩) (by assumption) ?_
            rotate_left
            · intro w hSw; (try dsimp only at hSw); go_simp; try with_reducible rfl
            try simp only [Act.put, List.setIfInBounds_toArray, List.set_cons_zero, List.set_cons_succ]
            refine take_at (i := 1) (v := ?_) rfl rfl (by kernel_rfl) (by kernel_rfl) (by kernel_rfl) (fun _ _ _ h => h) (Or.inl ⟨by rfl, ?_⟩) (by assumption) ?_
            rotate_left
            · intro w hSw; (try dsimp only at hSw); go_simp; try with_reducible rfl
            try simp only [Act.put, List.setIfInBounds_toArray, List.set_cons_zero, List.set_cons_succ]
            refine take_at (i := 2) (v := ?_) rfl rfl (by kernel_rfl) (by kernel_rfl) (by kernel_rfl) (fun _ _ _ h => h) (Or.inl ⟨by rfl, ?_⟩) (by assumption) ?_
            rotate_left
            · intro w hSw; (try dsimp only at hSw); go_simp; try with_reducible rfl
            try simp only [Act.put, List.setIfInBounds_toArray, List.set_cons_zero, List.set_cons_succ]
            refine take_at (i := 3) (v := ?_) rfl rfl (by kernel_rfl) (by kernel_rfl) (by kernel_rfl) (fun _ _ _ h => h) (Or.inl ⟨by rfl, ?_⟩) (by assumption) ?_
            rotate_left
            · intro w hSw; (try dsimp only at hSw); go_simp; try with_reducible rfl
            try simp only [Act.put, List.setIfInBounds_toArray, List.set_cons_zero, List.set_cons_succ]
            refine wpAnyH_ready (rs := [4]) (by kernel_rfl) (by simp) ?_
            refine AllReadyH.cons rfl (fun K hK => ?_) AllReadyH.nil
            go_simp
            refine (C.out _).mono ?_
            rintro e w1 ⟨rfl, hb1⟩
            have hB1 : Below w.heap.size w w1 := below_step hbl.drew (Nat.le_refl _) hb1
            have hS1 : (w1.cell? ⟨b, off + k * 2, none⟩ = some (.int .i64 t) ∧ w1.cell? ⟨b, off + k * 2 + 1, none⟩ = some (.int .i64 u)) ∧ w1.cell? ⟨b2, off2 + i, none⟩ = some (.int .i64 x) := ⟨⟨by rw [hB1.cell (World.block_lt_of_cell? w _ q0)]; exact q0, by rw [hB1.cell (World.block_lt_of_cell? w _ q1)]; exact q1⟩, by rw [hB1.cell (World.block_lt_of_cell? w _ q2)]; exact q2⟩
            clear C hb1
            refine hK.out _ _ hS1 (fun hHeld => ?_)
            clear hK K
            refine take_at (i := 5) (v := ?_) rfl rfl (by kernel_rfl) (by kernel_rfl) (by kernel_rfl) (fun _ _ _ h => h) (Or.inl ⟨by rfl, ?_⟩) (by assumption) ?_
            rotate_left
            · intro w hSw; (try dsimp only at hSw); go_simp; try with_reducible rfl
            try simp only [Act.put, List.setIfInBounds_toArray, List.set_cons_zero, List.set_cons_succ]
            refine take_at (i := 6) (v := undef) rfl rfl (by kernel_rfl) (by kernel_rfl) (by kernel_rfl) (fun _ _ _ h => h) (Or.inr ⟨by rfl, rfl⟩) (by assumption) ?_
            try simp only [Act.put, List.setIfInBounds_toArray, List.set_cons_zero, List.set_cons_succ]
            refine take_at (i := 7) (v := undef) rfl rfl (by kernel_rfl) (by kernel_rfl) (by kernel_rfl) (fun _ _ _ h => h) (Or.inr ⟨by rfl, rfl⟩) (by assumption) ?_
            try simp only [Act.put, List.setIfInBounds_toArray, List.set_cons_zero, List.set_cons_succ]
            refine take_at (i := 8) (v := undef) rfl rfl (by kernel_rfl) (by kernel_rfl) (by kernel_rfl) (fun _ _ _ h => h) (Or.inr ⟨by rfl, rfl⟩) (by assumption) ?_
            try simp only [Act.put, List.setIfInBounds_toArray, List.set_cons_zero, List.set_cons_succ]
            refine take_at (i := 9) (v := undef) rfl rfl (by kernel_rfl) (by kernel_rfl) (by kernel_rfl) (fun _ _ _ h => h) (Or.inr ⟨by rfl, rfl⟩) (by assumption) ?_
            try simp only [Act.put, List.setIfInBounds_toArray, List.set_cons_zero, List.set_cons_succ]
            refine take_at (i := 10) (v := undef) rfl rfl (by kernel_rfl) (by kernel_rfl) (by kernel_rfl) (fun _ _ _ h => h) (Or.inr ⟨by rfl, rfl⟩) (by assumption) ?_
            try simp only [Act.put, List.setIfInBounds_toArray, List.set_cons_zero, List.set_cons_succ]
            refine take_at (i := 11) (v := undef) rfl rfl (by kernel_rfl) (by kernel_rfl) (by kernel_rfl) (fun _ _ _ h => h) (Or.inr ⟨by rfl, rfl⟩) (by assumption) ?_
            try simp only [Act.put, List.setIfInBounds_toArray, List.set_cons_zero, List.set_cons_succ]
            refine take_at (i := 12) (v := undef) rfl rfl (by kernel_rfl) (by kernel_rfl) (by kernel_rfl) (fun _ _ _ h => h) (Or.inr ⟨by rfl, rfl⟩) (by assumption) ?_
            try simp only [Act.put, List.setIfInBounds_toArray, List.set_cons_zero, List.set_cons_succ]
            refine take_at (i := 13) (v := undef) rfl rfl (by kernel_rfl) (by kernel_rfl) (by kernel_rfl) (fun _ _ _ h => h) (Or.inr ⟨by rfl, rfl⟩) (by assumption) ?_
            try simp only [Act.put, List.setIfInBounds_toArray, List.set_cons_zero, List.set_cons_succ]
            refine take_at (i := 14) (v := undef) rfl rfl (by kernel_rfl) (by kernel_rfl) (by kernel_rfl) (fun _ _ _ h => h) (Or.inr ⟨by rfl, rfl⟩) (by assumption) ?_
            try simp only [Act.put, List.setIfInBounds_toArray, List.set_cons_zero, List.set_cons_succ]
            refine take_at (i := 15) (v := undef) rfl rfl (by kernel_rfl) (by kernel_rfl) (by kernel_rfl) (fun _ _ _ h => h) (Or.inr ⟨by rfl, rfl⟩) (by assumption) ?_
            try simp only [Act.put, List.setIfInBounds_toArray, List.set_cons_zero, List.set_cons_succ]
            refine take_at (i := 16) (v := ?_) rfl rfl (by kernel_rfl) (by kernel_rfl) (by kernel_rfl) (fun _ _ _ h => h) (Or.inl ⟨by rfl, ?_⟩) (by assumption) ?_
            rotate_left
            · intro w hSw; (try dsimp only at hSw); go_simp; try with_reducible rfl
            try simp only [Act.put, List.setIfInBounds_toArray, List.set_cons_zero, List.set_cons_succ]
            refine take_at (i := 17) (v := ?_) rfl rfl (by kernel_rfl) (by kernel_rfl) (by kernel_rfl) (fun _ _ _ h => h) (Or.inl ⟨by rfl, ?_⟩) (by assumption) ?_
            rotate_left
            · intro w hSw; (try dsimp only at hSw); go_simp; try with_reducible rfl
            try simp only [Act.put, List.setIfInBounds_toArray, List.set_cons_zero, List.set_cons_succ]
            refine take_at (i := 18) (v := undef) rfl rfl (by kernel_rfl) (by kernel_rfl) (by kernel_rfl) (fun _ _ _ h => h) (Or.inr ⟨by rfl, rfl⟩) (by assumption) ?_
            try simp only [Act.put, List.setIfInBounds_toArray, List.set_cons_zero, List.set_cons_succ]
            refine take_at (i := 19) (v := undef) rfl rfl (by kernel_rfl) (by kernel_rfl) (by kernel_rfl) (fun _ _ _ h => h) (Or.inr ⟨by rfl, rfl⟩) (by assumption) ?_
            try simp only [Act.put, List.setIfInBounds_toArray, List.set_cons_zero, List.set_cons_succ]
            refine take_at (i := 20) (v := undef) rfl rfl (by kernel_rfl) (by kernel_rfl) (by kernel_rfl) (fun _ _ _ h => h) (Or.inr ⟨by rfl, rfl⟩) (by assumption) ?_
            try simp only [Act.put, List.setIfInBounds_toArray, List.set_cons_zero, List.set_cons_succ]
            refine take_at (i := 21) (v := undef) rfl rfl (by kernel_rfl) (by kernel_rfl) (by kernel_rfl) (fun _ _ _ h => h) (Or.inr ⟨by rfl, rfl⟩) (by assumption) ?_
            try simp only [Act.put, List.setIfInBounds_toArray, List.set_cons_zero, List.set_cons_succ]
            refine take_at (i := 22) (v := undef) rfl rfl (by kernel_rfl) (by kernel_rfl) (by kernel_rfl) (fun _ _ _ h => h) (Or.inr ⟨by rfl, rfl⟩) (by assumption) ?_
            try simp only [Act.put, List.setIfInBounds_toArray, List.set_cons_zero, List.set_cons_succ]
            refine take_at (i := 23) (v := undef) rfl rfl (by kernel_rfl) (by kernel_rfl) (by kernel_rfl) (fun _ _ _ h => h) (Or.inr ⟨by rfl, rfl⟩) (by assumption) ?_
            try simp only [Act.put, List.setIfInBounds_toArray, List.set_cons_zero, List.set_cons_succ]
            refine take_at (i := 24) (v := undef) rfl rfl (by kernel_rfl) (by kernel_rfl) (by kernel_rfl) (fun _ _ _ h => h) (Or.inr ⟨by rfl, rfl⟩) (by assumption) ?_
            try simp only [Act.put, List.setIfInBounds_toArray, List.set_cons_zero, List.set_cons_succ]
            refine take_at (i := 25) (v := ?_) rfl rfl (by kernel_rfl) (by kernel_rfl) (by kernel_rfl) (fun _ _ _ h => h) (Or.inl ⟨by rfl, ?_⟩) (by assumption) ?_
            rotate_left
            · intro w hSw; (try dsimp only at hSw); go_simp; try with_reducible rfl
            try simp only [Act.put, List.setIfInBounds_toArray, List.set_cons_zero, List.set_cons_succ]
            refine wpAnyH_done (by kernel_rfl) (NoPanic.normal ?_) _
            go_wp2_with fail
            refine ⟨⟨k + 1, by omega, by go_num, by rw [HN.out], hB1⟩, ?_⟩
            simp [intOf]; omega
        · have hk' : k = n := by omega
          subst hk'
          obtain ⟨L, HL⟩ : ∃ L, Hid (L = lastT l x k) := ⟨_, rfl⟩
          rw [← HL.out] at HF ⊢
          clear HL
          by_cases hz : i = 0
          · have g3 : ((i : Int) == 0) = true := by rw [beq_iff_eq]; omega
            rw [if_pos (.inl hz)] at HF
            clear hz
            go_wp2_with fail
            refine ⟨⟨i + 1, by omega, by go_num, by rw [HF.out], hbl⟩, ?_⟩
            simp [intOf]; omega
          · have g3 : ((i : Int) == 0) = false := by rw [beq_eq_false_iff_ne]; omega
            by_cases hLE : L < E
            · have g4 : decide (L < E) = true := by simp; exact hLE
              rw [if_pos (.inr hLE)] at HF
              clear hz hLE
              go_wp2_with fail
              refine ⟨⟨i + 1, by omega, by go_num, by rw [HF.out], hbl⟩, ?_⟩
              simp [intOf]; omega
            · have g4 : decide (L < E) = false := by simp; omega
              rw [if_neg (fun h => h.elim hz hLE)] at HF
              clear hz hLE
              go_wp2_with fail
              refine ⟨⟨i + 1, by omega, by go_num, by rw [HF.out], hbl⟩, ?_⟩
              simp [intOf]; omega
    · have hi' : i = m := by omega
      subst hi'
      go_wp2
      go_ret
      exact ⟨rfl, hbl⟩
end Go.Proofs.Ytegbjglkglmgiaa

/- Layer 10 on plain data: orders, and stable times. Nothing of the program. -/
namespace Go.Proofs.Ytegbjglkglmgiaa
open Go.RowKit
set_option linter.unusedSimpArgs false

theorem lessS_self (a : Int × Int) : ¬ LessS a a := by unfold LessS; omega
theorem lessS_one (a b : Int × Int) : (LessS a b ∨ LessS b a) ↔ a ≠ b := by
  unfold LessS
  constructor
  · rintro h rfl; omega
  · intro h
    by_cases h1 : a.1 = b.1
    · by_cases h2 : a.2 = b.2
      · exact absurd (Prod.ext h1 h2) h
      · omega
    · omega
theorem lessS_not (a b : Int × Int) (h : LessS a b) : ¬ LessS b a := by unfold LessS at *; omega
theorem lessS_trans (a b c : Int × Int) (h : LessS a b) (k : LessS b c) : LessS a c := by unfold LessS at *; omega

theorem stL_left (l : List (Int × Int)) (s : Int × Int) (i : Nat) (h : i < l.length) : stL (l ++ [s]) i = stL l i := by
  unfold stL
  rw [List.getD_eq_getElem?_getD, List.getD_eq_getElem?_getD, List.getElem?_append_left h]
theorem lastT_congr (l : List (Int × Int)) (s : Int × Int) (x : Int) (k : Nat) (h : k ≤ l.length) : lastT (l ++ [s]) x k = lastT l x k := by
  induction k with
  | zero => rfl
  | succ k ih =>
    show (if _ then _ else _) = (if _ then _ else _)
    rw [stL_left l s k (by omega), ih (by omega)]
theorem lastT_step (l : List (Int × Int)) (x : Int) (k : Nat) : lastT l x k ≤ lastT l x (k + 1) := by
  show _ ≤ (if _ then _ else _)
  split
  · next h => omega
  · exact Int.le_refl _
theorem lastT_more (l : List (Int × Int)) (s : Int × Int) (x : Int) : lastT l x l.length ≤ lastT (l ++ [s]) x (l ++ [s]).length := by
  have e : (l ++ [s]).length = l.length + 1 := by simp
  rw [e, ← lastT_congr l s x l.length (Nat.le_refl _)]
  exact lastT_step _ _ _
/-- More stamps let it not be less. -/
theorem leastT_more (l : List (Int × Int)) (s : Int × Int) (who : List Int) (i : Nat) : leastT l who i ≤ leastT (l ++ [s]) who i := by
  induction i with
  | zero => exact Int.le_refl _
  | succ i ih =>
    show (if _ then _ else _) ≤ (if _ then _ else _)
    have h := lastT_more l s (who.getD i 0)
    generalize lastT l (who.getD i 0) l.length = A at *
    generalize lastT (l ++ [s]) (who.getD i 0) (l ++ [s]).length = B at *
    generalize leastT l who i = C at *
    generalize leastT (l ++ [s]) who i = D at *
    by_cases h0 : i = 0
    · rw [if_pos (.inl h0), if_pos (.inl h0)]; exact h
    · by_cases h1 : A < C
      · rw [if_pos (.inr h1)]
        by_cases h2 : B < D
        · rw [if_pos (.inr h2)]; exact h
        · rw [if_neg (fun h => h.elim h0 h2)]; omega
      · rw [if_neg (fun h => h.elim h0 h1)]
        by_cases h2 : B < D
        · rw [if_pos (.inr h2)]; omega
        · rw [if_neg (fun h => h.elim h0 h2)]; exact ih
theorem leastT_congr (l : List (Int × Int)) (who : List Int) (x : Int) (i : Nat) (h : i ≤ who.length) : leastT l (who ++ [x]) i = leastT l who i := by
  induction i with
  | zero => rfl
  | succ i ih =>
    show (if _ then _ else _) = (if _ then _ else _)
    have e : (who ++ [x]).getD i 0 = who.getD i 0 := by rw [List.getD_eq_getElem?_getD, List.getD_eq_getElem?_getD, List.getElem?_append_left (by omega)]
    rw [e, ih (by omega)]
/-- More clients let it not be more. -/
theorem leastT_less (l : List (Int × Int)) (who : List Int) (x : Int) (h : 0 < who.length) : leastT l (who ++ [x]) (who.length + 1) ≤ leastT l who who.length := by
  show (if _ then _ else _) ≤ _
  rw [leastT_congr l who x who.length (Nat.le_refl _)]
  split
  · next h1 => rcases h1 with h1 | h1
               · omega
               · omega
  · exact Int.le_refl _
/-- Stamps that may be: what a clock knows rises. -/
theorem seeP_le (c s : Int × Int) : c.2 ≤ (seeP c s).2 := by
  unfold seeP
  split
  · show c.2 ≤ max c.2 s.1; omega
  · exact Int.le_refl _
end Go.Proofs.Ytegbjglkglmgiaa
