import Derived.Test.YtkmdajenbidaaaaDoorG
import Derived.Test.YtkmdajenbidaaaaDoorBA
import Derived.Test.YtkmdajenbidaaaaDoorL1
/- The document's May, Check, Less, See, Next (layer 10). -/
namespace Go.Proofs.YtkmdajenbidaaaaDoor
open Go.RowKit
set_option maxRecDepth 100000
set_option linter.unusedSimpArgs false

/-- May a stamp be one of an operation? -/
abbrev MayS (s : Int × Int) : Prop := 1 ≤ s.1 ∧ s.1 ≤ 1099511627775 ∧ 1 ≤ s.2 ∧ s.2 ≤ 6

def stampV (s : Int × Int) : Value := .agg #[.int .i64 s.1, .int .i64 s.2]

/-- Which of two stamps stands ahead. -/
abbrev LessS (a b : Int × Int) : Prop := a.1 < b.1 ∨ (a.1 = b.1 ∧ a.2 < b.2)

end Go.Proofs.YtkmdajenbidaaaaDoor

/- The document's See, Next (layer 10). -/
namespace Go.Proofs.YtkmdajenbidaaaaDoor
open Go.RowKit
set_option maxRecDepth 100000
set_option linter.unusedSimpArgs false

/-- A clock: who, and its time. -/
def seeP (c s : Int × Int) : Int × Int := if MayS s then (c.1, max c.2 s.1) else c

end Go.Proofs.YtkmdajenbidaaaaDoor

/- The document's Next (layer 10). -/
namespace Go.Proofs.YtkmdajenbidaaaaDoor
open Go.RowKit
set_option maxRecDepth 100000
set_option linter.unusedSimpArgs false

def nextP10 (c : Int × Int) : (Int × Int) × (Int × Int) × Int := if 1099511627775 ≤ c.2 then (c, (0, 0), 150) else ((c.1, c.2 + 1), (c.2 + 1, c.1), 0)

end Go.Proofs.YtkmdajenbidaaaaDoor

/- The document's Stable (layer 10). -/
namespace Go.Proofs.YtkmdajenbidaaaaDoor
open Go.RowKit
set_option maxRecDepth 100000
set_option linter.unusedSimpArgs false

theorem StampsAt.below {w w' : World} {a : Option Addr} {n : Nat} {l : List (Int × Int)} (h : StampsAt w a n l) (hb : Below w.heap.size w w') : StampsAt w' a n l := by
  refine ⟨h.1, ?_⟩
  rcases h.2 with h0 | ⟨b, off, ha, hc⟩
  · exact .inl h0
  · refine .inr ⟨b, off, ha, fun i hi => ?_⟩
    obtain ⟨h1, h2⟩ := hc i hi
    have hlt := World.block_lt_of_cell? w _ h1
    exact ⟨by rw [hb.cell (p := ⟨b, off + i * 2, none⟩) hlt]; exact h1, by rw [hb.cell (p := ⟨b, off + i * 2 + 1, none⟩) hlt]; exact h2⟩

theorem StampsAt.some {w : World} {a : Option Addr} {n : Nat} {l : List (Int × Int)} (h : StampsAt w a n l) (hn : 0 < n) : ∃ b off, a = .some ⟨b, off, none⟩ ∧ ∀ i, i < n → w.cell? ⟨b, off + i * 2, none⟩ = .some (.int .i64 (stL l i).1) ∧ w.cell? ⟨b, off + i * 2 + 1, none⟩ = .some (.int .i64 (stL l i).2) := by
  rcases h.2 with h0 | h
  · omega
  · exact h

theorem IntsAt.some {w : World} {K : IntKind} {a : Option Addr} {n : Nat} {l : List Int} (h : IntsAt w K a n l) (hn : 0 < n) : ∃ b off, a = .some ⟨b, off, none⟩ ∧ ∀ i, i < n → w.cell? ⟨b, off + i, none⟩ = .some (.int K (l.getD i 0)) := by
  rcases h.2 with h0 | h
  · omega
  · exact h

/-- The last time that was seen of one, among the first k stamps; the least of these, of the first i clients. -/
def lastT (l : List (Int × Int)) (x : Int) : Nat → Int
  | 0 => 0
  | k + 1 => if MayS (stL l k) ∧ (stL l k).2 = x ∧ lastT l x k < (stL l k).1 then (stL l k).1 else lastT l x k

def leastT (l : List (Int × Int)) (who : List Int) : Nat → Int
  | 0 => 0
  | i + 1 => if i = 0 ∨ lastT l (who.getD i 0) l.length < leastT l who i then lastT l (who.getD i 0) l.length else leastT l who i

end Go.Proofs.YtkmdajenbidaaaaDoor

/- Layer 10 on plain data: orders, and stable times. Nothing of the program. -/
namespace Go.Proofs.YtkmdajenbidaaaaDoor
open Go.RowKit
set_option maxRecDepth 100000
set_option linter.unusedSimpArgs false

theorem lessS_self (a : Int × Int) : ¬ LessS a a := by unfold LessS; omega

theorem lessS_one (a b : Int × Int) : (LessS a b ∨ LessS b a) ↔ a ≠ b := by
  unfold LessS
  constructor
  · rintro h rfl; omega
  · intro h
    by_cases h1 : a.1 = b.1
    · by_cases h2 : a.2 = b.2
      · exact absurd (Prod.ext h1 h2) h
      · omega
    · omega

theorem lessS_not (a b : Int × Int) (h : LessS a b) : ¬ LessS b a := by unfold LessS at *; omega

theorem lessS_trans (a b c : Int × Int) (h : LessS a b) (k : LessS b c) : LessS a c := by unfold LessS at *; omega

theorem stL_left (l : List (Int × Int)) (s : Int × Int) (i : Nat) (h : i < l.length) : stL (l ++ [s]) i = stL l i := by
  unfold stL
  rw [List.getD_eq_getElem?_getD, List.getD_eq_getElem?_getD, List.getElem?_append_left h]

theorem lastT_congr (l : List (Int × Int)) (s : Int × Int) (x : Int) (k : Nat) (h : k ≤ l.length) : lastT (l ++ [s]) x k = lastT l x k := by
  induction k with
  | zero => rfl
  | succ k ih =>
    show (if _ then _ else _) = (if _ then _ else _)
    rw [stL_left l s k (by omega), ih (by omega)]

theorem lastT_step (l : List (Int × Int)) (x : Int) (k : Nat) : lastT l x k ≤ lastT l x (k + 1) := by
  show _ ≤ (if _ then _ else _)
  split
  · next h => omega
  · exact Int.le_refl _

theorem lastT_more (l : List (Int × Int)) (s : Int × Int) (x : Int) : lastT l x l.length ≤ lastT (l ++ [s]) x (l ++ [s]).length := by
  have e : (l ++ [s]).length = l.length + 1 := by simp
  rw [e, ← lastT_congr l s x l.length (Nat.le_refl _)]
  exact lastT_step _ _ _

/-- More stamps let it not be less. -/
theorem leastT_more (l : List (Int × Int)) (s : Int × Int) (who : List Int) (i : Nat) : leastT l who i ≤ leastT (l ++ [s]) who i := by
  induction i with
  | zero => exact Int.le_refl _
  | succ i ih =>
    show (if _ then _ else _) ≤ (if _ then _ else _)
    have h := lastT_more l s (who.getD i 0)
    generalize lastT l (who.getD i 0) l.length = A at *
    generalize lastT (l ++ [s]) (who.getD i 0) (l ++ [s]).length = B at *
    generalize leastT l who i = C at *
    generalize leastT (l ++ [s]) who i = D at *
    by_cases h0 : i = 0
    · rw [if_pos (.inl h0), if_pos (.inl h0)]; exact h
    · by_cases h1 : A < C
      · rw [if_pos (.inr h1)]
        by_cases h2 : B < D
        · rw [if_pos (.inr h2)]; exact h
        · rw [if_neg (fun h => h.elim h0 h2)]; omega
      · rw [if_neg (fun h => h.elim h0 h1)]
        by_cases h2 : B < D
        · rw [if_pos (.inr h2)]; omega
        · rw [if_neg (fun h => h.elim h0 h2)]; exact ih

theorem leastT_congr (l : List (Int × Int)) (who : List Int) (x : Int) (i : Nat) (h : i ≤ who.length) : leastT l (who ++ [x]) i = leastT l who i := by
  induction i with
  | zero => rfl
  | succ i ih =>
    show (if _ then _ else _) = (if _ then _ else _)
    have e : (who ++ [x]).getD i 0 = who.getD i 0 := by rw [List.getD_eq_getElem?_getD, List.getD_eq_getElem?_getD, List.getElem?_append_left (by omega)]
    rw [e, ih (by omega)]

/-- More clients let it not be more. -/
theorem leastT_less (l : List (Int × Int)) (who : List Int) (x : Int) (h : 0 < who.length) : leastT l (who ++ [x]) (who.length + 1) ≤ leastT l who who.length := by
  show (if _ then _ else _) ≤ _
  rw [leastT_congr l who x who.length (Nat.le_refl _)]
  split
  · next h1 => rcases h1 with h1 | h1
               · omega
               · omega
  · exact Int.le_refl _

/-- Stamps that may be: what a clock knows rises. -/
theorem seeP_le (c s : Int × Int) : c.2 ≤ (seeP c s).2 := by
  unfold seeP
  split
  · show c.2 ≤ max c.2 s.1; omega
  · exact Int.le_refl _

end Go.Proofs.YtkmdajenbidaaaaDoor
