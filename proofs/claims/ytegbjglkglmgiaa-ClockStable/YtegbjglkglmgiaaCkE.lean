/- The code's lastSeen, its closure, Stable (layer 10). -/
import Derived.Test.YtegbjglkglmgiaaCkD
import Derived.Test.YtegbjglkglmgiaaRowR
namespace Go.Proofs.Ytegbjglkglmgiaa
open Go.RowKit
set_option linter.unusedSimpArgs false

/-- The times that were seen last of each, among the first k stamps. -/
def timesA (l : List (Int × Int)) (k : Nat) : Array Value := #[.int .i64 (lastT l 0 k), .int .i64 (lastT l 1 k), .int .i64 (lastT l 2 k), .int .i64 (lastT l 3 k), .int .i64 (lastT l 4 k), .int .i64 (lastT l 5 k), .int .i64 (lastT l 6 k)]
theorem timesA_at (l : List (Int × Int)) (k j : Nat) (hj : j ≤ 6) : (timesA l k)[j]? = some (.int .i64 (lastT l (j : Int) k)) := by
  rcases (show j = 0 ∨ j = 1 ∨ j = 2 ∨ j = 3 ∨ j = 4 ∨ j = 5 ∨ j = 6 by omega) with rfl | rfl | rfl | rfl | rfl | rfl | rfl <;> rfl
theorem lastT_none (l : List (Int × Int)) (x : Int) (k : Nat) (h : ¬ (1 ≤ x ∧ x ≤ 6)) : lastT l x k = 0 := by
  induction k with
  | zero => rfl
  | succ k ih =>
    show (if _ then _ else _) = _
    rw [if_neg (fun hh => h (by rw [← hh.2.1]; exact ⟨hh.1.2.2.1, hh.1.2.2.2⟩)), ih]
theorem lastT_same (l : List (Int × Int)) (x : Int) (k : Nat) (h : ¬ MayS (stL l k)) : lastT l x (k + 1) = lastT l x k := by
  show (if _ then _ else _) = _
  rw [if_neg (fun hh => h hh.1)]
theorem lastT_other (l : List (Int × Int)) (x : Int) (k : Nat) (h : (stL l k).2 ≠ x) : lastT l x (k + 1) = lastT l x k := by
  show (if _ then _ else _) = _
  rw [if_neg (fun hh => h hh.2.1)]
theorem lastT_it (l : List (Int × Int)) (k : Nat) (h : MayS (stL l k)) : lastT l (stL l k).2 (k + 1) = max (lastT l (stL l k).2 k) (stL l k).1 := by
  show (if _ then _ else _) = _
  by_cases hh : lastT l (stL l k).2 k < (stL l k).1
  · rw [if_pos ⟨h, rfl, hh⟩]; omega
  · rw [if_neg (fun h2 => hh h2.2.2)]; omega
theorem timesA_same (l : List (Int × Int)) (k : Nat) (h : ¬ MayS (stL l k)) : timesA l (k + 1) = timesA l k := by
  unfold timesA
  simp only [lastT_same l _ k h]
theorem timesA_set (l : List (Int × Int)) (k : Nat) (h : MayS (stL l k)) (u : Nat) (hu : (stL l k).2 = (u : Int)) : (timesA l k).setIfInBounds u (.int .i64 (max (lastT l (u : Int) k) (stL l k).1)) = timesA l (k + 1) := by
  have h6 := h.2.2
  rw [hu] at h6
  apply Array.ext_getElem?
  intro j
  rw [Array.getElem?_setIfInBounds]
  have hs : (timesA l k).size = 7 := rfl
  by_cases hj : j ≤ 6
  · rw [timesA_at l (k + 1) j hj]
    by_cases e : u = j
    · subst e
      rw [if_pos rfl, if_pos (by rw [hs]; omega), ← hu, lastT_it l k h]
    · rw [if_neg e, timesA_at l k j hj, lastT_other l j k (by rw [hu]; omega)]
  · rw [if_neg (by omega), Array.getElem?_eq_none (by show 7 ≤ j; omega), Array.getElem?_eq_none (by show 7 ≤ j; omega)]

set_option maxHeartbeats 1000000 in
set_option maxRecDepth 100000 in
/-- The closure: what one was seen with last. -/
theorem seen_any (x : Int) (h : Nat) (l : List (Int × Int)) (k : Nat) (w : World) (hb : Blk w 57 h (timesA l k)) :
    Calls Try.prog 26 #[.int .i64 x, .pointer (some ⟨h, 0, none⟩)] w fun e w' => e = .returned (.int .i64 (lastT l x k)) ∧ w' = w := by
  have C' := isClient_any x w
  by_cases hx : 1 ≤ x ∧ x ≤ 6
  · rw [decide_eq_true hx] at C'
    have C : Hid (Calls Try.prog 22 #[.int .i64 x] w fun e w' => e = .returned (.bool true) ∧ w' = w) := C'
    obtain ⟨j, hj⟩ : ∃ j : Nat, x = (j : Int) := ⟨x.toNat, by omega⟩
    subst hj
    have hj6 : j ≤ 6 := by omega
    have c0 : w.cell? ⟨h, j, none⟩ = some (.int .i64 (lastT l (j : Int) k)) := by rw [hb.cell j, timesA_at l k j hj6]
    obtain ⟨E, HE⟩ : ∃ E, Hid (E = lastT l (j : Int) k) := ⟨_, rfl⟩
    rw [← HE.out] at c0 ⊢
    have j7 : (j : Int) < 7 := by omega
    clear C' hb hx HE
    go_enter Try.func26, Try.ntmps26
    go_wp2_with fail
    refine Calls.mono C.out ?_
    rintro e w1 ⟨rfl, hw1⟩
    subst hw1
    go_wp2
    go_ret
    exact ⟨rfl, rfl⟩
  · rw [decide_eq_false hx] at C'
    have C : Hid (Calls Try.prog 22 #[.int .i64 x] w fun e w' => e = .returned (.bool false) ∧ w' = w) := C'
    rw [lastT_none l x k hx]
    clear C' hb hx
    go_enter Try.func26, Try.ntmps26
    go_wp2_with fail
    refine Calls.mono C.out ?_
    rintro e w1 ⟨rfl, hw1⟩
    subst hw1
    go_wp2
    go_ret
    exact ⟨rfl, rfl⟩
end Go.Proofs.Ytegbjglkglmgiaa
