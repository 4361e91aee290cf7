import Derived.Test.YtabhkebkbidfhaaGreatDoorWiP
import Derived.Test.YtabhkebkbidfhaaGreatDoorR9
import Derived.Test.YtabhkebkbidfhaaGreatDoorBA
import Derived.Test.YtabhkebkbidfhaaGreatDoorRG
import Derived.Test.YtabhkebkbidfhaaGreatDoorRT
/- Layer 19 on plain data: records. Nothing of the program. -/
namespace Go.Proofs.YtabhkebkbidfhaaGreatDoor
open Go.RowKit
set_option maxRecDepth 100000
set_option linter.unusedSimpArgs false
set_option linter.unusedVariables false

/-- A record's wraps: Who, Text. -/
def wrL (l : List (Int × ByteArray)) (i : Nat) : Int × ByteArray := l.getD i (0, ByteArray.empty)
def WrAt (w : World) (a : Option Addr) (n : Nat) (l : List (Int × ByteArray)) : Prop :=
  l.length = n ∧ (n = 0 ∨ ∃ b off, a = some ⟨b, off, none⟩ ∧ ∀ i, i < n → w.cell? ⟨b, off + i * 2, none⟩ = some (.int .i64 (wrL l i).1) ∧ w.cell? ⟨b, off + i * 2 + 1, none⟩ = some (.string (wrL l i).2))
theorem WrAt.below {w w' : World} {a : Option Addr} {n : Nat} {l : List (Int × ByteArray)} (h : WrAt w a n l) (hb : Below w.heap.size w w') : WrAt w' a n l := by
  refine ⟨h.1, h.2.imp id (fun ⟨b, off, e, hc⟩ => ⟨b, off, e, fun i hi => ?_⟩)⟩
  obtain ⟨h0, h1⟩ := hc i hi
  exact ⟨by rw [hb.cell (World.block_lt_of_cell? w _ h0)]; exact h0, by rw [hb.cell (World.block_lt_of_cell? w _ h1)]; exact h1⟩
/-- May the wrap at i be? May wraps be? -/
def OneW (l : List (Int × ByteArray)) (i : Nat) : Prop := 1 ≤ (wrL l i).1 ∧ (wrL l i).1 ≤ 6 ∧ (wrL l i).2.size = 48 ∧ (0 < i → (wrL l (i - 1)).1 < (wrL l i).1)
def MayW (l : List (Int × ByteArray)) : Prop := (∀ i, i < l.length → OneW l i) ∧ l.length ≤ 6

def oneWb (l : List (Int × ByteArray)) (i : Nat) : Bool := decide (1 ≤ (wrL l i).1) && decide ((wrL l i).1 ≤ 6) && decide ((wrL l i).2.size = 48) && (decide (i = 0) || decide ((wrL l (i - 1)).1 < (wrL l i).1))

theorem oneWb_iff (l : List (Int × ByteArray)) (i : Nat) : oneWb l i = true ↔ OneW l i := by
  unfold oneWb OneW
  simp only [Bool.and_eq_true, Bool.or_eq_true, decide_eq_true_eq, and_assoc]
  refine ⟨fun h => ⟨h.1, h.2.1, h.2.2.1, fun k => h.2.2.2.resolve_left (by omega)⟩, fun h => ⟨h.1, h.2.1, h.2.2.1, ?_⟩⟩
  by_cases hi : i = 0
  · exact .inl hi
  · exact .inr (h.2.2.2 (by omega))

def mayWb (l : List (Int × ByteArray)) : Bool := (List.range l.length).all (oneWb l) && decide (l.length ≤ 6)

theorem mayWb_iff (l : List (Int × ByteArray)) : mayWb l = true ↔ MayW l := by
  unfold mayWb MayW
  rw [Bool.and_eq_true, decide_eq_true_eq, List.all_eq_true]
  refine ⟨fun h => ⟨fun i hi => (oneWb_iff l i).1 (h.1 i (List.mem_range.2 hi)), h.2⟩, fun h => ⟨fun i hi => (oneWb_iff l i).2 (h.1 i (List.mem_range.1 hi)), h.2⟩⟩

/-- A record: Kind, From, Count, Seq, Head, Op, Who, Wraps. -/
abbrev RecT := Int × Int × Int × Int × ByteArray × OpT × Int × List (Int × ByteArray)

/-- A record's cells. -/
def recA (R : RecT) (a : Option Addr) (c : Nat) : Array Value := #[.int .i64 R.1, .int .i64 R.2.1, .int .i64 R.2.2.1, .int .i64 R.2.2.2.1, .string R.2.2.2.2.1,
  .int .i64 R.2.2.2.2.2.1.1, .int .i64 R.2.2.2.2.2.1.2.1.1, .int .i64 R.2.2.2.2.2.1.2.1.2, .int .i64 R.2.2.2.2.2.1.2.2.1.1, .int .i64 R.2.2.2.2.2.1.2.2.1.2, .int .i64 R.2.2.2.2.2.1.2.2.2.1.1, .int .i64 R.2.2.2.2.2.1.2.2.2.1.2, .string R.2.2.2.2.2.1.2.2.2.2.1, .string R.2.2.2.2.2.1.2.2.2.2.2,
  .int .i64 R.2.2.2.2.2.2.1, .slice a R.2.2.2.2.2.2.2.length c]

/-- Has a record what its kind names, and nothing else? -/
def ownRb (M : OpT → Bool) (K F : Int) (o : OpT) (q : Int) (l : List (Int × ByteArray)) : Bool :=
  if K = 1 then M o && decide (o.2.1.2 = F) && decide (q = 0) && decide (l.length = 0)
  else if K = 2 ∨ K = 3 then decide (o = op0) && decide (1 ≤ q ∧ q ≤ 6) && mayWb l
  else if K = 4 then decide (o = op0) && decide (q = 0) && mayWb l
  else false

/-- May a record be? -/
def mayRb (M : OpT → Bool) (R : RecT) : Bool :=
  (decide (1 ≤ R.2.1 ∧ R.2.1 ≤ 6) && decide (1 ≤ R.2.2.1) && decide (0 ≤ R.2.2.1 ∧ R.2.2.1 ≤ 1099511627775) && decide (0 ≤ R.2.2.2.1 ∧ R.2.2.2.1 ≤ 1099511627775) && decide (R.2.2.2.2.1.size = 32)) && ownRb M R.1 R.2.1 R.2.2.2.2.2.1 R.2.2.2.2.2.2.1 R.2.2.2.2.2.2.2

theorem mayR_parts {M : OpT → Bool} {K F C S : Int} {H : ByteArray} {o : OpT} {q : Int} {l : List (Int × ByteArray)} (h : mayRb M (K, F, C, S, H, o, q, l) = true) :
    ((1 ≤ F ∧ F ≤ 6) ∧ (1 ≤ C ∧ C ≤ 1099511627775) ∧ (0 ≤ S ∧ S ≤ 1099511627775) ∧ H.size = 32) ∧
    ((K = 1 ∧ M o = true ∧ o.2.1.2 = F ∧ q = 0 ∧ l.length = 0) ∨ (¬ K = 1 ∧ 2 ≤ K ∧ K ≤ 4 ∧ o = op0 ∧ 0 ≤ q ∧ q ≤ 6 ∧ MayW l)) := by
  unfold mayRb ownRb at h
  simp only [Bool.and_eq_true, decide_eq_true_eq] at h
  obtain ⟨⟨⟨⟨⟨h1, h2⟩, h3⟩, h4⟩, h5⟩, h6⟩ := h
  refine ⟨⟨h1, ⟨h2, h3.2⟩, h4, h5⟩, ?_⟩
  by_cases k1 : K = 1
  · rw [if_pos k1] at h6
    simp only [Bool.and_eq_true, decide_eq_true_eq] at h6
    exact .inl ⟨k1, h6.1.1.1, h6.1.1.2, h6.1.2, h6.2⟩
  · rw [if_neg k1] at h6
    refine .inr ⟨k1, ?_⟩
    by_cases k2 : K = 2 ∨ K = 3
    · rw [if_pos k2] at h6
      simp only [Bool.and_eq_true, decide_eq_true_eq] at h6
      exact ⟨by omega, by omega, h6.1.1, by omega, h6.1.2.2, (mayWb_iff l).1 h6.2⟩
    · rw [if_neg k2] at h6
      by_cases k4 : K = 4
      · rw [if_pos k4] at h6
        simp only [Bool.and_eq_true, decide_eq_true_eq] at h6
        exact ⟨by omega, by omega, h6.1.1, by omega, by omega, (mayWb_iff l).1 h6.2⟩
      · rw [if_neg k4] at h6; cases h6

end Go.Proofs.YtabhkebkbidfhaaGreatDoor
