/- Layer 19 on plain data: records. Nothing of the program. -/
import Derived.Test.YtkmdajenbidaaaaDoorWiQ
import Derived.Test.YtkmdajenbidaaaaDoorNmFew
namespace Go.Proofs.YtkmdajenbidaaaaDoor
open Go.RowKit
set_option maxRecDepth 100000
set_option linter.unusedSimpArgs false
set_option linter.unusedVariables false

/-- A record's wraps: Who, Text. -/
def wrL (l : List (Int × ByteArray)) (i : Nat) : Int × ByteArray := l.getD i (0, ByteArray.empty)
def WrAt (w : World) (a : Option Addr) (n : Nat) (l : List (Int × ByteArray)) : Prop :=
  l.length = n ∧ (n = 0 ∨ ∃ b off, a = some ⟨b, off, none⟩ ∧ ∀ i, i < n → w.cell? ⟨b, off + i * 2, none⟩ = some (.int .i64 (wrL l i).1) ∧ w.cell? ⟨b, off + i * 2 + 1, none⟩ = some (.string (wrL l i).2))
theorem WrAt.below {w w' : World} {a : Option Addr} {n : Nat} {l : List (Int × ByteArray)} (h : WrAt w a n l) (hb : Below w.heap.size w w') : WrAt w' a n l := by
  refine ⟨h.1, h.2.imp id (fun ⟨b, off, e, hc⟩ => ⟨b, off, e, fun i hi => ?_⟩)⟩
  obtain ⟨h0, h1⟩ := hc i hi
  exact ⟨by rw [hb.cell (World.block_lt_of_cell? w _ h0)]; exact h0, by rw [hb.cell (World.block_lt_of_cell? w _ h1)]; exact h1⟩
/-- May the wrap at i be? May wraps be? -/
def OneW (l : List (Int × ByteArray)) (i : Nat) : Prop := 1 ≤ (wrL l i).1 ∧ (wrL l i).1 ≤ 6 ∧ (wrL l i).2.size = 48 ∧ (0 < i → (wrL l (i - 1)).1 < (wrL l i).1)
def MayW (l : List (Int × ByteArray)) : Prop := (∀ i, i < l.length → OneW l i) ∧ l.length ≤ 6

theorem wrL_get (l : List (Int × ByteArray)) (i : Nat) (h : i < l.length) : wrL l i = l[i] := by
  unfold wrL; rw [List.getD_eq_getElem?_getD, List.getElem?_eq_getElem h]; rfl

def oneWb (l : List (Int × ByteArray)) (i : Nat) : Bool := decide (1 ≤ (wrL l i).1) && decide ((wrL l i).1 ≤ 6) && decide ((wrL l i).2.size = 48) && (decide (i = 0) || decide ((wrL l (i - 1)).1 < (wrL l i).1))

theorem oneWb_iff (l : List (Int × ByteArray)) (i : Nat) : oneWb l i = true ↔ OneW l i := by
  unfold oneWb OneW
  simp only [Bool.and_eq_true, Bool.or_eq_true, decide_eq_true_eq, and_assoc]
  refine ⟨fun h => ⟨h.1, h.2.1, h.2.2.1, fun k => h.2.2.2.resolve_left (by omega)⟩, fun h => ⟨h.1, h.2.1, h.2.2.1, ?_⟩⟩
  by_cases hi : i = 0
  · exact .inl hi
  · exact .inr (h.2.2.2 (by omega))

def mayWb (l : List (Int × ByteArray)) : Bool := (List.range l.length).all (oneWb l) && decide (l.length ≤ 6)

theorem mayWb_iff (l : List (Int × ByteArray)) : mayWb l = true ↔ MayW l := by
  unfold mayWb MayW
  rw [Bool.and_eq_true, decide_eq_true_eq, List.all_eq_true]
  refine ⟨fun h => ⟨fun i hi => (oneWb_iff l i).1 (h.1 i (List.mem_range.2 hi)), h.2⟩, fun h => ⟨fun i hi => (oneWb_iff l i).2 (h.1 i (List.mem_range.1 hi)), h.2⟩⟩

/-- A record: Kind, From, Count, Seq, Head, Op, Who, Wraps. -/
abbrev RecT := Int × Int × Int × Int × ByteArray × OpT × Int × List (Int × ByteArray)

/-- A record's cells. -/
def recA (R : RecT) (a : Option Addr) (c : Nat) : Array Value := #[.int .i64 R.1, .int .i64 R.2.1, .int .i64 R.2.2.1, .int .i64 R.2.2.2.1, .string R.2.2.2.2.1,
  .int .i64 R.2.2.2.2.2.1.1, .int .i64 R.2.2.2.2.2.1.2.1.1, .int .i64 R.2.2.2.2.2.1.2.1.2, .int .i64 R.2.2.2.2.2.1.2.2.1.1, .int .i64 R.2.2.2.2.2.1.2.2.1.2, .int .i64 R.2.2.2.2.2.1.2.2.2.1.1, .int .i64 R.2.2.2.2.2.1.2.2.2.1.2, .string R.2.2.2.2.2.1.2.2.2.2.1, .string R.2.2.2.2.2.1.2.2.2.2.2,
  .int .i64 R.2.2.2.2.2.2.1, .slice a R.2.2.2.2.2.2.2.length c]

def rec0 : RecT := (0, 0, 0, 0, ⟨#[]⟩, op0, 0, [])

/-- Has a record what its kind names, and nothing else? -/
def ownRb (M : OpT → Bool) (K F : Int) (o : OpT) (q : Int) (l : List (Int × ByteArray)) : Bool :=
  if K = 1 then M o && decide (o.2.1.2 = F) && decide (q = 0) && decide (l.length = 0)
  else if K = 2 ∨ K = 3 then decide (o = op0) && decide (1 ≤ q ∧ q ≤ 6) && mayWb l
  else if K = 4 then decide (o = op0) && decide (q = 0) && mayWb l
  else false

/-- May a record be? -/
def mayRb (M : OpT → Bool) (R : RecT) : Bool :=
  (decide (1 ≤ R.2.1 ∧ R.2.1 ≤ 6) && decide (1 ≤ R.2.2.1) && decide (0 ≤ R.2.2.1 ∧ R.2.2.1 ≤ 1099511627775) && decide (0 ≤ R.2.2.2.1 ∧ R.2.2.2.1 ≤ 1099511627775) && decide (R.2.2.2.2.1.size = 32)) && ownRb M R.1 R.2.1 R.2.2.2.2.2.1 R.2.2.2.2.2.2.1 R.2.2.2.2.2.2.2

theorem mayR_parts {M : OpT → Bool} {K F C S : Int} {H : ByteArray} {o : OpT} {q : Int} {l : List (Int × ByteArray)} (h : mayRb M (K, F, C, S, H, o, q, l) = true) :
    ((1 ≤ F ∧ F ≤ 6) ∧ (1 ≤ C ∧ C ≤ 1099511627775) ∧ (0 ≤ S ∧ S ≤ 1099511627775) ∧ H.size = 32) ∧
    ((K = 1 ∧ M o = true ∧ o.2.1.2 = F ∧ q = 0 ∧ l.length = 0) ∨ (¬ K = 1 ∧ 2 ≤ K ∧ K ≤ 4 ∧ o = op0 ∧ 0 ≤ q ∧ q ≤ 6 ∧ MayW l)) := by
  unfold mayRb ownRb at h
  simp only [Bool.and_eq_true, decide_eq_true_eq] at h
  obtain ⟨⟨⟨⟨⟨h1, h2⟩, h3⟩, h4⟩, h5⟩, h6⟩ := h
  refine ⟨⟨h1, ⟨h2, h3.2⟩, h4, h5⟩, ?_⟩
  by_cases k1 : K = 1
  · rw [if_pos k1] at h6
    simp only [Bool.and_eq_true, decide_eq_true_eq] at h6
    exact .inl ⟨k1, h6.1.1.1, h6.1.1.2, h6.1.2, h6.2⟩
  · rw [if_neg k1] at h6
    refine .inr ⟨k1, ?_⟩
    by_cases k2 : K = 2 ∨ K = 3
    · rw [if_pos k2] at h6
      simp only [Bool.and_eq_true, decide_eq_true_eq] at h6
      exact ⟨by omega, by omega, h6.1.1, by omega, h6.1.2.2, (mayWb_iff l).1 h6.2⟩
    · rw [if_neg k2] at h6
      by_cases k4 : K = 4
      · rw [if_pos k4] at h6
        simp only [Bool.and_eq_true, decide_eq_true_eq] at h6
        exact ⟨by omega, by omega, h6.1.1, by omega, by omega, (mayWb_iff l).1 h6.2⟩
      · rw [if_neg k4] at h6; cases h6

/-- The parts of a wrap, of a record. -/
def wrPs (x : Int × ByteArray) : List (Int × Int × Int × ByteArray) := [(1, x.1, 0, ⟨#[]⟩), (4, 0, 0, x.2)]

def rcHd (K F C S : Int) (H b : ByteArray) (q n : Int) : List (Int × Int × Int × ByteArray) := [(1, K, 0, ⟨#[]⟩), (1, F, 0, ⟨#[]⟩), (2, C, 0, ⟨#[]⟩), (2, S, 0, ⟨#[]⟩), (4, 0, 0, H), (4, 0, 0, b), (1, q, 0, ⟨#[]⟩), (1, n, 0, ⟨#[]⟩)]

def rcPs (R : RecT) (b : ByteArray) : List (Int × Int × Int × ByteArray) := rcHd R.1 R.2.1 R.2.2.1 R.2.2.2.1 R.2.2.2.2.1 b R.2.2.2.2.2.2.1 (R.2.2.2.2.2.2.2.length : Int) ++ R.2.2.2.2.2.2.2.flatMap wrPs

/-- What a record is put as. -/
def putRC (M : OpT → Bool) (R : RecT) : ByteArray × Int := putB (mayRb M R) (rcPs R (putOpP M R.2.2.2.2.2.1).1)

theorem encP_size19 (p : Int × Int × Int × ByteArray) : (encP p).size = if kd p = 1 then 1 else if kd p = 2 then 6 else if kd p = 3 then 7 else 2 + (ps p).size := by
  unfold encP
  repeat' split
  all_goals (first | rw [bigB_size] | (rw [ByteArray.size_append, bigB_size, bigB_size]) | (rw [ByteArray.size_append, bigB_size]))

theorem opPs_size (o : OpT) : (encA (opPs o)).size = 26 + o.2.2.2.2.1.size + o.2.2.2.2.2.size := by
  unfold opPs
  simp only [encA, ByteArray.size_append, encP_size19, kd, ps, ByteArray.size_empty]
  simp
  omega

/-- An operation that may be is put. -/
theorem may_put (M : OpT → Bool) (hM : ∀ o, M o = true ↔ MayO o) (o : OpT) (h : M o = true) : putOpP M o = (encA (opPs o), 0) ∧ (encA (opPs o)).size ≤ 2074 := by
  have h1 := (hM o).1 h
  have hf := may_few h1
  have hz := opPs_size o
  refine ⟨put_fit M o h ?_ (by omega), by omega⟩
  obtain ⟨k, ⟨a1, a2⟩, ⟨n1, n2⟩, ⟨p1, p2⟩, s, t⟩ := o
  obtain ⟨g1, g2, g3⟩ := h1
  simp only [MayS] at g1 g2
  have e1 : 1 ≤ k ∧ k ≤ 5 := by
    rcases g3 with g | g | g | g | g <;> exact ⟨by have := g.1; simp only at this; omega, by have := g.1; simp only at this; omega⟩
  have e3 : stampOk p1 p2 = true := by
    unfold stampOk
    rw [Bool.and_eq_true, oneOk_iff, oneOk_iff]
    rcases g3 with g | g | g | g | g
    · rcases g.2.2.1 with j | j <;> (simp only [MayS] at j; omega)
    · rcases g.2.1 with j | j <;> (simp only [MayS] at j; omega)
    all_goals (have j := g.2.1; simp only [Prod.mk.injEq] at j; omega)
  intro p hp
  unfold opPs at hp
  simp only [List.mem_cons, List.not_mem_nil, or_false] at hp
  simp only at hf
  rcases hp with rfl | rfl | rfl | rfl | rfl | rfl
  · exact byte_okP _ _ _ ((oneOk_iff _ _).2 (by omega))
  · exact stamp_okP _ _ _ (by unfold stampOk; rw [Bool.and_eq_true, oneOk_iff, oneOk_iff]; omega)
  · exact stamp_okP _ _ _ (by unfold stampOk; rw [Bool.and_eq_true, oneOk_iff, oneOk_iff]; omega)
  · exact stamp_okP _ _ _ e3
  · exact text_okP _ _ _ (by omega)
  · exact text_okP _ _ _ (by omega)

theorem may_op0 (M : OpT → Bool) (hM : ∀ o, M o = true ↔ MayO o) : M op0 = false := by
  cases h : M op0 with
  | false => rfl
  | true =>
    have := ((hM op0).1 h).1
    simp only [MayS, op0] at this
    omega

theorem put_op0 (M : OpT → Bool) (hM : ∀ o, M o = true ↔ MayO o) : putOpP M op0 = (⟨#[]⟩, 1) := by
  unfold putOpP
  rw [may_op0 M hM]
  rfl

theorem take_noB (M : OpT → Bool) (hM : ∀ o, M o = true ↔ MayO o) : takeOpC M ⟨#[]⟩ = (op0, 91) := by
  apply takeC_none
  intro o ho
  obtain ⟨h1, _, h3⟩ := put_inv M o _ ho
  have := opPs_size o
  rw [← h3] at this
  have h0 : (⟨#[]⟩ : ByteArray).size = 0 := rfl
  omega

def readWrC (i : ByteArray × Int) : (ByteArray × Int) × (Int × ByteArray) :=
  ((inTextC (numberP i 1).1 48).1, (((numberP i 1).2 : Int), (inTextC (numberP i 1).1 48).2))

def readWrP (i : ByteArray × Int) : (ByteArray × Int) × (Int × ByteArray) :=
  ((inTextP (numberP i 1).1 48).1, (((numberP i 1).2 : Int), (inTextP (numberP i 1).1 48).2))

/-- A record's head as it is read: what is left, Kind, From, Count, Seq. -/
def readRh (i : ByteArray × Int) : (ByteArray × Int) × (Int × Int × Int × Int) :=
  let a := numberP i 1
  let b := numberP a.1 1
  let c := inNumP b.1
  let d := inNumP c.1
  (d.1, ((a.2 : Int), (b.2 : Int), (c.2 : Int), (d.2 : Int)))

/-- As the code reads: what is left, the record, the operation's bytes beside it. -/
def readRC (M : OpT → Bool) (i : ByteArray × Int) : (ByteArray × Int) × RecT :=
  let h := readRh i
  let g := inTextC h.1 32
  let o := inTextC g.1 65536
  let q := numberP o.1 1
  let n := numberP q.1 1
  let l := readLW readWrC n.2 n.1
  (l.1, (h.2.1, h.2.2.1, h.2.2.2.1, h.2.2.2.2, g.2, (takeOpC M o.2).1, (q.2 : Int), l.2))

/-- As the document reads: how many there are told, what is left, the operation's bytes, the record (but for its operation). -/
def readRP (i : ByteArray × Int) : Nat × (ByteArray × Int) × ByteArray × RecT :=
  let h := readRh i
  let g := inTextP h.1 32
  let o := inTextP g.1 4096
  let q := numberP o.1 1
  let n := numberP q.1 1
  let l := readLW readWrP (min n.2 7) n.1
  (n.2, l.1, o.2, (h.2.1, h.2.2.1, h.2.2.2.1, h.2.2.2.2, g.2, op0, (q.2 : Int), l.2))

def takeRC (M : OpT → Bool) (s : ByteArray) : RecT × Int := if (putRC M (readRC M (s, 0)).2).2 ≠ 0 ∨ (putRC M (readRC M (s, 0)).2).1 ≠ s then (rec0, 190) else ((readRC M (s, 0)).2, 0)

/-- The record with another operation. -/
def withOp (R : RecT) (o : OpT) : RecT := (R.1, R.2.1, R.2.2.1, R.2.2.2.1, R.2.2.2.2.1, o, R.2.2.2.2.2.2.1, R.2.2.2.2.2.2.2)

def takeRP (M : OpT → Bool) (s : ByteArray) : RecT × Int :=
  if ¬ (readRP (s, 0)).2.2.1.size = 0 ∧ ¬ (takeOpP M (readRP (s, 0)).2.2.1).2 = 0 then (rec0, 190)
  else if inDoneP (readRP (s, 0)).2.1 ≠ 0 ∨ (readRP (s, 0)).2.2.2.2.2.2.2.2.2.2.length ≠ (readRP (s, 0)).1 ∨ mayRb M (withOp (readRP (s, 0)).2.2.2 (if (readRP (s, 0)).2.2.1.size = 0 then op0 else (takeOpP M (readRP (s, 0)).2.2.1).1)) = false ∨ ¬ (¬ (readRP (s, 0)).2.2.1.size = 0 ↔ (readRP (s, 0)).2.2.2.1 = 1) then (rec0, 190)
  else (withOp (readRP (s, 0)).2.2.2 (if (readRP (s, 0)).2.2.1.size = 0 then op0 else (takeOpP M (readRP (s, 0)).2.2.1).1), 0)

end Go.Proofs.YtkmdajenbidaaaaDoor
