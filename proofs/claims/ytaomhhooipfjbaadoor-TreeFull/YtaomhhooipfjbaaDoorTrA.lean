/- Layer 11 on plain data: operations put among others. -/
import Derived.Test.YtaomhhooipfjbaaDoorTrP
import Derived.Test.YtaomhhooipfjbaaDoorRTrG
namespace Go.Proofs.YtaomhhooipfjbaaDoor
open Go.RowKit
set_option linter.unusedSimpArgs false

/-- A tree: nodes for good, operations, the base. -/
abbrev TreeT := List NodeT × List OpT × (Int × Int)

/-- Where an operation is put; how many are OpCreate; is there one with a stamp? -/
def posO (s : Int × Int) (ops : List OpT) : Nat := ops.findIdx (fun x => decide (LessS s x.2.1))

def creO (ops : List OpT) : Nat := ops.countP (fun x => decide (x.1 = 1))

def dupO (s : Int × Int) (ops : List OpT) : Bool := ops.any (fun x => decide (x.2.1 = s))

def putO (o : OpT) (ops : List OpT) : List OpT := ops.take (posO o.2.1 ops) ++ o :: ops.drop (posO o.2.1 ops)

/-- A tree behind an operation that comes, and what is answered. (M: which operations may be.) -/
def applyP (M : OpT → Bool) (t : TreeT) (o : OpT) : TreeT × Int :=
  if M o = false ∨ ¬ LessS t.2.2 o.2.1 then (t, 1)
  else if dupO o.2.1 t.2.1 = true then (t, 0)
  else if 512 ≤ t.2.1.length ∨ (o.1 = 1 ∧ 512 ≤ t.1.length + creO t.2.1) then (t, 2)
  else ((t.1, putO o t.2.1, t.2.2), 0)

theorem mayM_ex : ∃ M : OpT → Bool, ∀ o, M o = true ↔ MayO o :=
  ⟨fun o => @decide (MayO o) (Classical.propDecidable _), fun o => by simp⟩

theorem drop_oL (ops : List OpT) (m : Nat) (h : m < ops.length) : ops.drop m = oL ops m :: ops.drop (m + 1) := by
  have e : oL ops m = ops[m] := by unfold oL; rw [List.getD_eq_getElem?_getD, List.getElem?_eq_getElem h]; rfl
  rw [e]; exact List.drop_eq_getElem_cons h

theorem posO_le (s : Int × Int) (ops : List OpT) : posO s ops ≤ ops.length := List.findIdx_le_length

theorem posO_cons (s : Int × Int) (x : OpT) (l : List OpT) : posO s (x :: l) = if LessS s x.2.1 then 0 else posO s l + 1 := by
  unfold posO
  rw [List.findIdx_cons]
  by_cases h : LessS s x.2.1
  · rw [if_pos h, decide_eq_true h]; rfl
  · rw [if_neg h, decide_eq_false h]; rfl

theorem creO_cons (x : OpT) (l : List OpT) : creO (x :: l) = creO l + (if x.1 = 1 then 1 else 0) := by
  unfold creO
  rw [List.countP_cons]
  simp

theorem dupO_cons (s : Int × Int) (x : OpT) (l : List OpT) : dupO s (x :: l) = (decide (x.2.1 = s) || dupO s l) := rfl

theorem creO_le (l : List OpT) : creO l ≤ l.length := List.countP_le_length

theorem posO_at (s : Int × Int) (ops : List OpT) (k : Nat) (hk : k < ops.length) (h : ∀ i, i < k → ¬ LessS s (oL ops i).2.1) (hl : LessS s (oL ops k).2.1) : posO s ops = k := by
  have e : ∀ i (hi : i < ops.length), oL ops i = ops[i] := fun i hi => by unfold oL; rw [List.getD_eq_getElem?_getD, List.getElem?_eq_getElem hi]; rfl
  unfold posO
  rw [List.findIdx_eq hk]
  refine ⟨by rw [← e k hk]; exact decide_eq_true hl, fun j hj => ?_⟩
  rw [← e j (by omega)]; exact decide_eq_false (h j hj)

theorem posO_all (s : Int × Int) (ops : List OpT) (h : ∀ i, i < ops.length → ¬ LessS s (oL ops i).2.1) : posO s ops = ops.length := by
  unfold posO
  rw [List.findIdx_eq_length]
  intro x hx
  obtain ⟨i, hi, rfl⟩ := List.getElem_of_mem hx
  have e : oL ops i = ops[i] := by unfold oL; rw [List.getD_eq_getElem?_getD, List.getElem?_eq_getElem hi]; rfl
  rw [← e]; exact decide_eq_false (h i hi)

end Go.Proofs.YtaomhhooipfjbaaDoor
