import Derived.Test.YtkmdajenbidaaaaDoorR10
import Derived.Test.YtkmdajenbidaaaaDoorBA
import Derived.BigQuiet
/- Rows of structs; the document's parent, find (layer 11). -/
namespace Go.Proofs.YtkmdajenbidaaaaDoor
open Go.RowKit
set_option maxRecDepth 100000
set_option linter.unusedSimpArgs false

/-- Nodes. -/
def nL (l : List ((Int × Int) × (Int × Int) × ByteArray × ByteArray)) (i : Nat) : (Int × Int) × (Int × Int) × ByteArray × ByteArray := l.getD i ((0, 0), (0, 0), ByteArray.empty, ByteArray.empty)

def NodesAt (w : World) (a : Option Addr) (n : Nat) (l : List ((Int × Int) × (Int × Int) × ByteArray × ByteArray)) : Prop := l.length = n ∧ RowsAt w a n 6 (fun i => nodeA (nL l i))

theorem NodesAt.below {w w' : World} {a : Option Addr} {n : Nat} {l : List ((Int × Int) × (Int × Int) × ByteArray × ByteArray)} (h : NodesAt w a n l) (hb : Below w.heap.size w w') : NodesAt w' a n l := ⟨h.1, h.2.below (Nat.le_refl _) hb⟩

theorem NodesAt.cells {w : World} {b off n : Nat} {l : List ((Int × Int) × (Int × Int) × ByteArray × ByteArray)} (h : NodesAt w (some ⟨b, off, none⟩) n l) (i : Nat) (hi : i < n) :
    w.cell? ⟨b, off + i * 6, none⟩ = some (.int .i64 (nL l i).1.1) ∧ w.cell? ⟨b, off + i * 6 + 1, none⟩ = some (.int .i64 (nL l i).1.2) ∧ w.cell? ⟨b, off + i * 6 + 2, none⟩ = some (.int .i64 (nL l i).2.1.1) ∧ w.cell? ⟨b, off + i * 6 + 3, none⟩ = some (.int .i64 (nL l i).2.1.2) ∧ w.cell? ⟨b, off + i * 6 + 4, none⟩ = some (.string (nL l i).2.2.1) ∧ w.cell? ⟨b, off + i * 6 + 5, none⟩ = some (.string (nL l i).2.2.2) := by
  obtain ⟨b', off', ha, hc⟩ := h.2.some (by omega)
  simp only [Option.some.injEq, Addr.mk.injEq] at ha
  obtain ⟨rfl, rfl, _⟩ := ha
  have hh : ∀ j, j < 6 → ∀ v, (nodeA (nL l i))[j]? = some v → w.cell? ⟨b, off + i * 6 + j, none⟩ = some v := fun j hj v hv => by
    obtain ⟨u, h1, h2⟩ := hc i hi j hj
    rw [h2, ← h1]; exact hv
  exact ⟨hh 0 (by decide) _ rfl, hh 1 (by decide) _ rfl, hh 2 (by decide) _ rfl, hh 3 (by decide) _ rfl, hh 4 (by decide) _ rfl, hh 5 (by decide) _ rfl⟩

/-- May a stamp be one of a parent? -/
abbrev ParS (s : Int × Int) : Prop := MayS s ∨ (s.1 = 0 ∧ (s.2 = 0 ∨ s.2 = 1))

/-- Where a node stands; -1: nowhere. -/
def FindE (l : List ((Int × Int) × (Int × Int) × ByteArray × ByteArray)) (id : Int × Int) (r : Int) : Prop :=
  (r = -1 ∧ ∀ i, i < l.length → (nL l i).1 ≠ id) ∨ ∃ i : Nat, r = (i : Int) ∧ i < l.length ∧ (nL l i).1 = id ∧ ∀ j, j < i → (nL l j).1 ≠ id

theorem findE_uniq {l : List ((Int × Int) × (Int × Int) × ByteArray × ByteArray)} {id : Int × Int} {r q : Int} (h : FindE l id r) (k : FindE l id q) : r = q := by
  rcases h with ⟨h1, h2⟩ | ⟨i, h1, h2, h3, h4⟩ <;> rcases k with ⟨k1, k2⟩ | ⟨j, k1, k2, k3, k4⟩
  · omega
  · exact absurd k3 (h2 j k2)
  · exact absurd h3 (k2 i h2)
  · rcases Nat.lt_trichotomy i j with h | h | h
    · exact absurd h3 (k4 i h)
    · omega
    · exact absurd k3 (h4 j h)

theorem findE_is (l : List ((Int × Int) × (Int × Int) × ByteArray × ByteArray)) (id : Int × Int) : ∃ r, FindE l id r := by
  have key : ∀ k, (∀ i, i < k → i < l.length → (nL l i).1 ≠ id) ∨ ∃ i, i < k ∧ i < l.length ∧ (nL l i).1 = id ∧ ∀ j, j < i → (nL l j).1 ≠ id := by
    intro k
    induction k with
    | zero => exact .inl (fun i hi => absurd hi (Nat.not_lt_zero _))
    | succ k ih =>
      rcases ih with h | ⟨i, h1, h2⟩
      · by_cases hk : k < l.length ∧ (nL l k).1 = id
        · exact .inr ⟨k, by omega, hk.1, hk.2, fun j hj => h j hj (by omega)⟩
        · refine .inl (fun i hi hl => ?_)
          by_cases e : i = k
          · subst e; exact fun h' => hk ⟨hl, h'⟩
          · exact h i (by omega) hl
      · exact .inr ⟨i, by omega, h2⟩
  rcases key l.length with h | ⟨i, _, h2, h3, h4⟩
  · exact ⟨-1, .inl ⟨rfl, fun i hi => h i hi hi⟩⟩
  · exact ⟨i, .inr ⟨i, rfl, h2, h3, h4⟩⟩

end Go.Proofs.YtkmdajenbidaaaaDoor

/- The document's find, under (layer 11). -/
namespace Go.Proofs.YtkmdajenbidaaaaDoor
open Go.RowKit
set_option maxRecDepth 100000
set_option linter.unusedSimpArgs false

theorem stampEq_is (a b : Int × Int) (D : Bool) (h : decide (a = b) = D) (w : World) : (Op.equalIn 10000 30 (.agg #[.int .i64 a.1, .int .i64 a.2]) (.agg #[.int .i64 b.1, .int .i64 b.2])).run Tryd.prog w = .ok D w := by
  rw [stampEq, ← h]

end Go.Proofs.YtkmdajenbidaaaaDoor

/- The document's under (layer 11). -/
namespace Go.Proofs.YtkmdajenbidaaaaDoor
open Go.RowKit
set_option maxRecDepth 100000
set_option linter.unusedSimpArgs false

def findK (l : List ((Int × Int) × (Int × Int) × ByteArray × ByteArray)) (id : Int × Int) : Nat → Nat → Int
  | 0, _ => -1
  | f + 1, k => if (nL l k).1 = id then (k : Int) else findK l id f (k + 1)

def findI (l : List ((Int × Int) × (Int × Int) × ByteArray × ByteArray)) (id : Int × Int) : Int := findK l id l.length 0

theorem findK_E (l : List ((Int × Int) × (Int × Int) × ByteArray × ByteArray)) (id : Int × Int) (f : Nat) : ∀ k, k + f = l.length → (∀ j, j < k → (nL l j).1 ≠ id) → FindE l id (findK l id f k) := by
  induction f with
  | zero => exact fun k hk h => .inl ⟨rfl, fun i hi => h i (by omega)⟩
  | succ f ih =>
    intro k hk h
    unfold findK
    by_cases he : (nL l k).1 = id
    · rw [if_pos he]; exact .inr ⟨k, rfl, by omega, he, h⟩
    · rw [if_neg he]
      refine ih (k + 1) (by omega) (fun j hj => ?_)
      by_cases e : j = k
      · subst e; exact he
      · exact h j (by omega)

theorem findI_E (l : List ((Int × Int) × (Int × Int) × ByteArray × ByteArray)) (id : Int × Int) : FindE l id (findI l id) := findK_E l id l.length 0 (by omega) (fun j hj => absurd hj (Nat.not_lt_zero _))

theorem findI_lt (l : List ((Int × Int) × (Int × Int) × ByteArray × ByteArray)) (id : Int × Int) : findI l id = -1 ∨ ∃ k : Nat, findI l id = (k : Int) ∧ k < l.length ∧ (nL l k).1 = id := by
  rcases findI_E l id with ⟨h1, _⟩ | ⟨i, h1, h2, h3, _⟩
  · exact .inl h1
  · exact .inr ⟨i, h1, h2, h3⟩

/-- Is a stamp a node's, or below it? -/
def underF (l : List ((Int × Int) × (Int × Int) × ByteArray × ByteArray)) (id : Int × Int) : Nat → (Int × Int) → Bool
  | 0, _ => true
  | f + 1, p => if p = id then true else if findI l p < 0 then false else underF l id f (nL l (findI l p).toNat).2.1

end Go.Proofs.YtkmdajenbidaaaaDoor

/- The document's SameNodes, SameOps, Light (layer 11). -/
namespace Go.Proofs.YtkmdajenbidaaaaDoor
open Go.RowKit
set_option maxRecDepth 100000
set_option linter.unusedSimpArgs false

/-- Operations. -/
def oL (l : List (Int × (Int × Int) × (Int × Int) × (Int × Int) × ByteArray × ByteArray)) (i : Nat) : Int × (Int × Int) × (Int × Int) × (Int × Int) × ByteArray × ByteArray := l.getD i (0, (0, 0), (0, 0), (0, 0), ByteArray.empty, ByteArray.empty)

def OpsAt (w : World) (a : Option Addr) (n : Nat) (l : List (Int × (Int × Int) × (Int × Int) × (Int × Int) × ByteArray × ByteArray)) : Prop := l.length = n ∧ RowsAt w a n 9 (fun i => opA (oL l i))

theorem OpsAt.below {w w' : World} {a : Option Addr} {n : Nat} {l : List (Int × (Int × Int) × (Int × Int) × (Int × Int) × ByteArray × ByteArray)} (h : OpsAt w a n l) (hb : Below w.heap.size w w') : OpsAt w' a n l := ⟨h.1, h.2.below (Nat.le_refl _) hb⟩

theorem OpsAt.cells {w : World} {b off n : Nat} {l : List (Int × (Int × Int) × (Int × Int) × (Int × Int) × ByteArray × ByteArray)} (h : OpsAt w (some ⟨b, off, none⟩) n l) (i : Nat) (hi : i < n) :
    w.cell? ⟨b, off + i * 9, none⟩ = some (.int .i64 (oL l i).1) ∧ w.cell? ⟨b, off + i * 9 + 1, none⟩ = some (.int .i64 (oL l i).2.1.1) ∧ w.cell? ⟨b, off + i * 9 + 2, none⟩ = some (.int .i64 (oL l i).2.1.2) ∧ w.cell? ⟨b, off + i * 9 + 3, none⟩ = some (.int .i64 (oL l i).2.2.1.1) ∧ w.cell? ⟨b, off + i * 9 + 4, none⟩ = some (.int .i64 (oL l i).2.2.1.2) ∧ w.cell? ⟨b, off + i * 9 + 5, none⟩ = some (.int .i64 (oL l i).2.2.2.1.1) ∧ w.cell? ⟨b, off + i * 9 + 6, none⟩ = some (.int .i64 (oL l i).2.2.2.1.2) ∧ w.cell? ⟨b, off + i * 9 + 7, none⟩ = some (.string (oL l i).2.2.2.2.1) ∧ w.cell? ⟨b, off + i * 9 + 8, none⟩ = some (.string (oL l i).2.2.2.2.2) := by
  obtain ⟨b', off', ha, hc⟩ := h.2.some (by omega)
  simp only [Option.some.injEq, Addr.mk.injEq] at ha
  obtain ⟨rfl, rfl, _⟩ := ha
  have hh : ∀ j, j < 9 → ∀ v, (opA (oL l i))[j]? = some v → w.cell? ⟨b, off + i * 9 + j, none⟩ = some v := fun j hj v hv => by
    obtain ⟨u, h1, h2⟩ := hc i hi j hj
    rw [h2, ← h1]; exact hv
  exact ⟨hh 0 (by decide) _ rfl, hh 1 (by decide) _ rfl, hh 2 (by decide) _ rfl, hh 3 (by decide) _ rfl, hh 4 (by decide) _ rfl, hh 5 (by decide) _ rfl, hh 6 (by decide) _ rfl, hh 7 (by decide) _ rfl, hh 8 (by decide) _ rfl⟩

theorem opEq_is (x y : Int × (Int × Int) × (Int × Int) × (Int × Int) × ByteArray × ByteArray) (D : Bool) (h : decide (x = y) = D) (w : World) : (Op.equalIn 10000 32 (.agg (opA x)) (.agg (opA y))).run Tryd.prog w = .ok D w := by
  rw [opEq, ← h]

theorem same_list {α : Type} (d : α) (l m : List α) (h : l.length = m.length) (k : ∀ i, i < l.length → l.getD i d = m.getD i d) : l = m := by
  apply List.ext_getElem h
  intro i h1 h2
  have := k i h1
  rw [List.getD_eq_getElem?_getD, List.getD_eq_getElem?_getD, List.getElem?_eq_getElem h1, List.getElem?_eq_getElem h2] at this
  exact this

/-- Has an operation few bytes? -/
def LightO (o : Int × (Int × Int) × (Int × Int) × (Int × Int) × ByteArray × ByteArray) : Prop := o.2.2.2.2.1.size ≤ 200 ∧ o.2.2.2.2.2.size ≤ 200


set_option maxRecDepth 100000 in
set_option maxHeartbeats 2000000 in
theorem rlight_any (o : Int × (Int × Int) × (Int × Int) × (Int × Int) × ByteArray × ByteArray) (D : Bool) (hD : D = true ↔ LightO o) (w : World) (h7 : o.2.2.2.2.1.size ≤ maxLen) (h8 : o.2.2.2.2.2.size ≤ maxLen) :
    Calls Tryd.prog 10 #[.agg (opA o)] w fun e w' => e = .returned (.bool D) ∧ Below w.heap.size w w' := by
  obtain ⟨k, ⟨a, b⟩, ⟨c, d⟩, ⟨e, f⟩, s, t⟩ := o
  have h7' : s.size ≤ 9223372036854775807 := h7
  have h8' : t.size ≤ 9223372036854775807 := h8
  unfold opA
  show Calls Tryd.prog _ #[.agg #[.int .i64 k, .int .i64 a, .int .i64 b, .int .i64 c, .int .i64 d, .int .i64 e, .int .i64 f, .string s, .string t]] w _
  by_cases h1 : s.size ≤ 200
  · have g1 : decide ((s.size : Int) ≤ 200) = true := by simp; omega
    by_cases h2 : t.size ≤ 200
    · have g2 : decide ((t.size : Int) ≤ 200) = true := by simp; omega
      obtain rfl : D = true := hD.2 ⟨h1, h2⟩
      clear hD h1 h2 h7 h8
      go_enter Tryd.func10, Tryd.ntmps10
      go_wp2
      go_ret
      exact ⟨rfl, below_new w _⟩
    · have g2 : decide ((t.size : Int) ≤ 200) = false := by simp; omega
      obtain rfl : D = false := by
        cases D with
        | false => rfl
        | true => exact absurd (hD.1 rfl).2 h2
      clear hD h1 h2 h7 h8
      go_enter Tryd.func10, Tryd.ntmps10
      go_wp2
      go_ret
      exact ⟨rfl, below_new w _⟩
  · have g1 : decide ((s.size : Int) ≤ 200) = false := by simp; omega
    obtain rfl : D = false := by
      cases D with
      | false => rfl
      | true => exact absurd (hD.1 rfl).1 h1
    clear hD h1 h7 h8
    go_enter Tryd.func10, Tryd.ntmps10
    go_wp2
    go_ret
    exact ⟨rfl, below_new w _⟩

end Go.Proofs.YtkmdajenbidaaaaDoor

/- Rows of structs of the call's own; the document's with (layer 11). -/
namespace Go.Proofs.YtkmdajenbidaaaaDoor
open Go.RowKit
set_option maxRecDepth 100000
set_option linter.unusedSimpArgs false

/-- Nodes of the call's own. -/
def cellsN (l : List ((Int × Int) × (Int × Int) × ByteArray × ByteArray)) : List Value := l.flatMap (fun x => (nodeA x).toList)

theorem cellsN_at (l : List ((Int × Int) × (Int × Int) × ByteArray × ByteArray)) : ∀ i, i < l.length → ∀ j, j < 6 → ∃ u, (nodeA (nL l i))[j]? = some u ∧ (cellsN l)[i * 6 + j]? = some u := by
  induction l with
  | nil => intro i hi; exact absurd hi (Nat.not_lt_zero _)
  | cons x l ih =>
    intro i hi j hj
    have hs : (nodeA x).toList.length = 6 := rfl
    cases i with
    | zero =>
      refine ⟨(nodeA x)[j]'(by show j < 6; exact hj), ?_, ?_⟩
      · show (nodeA x)[j]? = _
        exact Array.getElem?_eq_getElem _
      · show ((nodeA x).toList ++ cellsN l)[0 * 6 + j]? = _
        rw [Nat.zero_mul, Nat.zero_add, List.getElem?_append_left (by rw [hs]; exact hj), Array.getElem?_toList]
        exact Array.getElem?_eq_getElem _
    | succ i =>
      obtain ⟨u, h1, h2⟩ := ih i (by simp at hi; omega) j hj
      refine ⟨u, ?_, ?_⟩
      · have : nL (x :: l) (i + 1) = nL l i := rfl
        rw [this]; exact h1
      · show ((nodeA x).toList ++ cellsN l)[(i + 1) * 6 + j]? = _
        rw [List.getElem?_append_right (by rw [hs]; omega), hs, show (i + 1) * 6 + j - 6 = i * 6 + j by omega]
        exact h2

theorem cellsN_snoc (l : List ((Int × Int) × (Int × Int) × ByteArray × ByteArray)) (x : (Int × Int) × (Int × Int) × ByteArray × ByteArray) : cellsN (l ++ [x]) = cellsN l ++ (nodeA x).toList := by
  unfold cellsN
  rw [List.flatMap_append]
  simp

/-- Nodes with one in place of its like, or more: behind the first k. -/
def withF (l : List ((Int × Int) × (Int × Int) × ByteArray × ByteArray)) (x : (Int × Int) × (Int × Int) × ByteArray × ByteArray) : Nat → List ((Int × Int) × (Int × Int) × ByteArray × ByteArray) × Bool
  | 0 => ([], false)
  | k + 1 =>
    let p := if (withF l x k).2 = false ∧ ¬ LessS (nL l k).1 x.1 then ((withF l x k).1 ++ [x], true) else withF l x k
    if (nL l k).1 = x.1 then p else (p.1 ++ [nL l k], p.2)

def withP (l : List ((Int × Int) × (Int × Int) × ByteArray × ByteArray)) (x : (Int × Int) × (Int × Int) × ByteArray × ByteArray) : List ((Int × Int) × (Int × Int) × ByteArray × ByteArray) :=
  if (withF l x l.length).2 then (withF l x l.length).1 else (withF l x l.length).1 ++ [x]

theorem withF_le (l : List ((Int × Int) × (Int × Int) × ByteArray × ByteArray)) (x : (Int × Int) × (Int × Int) × ByteArray × ByteArray) (k : Nat) : (withF l x k).1.length + (if (withF l x k).2 then 0 else 1) ≤ k + 1 := by
  induction k with
  | zero => exact Nat.le_refl _
  | succ k ih =>
    unfold withF
    simp only []
    generalize withF l x k = p at *
    obtain ⟨O, d⟩ := p
    cases d <;> (split <;> split <;> simp_all <;> omega)

end Go.Proofs.YtkmdajenbidaaaaDoor

/- Layer 11 on plain data: what it is to do an operation. Definitions alone. -/
namespace Go.Proofs.YtkmdajenbidaaaaDoor
open Go.RowKit
set_option maxRecDepth 100000
set_option linter.unusedSimpArgs false

abbrev NodeT := (Int × Int) × (Int × Int) × ByteArray × ByteArray

abbrev OpT := Int × (Int × Int) × (Int × Int) × (Int × Int) × ByteArray × ByteArray

/-- The parent that an operation names. -/
def parO (o : OpT) : Int × Int := if o.1 = 5 then (0, 1) else o.2.2.2.1

/-- Is a parent there? -/
def thereP (l : List NodeT) (p : Int × Int) : Bool := if p.1 = 0 then true else decide (0 ≤ findI l p)

/-- Nodes behind an operation. -/
def doP (l : List NodeT) (o : OpT) : List NodeT :=
  if o.1 = 1 then (if 0 ≤ findI l o.2.2.1 then l else if thereP l (parO o) = true then withP l (o.2.2.1, parO o, o.2.2.2.2.1, ⟨#[]⟩) else l)
  else if findI l o.2.2.1 < 0 then l
  else if o.1 = 3 then withP l ((nL l (findI l o.2.2.1).toNat).1, (nL l (findI l o.2.2.1).toNat).2.1, o.2.2.2.2.1, (nL l (findI l o.2.2.1).toNat).2.2.2)
  else if o.1 = 4 then withP l ((nL l (findI l o.2.2.1).toNat).1, (nL l (findI l o.2.2.1).toNat).2.1, (nL l (findI l o.2.2.1).toNat).2.2.1, o.2.2.2.2.2)
  else if thereP l (parO o) = true then (if underF l o.2.2.1 (l.length + 1) (parO o) = true then l else withP l ((nL l (findI l o.2.2.1).toNat).1, parO o, (nL l (findI l o.2.2.1).toNat).2.2.1, (nL l (findI l o.2.2.1).toNat).2.2.2))
  else l

end Go.Proofs.YtkmdajenbidaaaaDoor
