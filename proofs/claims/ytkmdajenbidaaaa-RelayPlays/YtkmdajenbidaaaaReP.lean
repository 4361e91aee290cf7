/- Layer 21 on plain data: what a relay has, what it answers. Nothing of the program. -/
import Derived.Test.YtkmdajenbidaaaaWiQ
namespace Go.Proofs.Ytkmdajenbidaaaa
open Go.RowKit
set_option maxRecDepth 100000
set_option linter.unusedSimpArgs false
set_option linter.unusedVariables false

abbrev ItT := Int × Int × ByteArray
/-- Group, quota, the snapshot (its number is the base), the records behind it. -/
abbrev RlT := Int × Int × ItT × List ItT

def sizeL : List ItT → Nat
  | [] => 0
  | x :: l => x.2.2.size + sizeL l

theorem sizeL_append (l m : List ItT) : sizeL (l ++ m) = sizeL l + sizeL m := by
  induction l with
  | nil => simp [sizeL]
  | cons x l ih => simp [sizeL, ih]; omega

theorem sizeL_split (l : List ItT) (k : Nat) : sizeL (l.take k) + sizeL (l.drop k) = sizeL l := by
  rw [← sizeL_append, List.take_append_drop]

theorem sizeL_take (l : List ItT) (k : Nat) (h : k < l.length) : sizeL (l.take (k + 1)) = sizeL (l.take k) + (itL l k).2.2.size := by
  rw [List.take_succ_eq_append_getElem h, sizeL_append, itL_get l k h]
  simp [sizeL]

theorem sizeL_le (l : List ItT) (m : Nat) (h : ∀ i, i < l.length → (itL l i).2.2.size ≤ m) : sizeL l ≤ l.length * m := by
  induction l with
  | nil => simp [sizeL]
  | cons x l ih =>
    have h0 : x.2.2.size ≤ m := h 0 (by simp)
    have h1 := ih (fun i hi => h (i + 1) (by simp; omega))
    simp only [sizeL, List.length_cons, Nat.add_mul, Nat.one_mul]
    omega

theorem size_itL (l : List ItT) (i : Nat) : (itL l i).2.2.size ≤ sizeL l := by
  induction l generalizing i with
  | nil => show (ByteArray.empty).size ≤ _; simp
  | cons x l ih =>
    cases i with
    | zero => show x.2.2.size ≤ _; simp [sizeL]
    | succ i => have := ih i; show (itL l i).2.2.size ≤ _; simp only [sizeL]; omega

def lastL (X : RlT) : Int := X.2.2.1.1 + (X.2.2.2.length : Int)
def bytesL (X : RlT) : Nat := X.2.2.1.2.2.size + sizeL X.2.2.2

/-- The first place, of so many from i on, where something holds. -/
def fstN (p : Nat → Bool) : Nat → Nat → Option Nat
  | 0, _ => none
  | k + 1, i => if p i = true then some i else fstN p k (i + 1)

theorem fstN_some (p : Nat → Bool) : ∀ (k i j : Nat), fstN p k i = some j → i ≤ j ∧ j < i + k ∧ p j = true ∧ ∀ m, i ≤ m → m < j → p m = false := by
  intro k
  induction k with
  | zero => intro i j h; cases h
  | succ k ih =>
    intro i j h
    unfold fstN at h
    by_cases hp : p i = true
    · rw [if_pos hp] at h
      cases h
      exact ⟨Nat.le_refl _, by omega, hp, fun m h1 h2 => by omega⟩
    · rw [if_neg hp] at h
      obtain ⟨h1, h2, h3, h4⟩ := ih (i + 1) j h
      refine ⟨by omega, by omega, h3, fun m k1 k2 => ?_⟩
      by_cases e : m = i
      · rw [e]; exact Bool.eq_false_iff.2 hp
      · exact h4 m (by omega) k2

theorem fstN_none (p : Nat → Bool) : ∀ (k i : Nat), fstN p k i = none → ∀ m, i ≤ m → m < i + k → p m = false := by
  intro k
  induction k with
  | zero => intro i _ m h1 h2; omega
  | succ k ih =>
    intro i h m h1 h2
    unfold fstN at h
    by_cases hp : p i = true
    · rw [if_pos hp] at h; cases h
    · rw [if_neg hp] at h
      by_cases e : m = i
      · rw [e]; exact Bool.eq_false_iff.2 hp
      · exact ih (i + 1) h m (by omega) (by omega)

theorem fstN_at (p : Nat → Bool) (n j : Nat) (hj : j < n) (h1 : p j = true) (h2 : ∀ m, m < j → p m = false) : fstN p n 0 = some j := by
  cases h : fstN p n 0 with
  | none => rw [fstN_none p n 0 h j (Nat.zero_le _) (by omega)] at h1; cases h1
  | some i =>
    obtain ⟨_, k1, k2, k3⟩ := fstN_some p n 0 i h
    rcases Nat.lt_trichotomy i j with e | e | e
    · rw [h2 i e] at k2; cases k2
    · rw [e]
    · rw [k3 j (Nat.zero_le _) e] at h1; cases h1

theorem fstN_no (p : Nat → Bool) (n : Nat) (h : ∀ m, m < n → p m = false) : fstN p n 0 = none := by
  cases h1 : fstN p n 0 with
  | none => rfl
  | some i =>
    obtain ⟨_, k1, k2, k3⟩ := fstN_some p n 0 i h1
    rw [h i (by omega)] at k2; cases k2

theorem fstN_ext (p q : Nat → Bool) : ∀ (k i : Nat), (∀ m, i ≤ m → m < i + k → p m = q m) → fstN p k i = fstN q k i := by
  intro k
  induction k with
  | zero => intro i _; rfl
  | succ k ih =>
    intro i h
    unfold fstN
    rw [h i (Nat.le_refl _) (by omega), ih (i + 1) (fun m h1 h2 => h m (by omega) (by omega))]

/-- What IndexFunc answers. -/
def idxI (o : Option Nat) : Int := match o with
  | some i => (i : Int)
  | none => -1

def errF (e : Int) : FrmT := (9, 0, 0, 0, 0, ⟨#[]⟩, [], e)
def takF (s : Int) : FrmT := (2, 0, s, 0, 0, ⟨#[]⟩, [], 0)

/-- Where a record is there already. -/
def sameA (l : List ItT) (E : Int) (B : ByteArray) : Option Nat := fstN (fun i => decide ((itL l i).2.1 = E) && decide ((itL l i).2.2 = B)) l.length 0

def addR (X : RlT) (F : FrmT) : RlT × FrmT := match sameA X.2.2.2 F.2.2.2.1 F.2.2.2.2.2.1 with
  | some i => (X, takF (itL X.2.2.2 i).1)
  | none => if 1024 ≤ X.2.2.2.length then (X, errF 2)
    else if X.2.1 < (bytesL X : Int) + (F.2.2.2.2.2.1.size : Int) then (X, errF 211)
    else ((X.1, X.2.1, X.2.2.1, X.2.2.2 ++ [(lastL X + 1, F.2.2.2.1, F.2.2.2.2.2.1)]), takF (lastL X + 1))

/-- As far as the Blobs fit into one answer. -/
def fitL (l : List ItT) : List ItT := match fstN (fun i => decide (40000 < sizeL (l.take (i + 1)))) l.length 0 with
  | some i => l.take i
  | none => l

def firstL (l : List ItT) (most : Nat) : List ItT := fitL (l.take most)

def giveR (X : RlT) (F : FrmT) : FrmT := if F.2.2.1 ≤ X.2.2.1.1 then errF 210
  else (4, 0, 0, 0, 0, ⟨#[]⟩, firstL (X.2.2.2.drop (min F.2.2.1 (lastL X + 1) - 1 - X.2.2.1.1).toNat) (min F.2.2.2.2.1 32).toNat, 0)

def keepR (X : RlT) (F : FrmT) : RlT × FrmT := if F.2.2.1 ≤ X.2.2.1.1 ∨ lastL X < F.2.2.1 then (X, errF 1)
  else if X.2.1 < (sizeL (X.2.2.2.drop (F.2.2.1 - X.2.2.1.1).toNat) : Int) + (F.2.2.2.2.2.1.size : Int) then (X, errF 211)
  else ((X.1, X.2.1, (F.2.2.1, F.2.2.2.1, F.2.2.2.2.2.1), X.2.2.2.drop (F.2.2.1 - X.2.2.1.1).toNat), (6, 0, F.2.2.1, 0, 0, ⟨#[]⟩, [], 0))

def showR (X : RlT) : FrmT := if X.2.2.1.1 = 0 then errF 3 else (8, 0, X.2.2.1.1, X.2.2.1.2.1, 0, X.2.2.1.2.2, [], 0)

def withG (F : FrmT) (G : Int) : FrmT := (F.1, G, F.2.2)

/-- What it has behind a frame, and what it answers, but for the group. -/
def doR (X : RlT) (F : FrmT) : RlT × FrmT :=
  if F.2.1 ≠ X.1 then (X, errF 1)
  else if F.1 = 1 then addR X F
  else if F.1 = 3 then (X, giveR X F)
  else if F.1 = 5 then keepR X F
  else if F.1 = 7 then (X, showR X)
  else (X, errF 1)

def hearF (X : RlT) (s : ByteArray) : RlT × FrmT := if (takeFC s).2 ≠ 0 then (X, errF 190) else doR X (takeFC s).1

def hearR (X : RlT) (s : ByteArray) : RlT × ByteArray := ((hearF X s).1, (putFC (withG (hearF X s).2 X.1)).1)

/-- What holds of each relay that New gave. -/
structure RlOk (N : Nat) (X : RlT) : Prop where
  g0 : 0 ≤ X.1
  g1 : X.1 ≤ 1099511627775
  q0 : 0 ≤ X.2.1
  q1 : X.2.1 ≤ 1048576
  b0 : 0 ≤ X.2.2.1.1
  last : lastL X ≤ (N : Int)
  many : X.2.2.2.length ≤ 1024
  bytes : (bytesL X : Int) ≤ X.2.1
  seq : ∀ i, i < X.2.2.2.length → (itL X.2.2.2 i).1 = X.2.2.1.1 + (i : Int) + 1
  sm : ∀ i, (itL X.2.2.2 i).2.2.size ≤ 20000
  sk : X.2.2.1.2.2.size ≤ 20000

end Go.Proofs.Ytkmdajenbidaaaa
