import Derived.Test.YtacdokfhgafigaaGreatDoorC9
import Derived.Test.YtacdokfhgafigaaGreatDoorRT
/- An operation as bytes, there and back, on plain data (layer 13). -/
namespace Go.Proofs.YtacdokfhgafigaaGreatDoor
open Go.RowKit
set_option linter.unusedSimpArgs false

/-- The parts of an operation. -/
def opPs (o : OpT) : List (Int × Int × Int × ByteArray) :=
  [(1, o.1, 0, ⟨#[]⟩), (3, o.2.1.1, o.2.1.2, ⟨#[]⟩), (3, o.2.2.1.1, o.2.2.1.2, ⟨#[]⟩), (3, o.2.2.2.1.1, o.2.2.2.1.2, ⟨#[]⟩), (4, 0, 0, o.2.2.2.2.1), (4, 0, 0, o.2.2.2.2.2)]

theorem enc1 (a b : Int) (s : ByteArray) : encP (1, a, b, s) = bigB a 1 := by
  unfold encP kd pn
  rw [if_pos rfl]

theorem enc3 (a b : Int) (s : ByteArray) : encP (3, a, b, s) = bigB a 6 ++ bigB b 1 := by
  unfold encP kd pn pm
  rw [if_neg (by simp), if_neg (by simp), if_pos rfl]

theorem enc4 (a b : Int) (s : ByteArray) : encP (4, a, b, s) = bigB (s.size : Int) 2 ++ s := by
  unfold encP kd ps
  rw [if_neg (by simp), if_neg (by simp), if_neg (by simp)]

theorem encA_snoc (l : List (Int × Int × Int × ByteArray)) (m : List (Int × Int × Int × ByteArray)) : encA (l ++ m) = encA l ++ encA m := by
  induction l with
  | nil => show encA m = ByteArray.empty ++ encA m; rw [ByteArray.empty_append]
  | cons p l ih => show encP p ++ encA (l ++ m) = (encP p ++ encA l) ++ encA m; rw [ih, append_mid]

/-- What the code's In reads as an operation. -/
def readOpC (i : ByteArray × Int) : (ByteArray × Int) × OpT :=
  ((inTextC (inTextC (inStampC (inStampC (inStampC (numberP i 1).1).1).1).1 65536).1 65536).1,
   (((numberP i 1).2 : Int), (inStampC (numberP i 1).1).2, (inStampC (inStampC (numberP i 1).1).1).2, (inStampC (inStampC (inStampC (numberP i 1).1).1).1).2,
    (inTextC (inStampC (inStampC (inStampC (numberP i 1).1).1).1).1 65536).2, (inTextC (inTextC (inStampC (inStampC (inStampC (numberP i 1).1).1).1).1 65536).1 65536).2))

theorem backC1 (n a : Int) (s T : ByteArray) (h : okP (1, n, a, s) = true) : (numberP (encP (1, n, a, s) ++ T, 0) 1).1 = (T, 0) ∧ ((numberP (encP (1, n, a, s) ++ T, 0) 1).2 : Int) = n := by
  obtain ⟨N, h1, h2⟩ := back1 (1, n, a, s) T rfl h
  rw [h1]
  exact ⟨rfl, h2⟩

/-- What was written as an operation is read by the code as it was. -/
theorem readOpC_back (o : OpT) (T : ByteArray) (h : ∀ p ∈ opPs o, okP p = true) : readOpC (encA (opPs o) ++ T, 0) = ((T, 0), o) := by
  obtain ⟨k, ⟨a1, a2⟩, ⟨n1, n2⟩, ⟨p1, p2⟩, s, t⟩ := o
  unfold opPs at h
  simp only [List.forall_mem_cons] at h
  obtain ⟨h1, h2, h3, h4, h5, h6, _⟩ := h
  have e : encA (opPs (k, (a1, a2), (n1, n2), (p1, p2), s, t)) ++ T = encP (1, k, 0, ⟨#[]⟩) ++ (encP (3, a1, a2, ⟨#[]⟩) ++ (encP (3, n1, n2, ⟨#[]⟩) ++ (encP (3, p1, p2, ⟨#[]⟩) ++ (encP (4, 0, 0, s) ++ (encP (4, 0, 0, t) ++ T))))) := by
    unfold opPs
    simp only [encA, append_mid, ByteArray.append_empty, ByteArray.empty_append]
  rw [e]
  unfold readOpC
  obtain ⟨g1, g2⟩ := backC1 k 0 ⟨#[]⟩ (encP (3, a1, a2, ⟨#[]⟩) ++ (encP (3, n1, n2, ⟨#[]⟩) ++ (encP (3, p1, p2, ⟨#[]⟩) ++ (encP (4, 0, 0, s) ++ (encP (4, 0, 0, t) ++ T))))) h1
  rw [g1, g2, back3 (3, a1, a2, ⟨#[]⟩) _ rfl h2]
  simp only
  rw [back3 (3, n1, n2, ⟨#[]⟩) _ rfl h3]
  simp only
  rw [back3 (3, p1, p2, ⟨#[]⟩) _ rfl h4]
  simp only
  rw [back4 (4, 0, 0, s) _ (by simp [kd]) (by simp [kd]) (by simp [kd]) h5]
  simp only
  rw [back4 (4, 0, 0, t) _ (by simp [kd]) (by simp [kd]) (by simp [kd]) h6]
  rfl

theorem writeA_fit : ∀ (l : List (Int × Int × Int × ByteArray)) (S : ByteArray), (∀ p ∈ l, okP p = true) → S.size + (encA l).size ≤ 65536 → writeA (S, false) l = (S ++ encA l, false) := by
  intro l
  induction l with
  | nil => intro S _ _; show (S, false) = (S ++ ByteArray.empty, false); rw [ByteArray.append_empty]
  | cons p l ih =>
    intro S h hn
    have hn' : S.size + ((encP p).size + (encA l).size) ≤ 65536 := by rw [← ByteArray.size_append]; exact hn
    show writeA (writeP (S, false) p) l = _
    rw [writeP_eq, h p (List.mem_cons_self ..), layP_true _ _ (by omega), ih _ (fun q hq => h q (List.mem_cons_of_mem _ hq)) (by rw [ByteArray.size_append]; omega)]
    show _ = (S ++ (encP p ++ encA l), false)
    rw [append_mid]

def doneQ (x : ByteArray × Bool) : ByteArray × Int := if x.2 = true then (⟨#[]⟩, 1) else (x.1, 0)

/-- An operation as bytes. -/
def putOpP (M : OpT → Bool) (o : OpT) : ByteArray × Int := if M o = true then doneQ (writeA (⟨#[]⟩, false) (opPs o)) else (⟨#[]⟩, 1)

def op0 : OpT := (0, (0, 0), (0, 0), (0, 0), ⟨#[]⟩, ⟨#[]⟩)

/-- The operation of bytes, as the code finds it. -/
def takeOpC (M : OpT → Bool) (s : ByteArray) : OpT × Int := if (putOpP M (readOpC (s, 0)).2).2 ≠ 0 ∨ (putOpP M (readOpC (s, 0)).2).1 ≠ s then (op0, 91) else ((readOpC (s, 0)).2, 0)

theorem put_inv (M : OpT → Bool) (o : OpT) (s : ByteArray) (h : putOpP M o = (s, 0)) : M o = true ∧ (∀ p ∈ opPs o, okP p = true) ∧ s = encA (opPs o) := by
  unfold putOpP at h
  by_cases hm : M o = true
  · rw [if_pos hm] at h
    unfold doneQ at h
    by_cases hb : (writeA (⟨#[]⟩, false) (opPs o)).2 = true
    · rw [if_pos hb] at h; cases h
    · rw [if_neg hb] at h
      have hb' : (writeA (⟨#[]⟩, false) (opPs o)).2 = false := by
        cases hw : (writeA (⟨#[]⟩, false) (opPs o)).2 with
        | false => rfl
        | true => exact absurd hw hb
      obtain ⟨h1, h2⟩ := writeA_ok _ _ hb'
      refine ⟨hm, h1, ?_⟩
      have h3 : (writeA (⟨#[]⟩, false) (opPs o)).1 = s := congrArg Prod.fst h
      rw [← h3, h2]
      exact ByteArray.empty_append
  · rw [if_neg hm] at h; cases h

theorem put_fit (M : OpT → Bool) (o : OpT) (hm : M o = true) (h : ∀ p ∈ opPs o, okP p = true) (hn : (encA (opPs o)).size ≤ 65536) : putOpP M o = (encA (opPs o), 0) := by
  unfold putOpP
  have e := writeA_fit (opPs o) ⟨#[]⟩ h (by show 0 + _ ≤ _; omega)
  rw [if_pos hm, e]
  unfold doneQ
  rw [if_neg (by simp)]
  show (ByteArray.empty ++ _, _) = _
  rw [ByteArray.empty_append]

/-- What the code takes is what was put. -/
theorem takeC_put (M : OpT → Bool) (o : OpT) (s : ByteArray) (h : putOpP M o = (s, 0)) : takeOpC M s = (o, 0) := by
  obtain ⟨_, h2, h3⟩ := put_inv M o s h
  have hr := readOpC_back o ⟨#[]⟩ h2
  have e : encA (opPs o) ++ ⟨#[]⟩ = s := by rw [h3]; exact ByteArray.append_empty
  rw [e] at hr
  unfold takeOpC
  rw [hr]
  simp only
  rw [h, if_neg (by simp)]

end Go.Proofs.YtacdokfhgafigaaGreatDoor
