import Derived.Test.YtabhkebkbidfhaaGreatDoorS13
import Derived.Test.YtabhkebkbidfhaaGreatDoorC9
/- Layer 19 on plain data: frames. Nothing of the program. -/
namespace Go.Proofs.YtabhkebkbidfhaaGreatDoor
open Go.RowKit
set_option maxRecDepth 100000
set_option linter.unusedSimpArgs false

/-- What a list is read as: as many as are told. -/
def readLW {α : Type} (rd : ByteArray × Int → (ByteArray × Int) × α) : Nat → ByteArray × Int → (ByteArray × Int) × List α
  | 0, i => (i, [])
  | n + 1, i => ((readLW rd n (rd i).1).1, (rd i).2 :: (readLW rd n (rd i).1).2)

theorem readLW_back {α : Type} (rd : ByteArray × Int → (ByteArray × Int) × α) (en : α → List (Int × Int × Int × ByteArray)) :
    ∀ (l : List α) (T : ByteArray), (∀ x ∈ l, ∀ T, rd (encA (en x) ++ T, 0) = ((T, 0), x)) → readLW rd l.length (encA (l.flatMap en) ++ T, 0) = ((T, 0), l) := by
  intro l
  induction l with
  | nil => intro T _; show ((ByteArray.empty ++ T, (0 : Int)), []) = _; rw [ByteArray.empty_append]
  | cons x l ih =>
    intro T h
    show ((readLW rd l.length (rd _).1).1, (rd _).2 :: (readLW rd l.length (rd _).1).2) = _
    rw [show (x :: l).flatMap en = en x ++ l.flatMap en from rfl, encA_snoc, append_mid, h x (List.mem_cons_self ..) _]
    simp only
    rw [ih T (fun y hy => h y (List.mem_cons_of_mem _ hy))]

theorem enc2 (a b : Int) (s : ByteArray) : encP (2, a, b, s) = bigB a 6 := by
  simp [encP, kd, pn]

theorem num_okP (a b : Int) (s : ByteArray) : okP (2, a, b, s) = oneOk a 1099511627775 := by
  simp [okP, kd, pn]

theorem byte_okQ (a b : Int) (s : ByteArray) : okP (1, a, b, s) = oneOk a 255 := by
  simp [okP, kd, pn]

theorem oneOk_iff (n most : Int) : oneOk n most = true ↔ 0 ≤ n ∧ n ≤ most := by
  unfold oneOk; simp

theorem backC2 (n a : Int) (s T : ByteArray) (h : okP (2, n, a, s) = true) : (inNumP (encP (2, n, a, s) ++ T, 0)).1 = (T, 0) ∧ ((inNumP (encP (2, n, a, s) ++ T, 0)).2 : Int) = n := by
  obtain ⟨N, h1, h2⟩ := back2 (2, n, a, s) T rfl h
  rw [h1]
  exact ⟨rfl, h2⟩

/-- What parts are put as. -/
def putB (D : Bool) (l : List (Int × Int × Int × ByteArray)) : ByteArray × Int := if D = true then doneQ (writeA (⟨#[]⟩, false) l) else (⟨#[]⟩, 1)

theorem putB_inv (D : Bool) (l : List (Int × Int × Int × ByteArray)) (s : ByteArray) (h : putB D l = (s, 0)) : D = true ∧ (∀ p ∈ l, okP p = true) ∧ s = encA l := by
  unfold putB at h
  by_cases hm : D = true
  · rw [if_pos hm] at h
    unfold doneQ at h
    by_cases hb : (writeA (⟨#[]⟩, false) l).2 = true
    · rw [if_pos hb] at h; cases h
    · rw [if_neg hb] at h
      have hb' : (writeA (⟨#[]⟩, false) l).2 = false := by
        cases hw : (writeA (⟨#[]⟩, false) l).2 with
        | false => rfl
        | true => exact absurd hw hb
      obtain ⟨h1, h2⟩ := writeA_ok _ _ hb'
      refine ⟨hm, h1, ?_⟩
      have h3 : (writeA (⟨#[]⟩, false) l).1 = s := congrArg Prod.fst h
      rw [← h3, h2]
      exact ByteArray.empty_append
  · rw [if_neg hm] at h; cases h

theorem putB_fit (D : Bool) (l : List (Int × Int × Int × ByteArray)) (hm : D = true) (h : ∀ p ∈ l, okP p = true) (hn : (encA l).size ≤ 65536) : putB D l = (encA l, 0) := by
  unfold putB
  have e := writeA_fit l ⟨#[]⟩ h (by show 0 + _ ≤ _; omega)
  rw [if_pos hm, e]
  unfold doneQ
  rw [if_neg (by simp)]
  show (ByteArray.empty ++ _, _) = _
  rw [ByteArray.empty_append]

end Go.Proofs.YtabhkebkbidfhaaGreatDoor
