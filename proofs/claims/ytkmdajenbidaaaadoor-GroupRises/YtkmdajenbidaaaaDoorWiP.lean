/- Layer 19 on plain data: frames. Nothing of the program. -/
import Derived.Test.YtkmdajenbidaaaaDoorS13
import Derived.Test.YtkmdajenbidaaaaDoorC9
namespace Go.Proofs.YtkmdajenbidaaaaDoor
open Go.RowKit
set_option maxRecDepth 100000
set_option linter.unusedSimpArgs false

/-- What a list is read as: as many as are told. -/
def readLW {α : Type} (rd : ByteArray × Int → (ByteArray × Int) × α) : Nat → ByteArray × Int → (ByteArray × Int) × List α
  | 0, i => (i, [])
  | n + 1, i => ((readLW rd n (rd i).1).1, (rd i).2 :: (readLW rd n (rd i).1).2)

theorem readLW_len {α : Type} (rd : ByteArray × Int → (ByteArray × Int) × α) : ∀ (n : Nat) (i : ByteArray × Int), (readLW rd n i).2.length = n := by
  intro n
  induction n with
  | zero => intro i; rfl
  | succ n ih => intro i; show (_ :: _).length = _; rw [List.length_cons, ih]

theorem readLW_back {α : Type} (rd : ByteArray × Int → (ByteArray × Int) × α) (en : α → List (Int × Int × Int × ByteArray)) :
    ∀ (l : List α) (T : ByteArray), (∀ x ∈ l, ∀ T, rd (encA (en x) ++ T, 0) = ((T, 0), x)) → readLW rd l.length (encA (l.flatMap en) ++ T, 0) = ((T, 0), l) := by
  intro l
  induction l with
  | nil => intro T _; show ((ByteArray.empty ++ T, (0 : Int)), []) = _; rw [ByteArray.empty_append]
  | cons x l ih =>
    intro T h
    show ((readLW rd l.length (rd _).1).1, (rd _).2 :: (readLW rd l.length (rd _).1).2) = _
    rw [show (x :: l).flatMap en = en x ++ l.flatMap en from rfl, encA_snoc, append_mid, h x (List.mem_cons_self ..) _]
    simp only
    rw [ih T (fun y hy => h y (List.mem_cons_of_mem _ hy))]

theorem readLW_inv {α : Type} (rd : ByteArray × Int → (ByteArray × Int) × α) (en : α → List (Int × Int × Int × ByteArray))
    (h : ∀ i, (rd i).1.2 = 0 → i.2 = 0 ∧ i.1 = encA (en (rd i).2) ++ (rd i).1.1 ∧ ∀ p ∈ en (rd i).2, okP p = true) :
    ∀ (n : Nat) (i : ByteArray × Int), (readLW rd n i).1.2 = 0 → i.2 = 0 ∧ i.1 = encA ((readLW rd n i).2.flatMap en) ++ (readLW rd n i).1.1 ∧ ∀ p ∈ (readLW rd n i).2.flatMap en, okP p = true := by
  intro n
  induction n with
  | zero => intro i h0; exact ⟨h0, (by show i.1 = ByteArray.empty ++ i.1; rw [ByteArray.empty_append]), (fun p hp => by cases hp)⟩
  | succ n ih =>
    intro i h0
    have h0' : (readLW rd n (rd i).1).1.2 = 0 := h0
    obtain ⟨k1, k2, k3⟩ := ih (rd i).1 h0'
    obtain ⟨j1, j2, j3⟩ := h i k1
    refine ⟨j1, ?_, ?_⟩
    · show i.1 = encA (en (rd i).2 ++ (readLW rd n (rd i).1).2.flatMap en) ++ (readLW rd n (rd i).1).1.1
      rw [encA_snoc, append_mid, ← k2, ← j2]
    · intro p hp
      have hp' : p ∈ en (rd i).2 ++ (readLW rd n (rd i).1).2.flatMap en := hp
      rcases List.mem_append.1 hp' with e | e
      · exact j3 p e
      · exact k3 p e

theorem enc2 (a b : Int) (s : ByteArray) : encP (2, a, b, s) = bigB a 6 := by
  simp [encP, kd, pn]

theorem num_okP (a b : Int) (s : ByteArray) : okP (2, a, b, s) = oneOk a 1099511627775 := by
  simp [okP, kd, pn]

theorem byte_okQ (a b : Int) (s : ByteArray) : okP (1, a, b, s) = oneOk a 255 := by
  simp [okP, kd, pn]

theorem text_okQ (a b : Int) (s : ByteArray) : okP (4, a, b, s) = decide (s.size ≤ 65535) := by
  rw [Bool.eq_iff_iff]; simp [okP, kd, ps]; exact decide_eq_true_iff

theorem oneOk_iff (n most : Int) : oneOk n most = true ↔ 0 ≤ n ∧ n ≤ most := by
  unfold oneOk; simp

theorem backC2 (n a : Int) (s T : ByteArray) (h : okP (2, n, a, s) = true) : (inNumP (encP (2, n, a, s) ++ T, 0)).1 = (T, 0) ∧ ((inNumP (encP (2, n, a, s) ++ T, 0)).2 : Int) = n := by
  obtain ⟨N, h1, h2⟩ := back2 (2, n, a, s) T rfl h
  rw [h1]
  exact ⟨rfl, h2⟩

theorem backQ4 (a b : Int) (s T : ByteArray) (most : Int) (h : s.size ≤ 65535) (hm : (s.size : Int) ≤ most) : inTextP (encP (4, a, b, s) ++ T, 0) most = ((T, 0), s) := by
  have hz : (bigB (s.size : Int) 2 ++ s).size = 2 + s.size := by rw [ByteArray.size_append, bigB_size]
  rw [enc4]
  rcases inText_pre ((bigB (s.size : Int) 2 ++ s) ++ T) T s most h hm (PreB.refl _) with ⟨k1, _⟩ | ⟨_, k2, _⟩
  · rw [ByteArray.size_append, hz] at k1; omega
  · rw [k2, back_rest hz]

theorem backC4 (a b : Int) (s T : ByteArray) (most : Int) (h : s.size ≤ 65535) (hm : (s.size : Int) ≤ most) : inTextC (encP (4, a, b, s) ++ T, 0) most = ((T, 0), s) := by
  rw [text_sameP]; exact backQ4 a b s T most h hm

/-- What parts are put as. -/
def putB (D : Bool) (l : List (Int × Int × Int × ByteArray)) : ByteArray × Int := if D = true then doneQ (writeA (⟨#[]⟩, false) l) else (⟨#[]⟩, 1)

theorem putB_inv (D : Bool) (l : List (Int × Int × Int × ByteArray)) (s : ByteArray) (h : putB D l = (s, 0)) : D = true ∧ (∀ p ∈ l, okP p = true) ∧ s = encA l := by
  unfold putB at h
  by_cases hm : D = true
  · rw [if_pos hm] at h
    unfold doneQ at h
    by_cases hb : (writeA (⟨#[]⟩, false) l).2 = true
    · rw [if_pos hb] at h; cases h
    · rw [if_neg hb] at h
      have hb' : (writeA (⟨#[]⟩, false) l).2 = false := by
        cases hw : (writeA (⟨#[]⟩, false) l).2 with
        | false => rfl
        | true => exact absurd hw hb
      obtain ⟨h1, h2⟩ := writeA_ok _ _ hb'
      refine ⟨hm, h1, ?_⟩
      have h3 : (writeA (⟨#[]⟩, false) l).1 = s := congrArg Prod.fst h
      rw [← h3, h2]
      exact ByteArray.empty_append
  · rw [if_neg hm] at h; cases h

theorem putB_fit (D : Bool) (l : List (Int × Int × Int × ByteArray)) (hm : D = true) (h : ∀ p ∈ l, okP p = true) (hn : (encA l).size ≤ 65536) : putB D l = (encA l, 0) := by
  unfold putB
  have e := writeA_fit l ⟨#[]⟩ h (by show 0 + _ ≤ _; omega)
  rw [if_pos hm, e]
  unfold doneQ
  rw [if_neg (by simp)]
  show (ByteArray.empty ++ _, _) = _
  rw [ByteArray.empty_append]

theorem putB_two (D : Bool) (l : List (Int × Int × Int × ByteArray)) : (putB D l).2 = 0 ∨ putB D l = (⟨#[]⟩, 1) := by
  unfold putB
  split
  · unfold doneQ
    split
    · exact .inr rfl
    · exact .inl rfl
  · exact .inr rfl

/-- Where a part may not be, both put nothing. -/
theorem putB_same (D D' : Bool) (l : List (Int × Int × Int × ByteArray)) (h : D = true ↔ D' = true ∧ ∀ p ∈ l, okP p = true) : putB D l = putB D' l := by
  rcases putB_two D' l with h1 | h1
  · have e : putB D' l = ((putB D' l).1, 0) := Prod.ext rfl h1
    obtain ⟨k1, k2, k3⟩ := putB_inv D' l _ e
    have k4 : D = true := h.2 ⟨k1, k2⟩
    unfold putB
    rw [k4, k1]
  · rw [h1]
    by_cases hd : D = true
    · obtain ⟨k1, k2⟩ := h.1 hd
      rw [← h1]
      unfold putB
      rw [hd, k1]
    · unfold putB
      rw [if_neg hd]

theorem layP_sizeW (o : ByteArray × Bool) (T : ByteArray) (b : Bool) (h : o.1.size ≤ 65536) : (layP o T b).1.size ≤ 65536 := by
  unfold layP
  split
  · next k => show (o.1 ++ T).size ≤ 65536; rw [ByteArray.size_append]; exact k.2.2
  · exact h

theorem writeA_sizeW (l : List (Int × Int × Int × ByteArray)) : ∀ st : ByteArray × Bool, st.1.size ≤ 65536 → (writeA st l).1.size ≤ 65536 := by
  induction l with
  | nil => exact fun st h => h
  | cons p l ih =>
    intro st h
    show (writeA (writeP st p) l).1.size ≤ 65536
    exact ih _ (by rw [writeP_eq]; exact layP_sizeW _ _ _ h)

theorem putB_size (D : Bool) (l : List (Int × Int × Int × ByteArray)) (s : ByteArray) (h : putB D l = (s, 0)) : s.size ≤ 65536 := by
  unfold putB at h
  by_cases hm : D = true
  · rw [if_pos hm] at h
    unfold doneQ at h
    by_cases hb : (writeA (⟨#[]⟩, false) l).2 = true
    · rw [if_pos hb] at h; cases h
    · rw [if_neg hb] at h
      have h3 : (writeA (⟨#[]⟩, false) l).1 = s := congrArg Prod.fst h
      rw [← h3]
      exact writeA_sizeW l (⟨#[]⟩, false) (by decide)
  · rw [if_neg hm] at h; cases h

end Go.Proofs.YtkmdajenbidaaaaDoor
