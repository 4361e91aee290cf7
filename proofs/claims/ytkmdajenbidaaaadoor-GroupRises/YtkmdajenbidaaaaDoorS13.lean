import Derived.Test.YtkmdajenbidaaaaDoorC9
import Derived.Test.YtkmdajenbidaaaaDoorRT
import Derived.Test.YtkmdajenbidaaaaDoorTY
/- An operation as bytes, there and back, on plain data (layer 13). -/
namespace Go.Proofs.YtkmdajenbidaaaaDoor
open Go.RowKit
set_option maxRecDepth 100000
set_option linter.unusedSimpArgs false

/-- The parts of an operation. -/
def opPs (o : OpT) : List (Int × Int × Int × ByteArray) :=
  [(1, o.1, 0, ⟨#[]⟩), (3, o.2.1.1, o.2.1.2, ⟨#[]⟩), (3, o.2.2.1.1, o.2.2.1.2, ⟨#[]⟩), (3, o.2.2.2.1.1, o.2.2.2.1.2, ⟨#[]⟩), (4, 0, 0, o.2.2.2.2.1), (4, 0, 0, o.2.2.2.2.2)]

theorem accB_div (s : ByteArray) (n d : Nat) : accB s (n + d) / 256 ^ d = accB s n := by
  induction d with
  | zero => rw [Nat.pow_zero, Nat.div_one]; rfl
  | succ d ih =>
    have h : accB s (n + (d + 1)) = accB s (n + d) * 256 + bt s (n + d) := rfl
    rw [h, Nat.pow_succ, Nat.mul_comm (256 ^ d) 256, ← Nat.div_div_eq_div_mul]
    have hb := bt_lt s (n + d)
    rw [show (accB s (n + d) * 256 + bt s (n + d)) / 256 = accB s (n + d) by omega]
    exact ih

/-- What is read as a number is written as the same bytes. -/
theorem big_accB (s : ByteArray) (n : Nat) (h : n ≤ s.size) : bigB (accB s n : Int) n = s.extract 0 n := by
  have hz : (s.extract 0 n).size = n := by rw [ByteArray.size_extract]; omega
  refine bt_ext _ _ (by rw [bigB_size, hz]) (fun j hj => ?_)
  rw [bigB_size] at hj
  rw [bt_bigB _ _ _ hj, bt_extract s 0 n j (by omega) h, Nat.zero_add]
  obtain ⟨d, hd⟩ : ∃ d, n = j + 1 + d := ⟨n - 1 - j, by omega⟩
  rw [show n - 1 - j = d by omega, hd, accB_div]
  show (accB s j * 256 + bt s j) % 256 = bt s j
  have := bt_lt s j
  omega

theorem cut_join (s : ByteArray) (n : Nat) (h : n ≤ s.size) : s = s.extract 0 n ++ s.extract n s.size := by
  have hz : (s.extract 0 n).size = n := by rw [ByteArray.size_extract]; omega
  have hy : (s.extract n s.size).size = s.size - n := by rw [ByteArray.size_extract]; omega
  refine bt_ext _ _ (by rw [ByteArray.size_append, hz, hy]; omega) (fun j hj => ?_)
  by_cases hjn : j < n
  · rw [bt_append_left _ _ _ (by omega), bt_extract s 0 n j (by omega) h, Nat.zero_add]
  · obtain ⟨d, hd⟩ : ∃ d, j = n + d := ⟨j - n, by omega⟩
    have e := bt_append_right (s.extract 0 n) (s.extract n s.size) d
    rw [hz] at e
    rw [hd, e, bt_extract s n s.size d (by omega) (Nat.le_refl _)]

theorem number_inv (i : ByteArray × Int) (n : Nat) (h : (numberP i n).1.2 = 0) : i.2 = 0 ∧ i.1 = bigB ((numberP i n).2 : Int) n ++ (numberP i n).1.1 ∧ (numberP i n).2 < 256 ^ n := by
  unfold numberP at h ⊢
  by_cases hc : i.2 ≠ 0 ∨ i.1.size < n
  · rw [if_pos hc] at h
    unfold wrongP at h
    simp only at h
    by_cases h0 : i.2 = 0
    · rw [if_pos h0] at h; cases h
    · rw [if_neg h0] at h; exact absurd h h0
  · rw [if_neg hc]
    have h0 : i.2 = 0 := Classical.byContradiction fun k => hc (.inl k)
    have hn : n ≤ i.1.size := by
      by_cases k : i.1.size < n
      · exact absurd (.inr k) hc
      · omega
    refine ⟨h0, ?_, accB_lt _ _⟩
    simp only
    rw [big_accB _ _ hn]
    exact cut_join _ _ hn

theorem inNum_inv (i : ByteArray × Int) (h : (inNumP i).1.2 = 0) : i.2 = 0 ∧ i.1 = bigB ((inNumP i).2 : Int) 6 ++ (inNumP i).1.1 ∧ (inNumP i).2 ≤ 1099511627775 := by
  unfold inNumP at h ⊢
  by_cases hc : 1099511627775 < (numberP i 6).2
  · rw [if_pos hc] at h
    unfold wrongP at h
    simp only at h
    by_cases h0 : (numberP i 6).1.2 = 0
    · rw [if_pos h0] at h; cases h
    · rw [if_neg h0] at h; exact absurd h h0
  · rw [if_neg hc] at h ⊢
    obtain ⟨h1, h2, _⟩ := number_inv i 6 h
    exact ⟨h1, h2, by omega⟩

theorem inStamp_inv (i : ByteArray × Int) (h : (inStampP i).1.2 = 0) : i.2 = 0 ∧ i.1 = (bigB (inStampP i).2.1 6 ++ bigB (inStampP i).2.2 1) ++ (inStampP i).1.1 ∧ stampOk (inStampP i).2.1 (inStampP i).2.2 = true := by
  unfold inStampP at h ⊢
  by_cases hc : (numberP (inNumP i).1 1).1.2 ≠ 0
  · rw [if_pos hc] at h; exact absurd h hc
  · rw [if_neg hc] at h ⊢
    simp only at h ⊢
    obtain ⟨h1, h2, h3⟩ := number_inv _ 1 h
    obtain ⟨h4, h5, h6⟩ := inNum_inv i h1
    refine ⟨h4, ?_, ?_⟩
    · rw [append_mid, ← h2]; exact h5
    · unfold stampOk oneOk
      simp only [Bool.and_eq_true, decide_eq_true_eq]
      omega

theorem inText_inv (i : ByteArray × Int) (most : Int) (h : (inTextP i most).1.2 = 0) : i.2 = 0 ∧ i.1 = (bigB ((inTextP i most).2.size : Int) 2 ++ (inTextP i most).2) ++ (inTextP i most).1.1 ∧ (inTextP i most).2.size ≤ 65535 ∧ ((inTextP i most).2.size : Int) ≤ most := by
  unfold inTextP at h ⊢
  by_cases h1 : (numberP i 2).1.2 ≠ 0
  · rw [if_pos h1] at h; exact absurd h h1
  · rw [if_neg h1] at h ⊢
    have h1' : (numberP i 2).1.2 = 0 := Classical.byContradiction h1
    by_cases h2 : most < ((numberP i 2).2 : Int)
    · rw [if_pos h2] at h
      unfold wrongP at h
      simp only [h1'] at h
      cases h
    · rw [if_neg h2] at h ⊢
      by_cases h3 : (numberP i 2).1.1.size < (numberP i 2).2
      · rw [if_pos h3] at h
        unfold wrongP at h
        simp only [h1'] at h
        cases h
      · rw [if_neg h3]
        obtain ⟨k1, k2, k3⟩ := number_inv i 2 h1'
        have hz : ((numberP i 2).1.1.extract 0 (numberP i 2).2).size = (numberP i 2).2 := by rw [ByteArray.size_extract]; omega
        simp only
        rw [hz]
        refine ⟨k1, ?_, by omega, by omega⟩
        rw [append_mid, ← cut_join _ _ (by omega)]
        exact k2

theorem text_okP (a b : Int) (s : ByteArray) (h : s.size ≤ 65535) : okP (4, a, b, s) = true := by
  unfold okP kd ps
  rw [if_neg (by simp), if_neg (by simp), if_neg (by simp)]
  exact decide_eq_true h

theorem stamp_okP (a b : Int) (s : ByteArray) (h : stampOk a b = true) : okP (3, a, b, s) = true := by
  unfold okP kd pn pm
  rw [if_neg (by simp), if_neg (by simp), if_pos rfl]
  exact h

theorem byte_okP (a b : Int) (s : ByteArray) (h : oneOk a 255 = true) : okP (1, a, b, s) = true := by
  unfold okP kd pn
  rw [if_pos rfl]
  exact h

theorem enc1 (a b : Int) (s : ByteArray) : encP (1, a, b, s) = bigB a 1 := by
  unfold encP kd pn
  rw [if_pos rfl]

theorem enc3 (a b : Int) (s : ByteArray) : encP (3, a, b, s) = bigB a 6 ++ bigB b 1 := by
  unfold encP kd pn pm
  rw [if_neg (by simp), if_neg (by simp), if_pos rfl]

theorem enc4 (a b : Int) (s : ByteArray) : encP (4, a, b, s) = bigB (s.size : Int) 2 ++ s := by
  unfold encP kd ps
  rw [if_neg (by simp), if_neg (by simp), if_neg (by simp)]

theorem encA_snoc (l : List (Int × Int × Int × ByteArray)) (m : List (Int × Int × Int × ByteArray)) : encA (l ++ m) = encA l ++ encA m := by
  induction l with
  | nil => show encA m = ByteArray.empty ++ encA m; rw [ByteArray.empty_append]
  | cons p l ih => show encP p ++ encA (l ++ m) = (encP p ++ encA l) ++ encA m; rw [ih, append_mid]

/-- What the code's In reads as an operation. -/
def readOpC (i : ByteArray × Int) : (ByteArray × Int) × OpT :=
  ((inTextC (inTextC (inStampC (inStampC (inStampC (numberP i 1).1).1).1).1 65536).1 65536).1,
   (((numberP i 1).2 : Int), (inStampC (numberP i 1).1).2, (inStampC (inStampC (numberP i 1).1).1).2, (inStampC (inStampC (inStampC (numberP i 1).1).1).1).2,
    (inTextC (inStampC (inStampC (inStampC (numberP i 1).1).1).1).1 65536).2, (inTextC (inTextC (inStampC (inStampC (inStampC (numberP i 1).1).1).1).1 65536).1 65536).2))

/-- What the document reads as one. -/
def readOpP (i : ByteArray × Int) : (ByteArray × Int) × OpT :=
  ((inTextP (inTextP (inStampP (inStampP (inStampP (numberP i 1).1).1).1).1 1024).1 1024).1,
   (((numberP i 1).2 : Int), (inStampP (numberP i 1).1).2, (inStampP (inStampP (numberP i 1).1).1).2, (inStampP (inStampP (inStampP (numberP i 1).1).1).1).2,
    (inTextP (inStampP (inStampP (inStampP (numberP i 1).1).1).1).1 1024).2, (inTextP (inTextP (inStampP (inStampP (inStampP (numberP i 1).1).1).1).1 1024).1 1024).2))

/-- The document reads what stands there. -/
theorem readOp_inv (i : ByteArray × Int) (h : (readOpP i).1.2 = 0) : i.2 = 0 ∧ i.1 = encA (opPs (readOpP i).2) ++ (readOpP i).1.1 ∧ ∀ p ∈ opPs (readOpP i).2, okP p = true := by
  unfold readOpP at h ⊢
  simp only at h ⊢
  obtain ⟨a1, a2, a3, _⟩ := inText_inv _ _ h
  obtain ⟨b1, b2, b3, _⟩ := inText_inv _ _ a1
  obtain ⟨c1, c2, c3⟩ := inStamp_inv _ b1
  obtain ⟨d1, d2, d3⟩ := inStamp_inv _ c1
  obtain ⟨e1, e2, e3⟩ := inStamp_inv _ d1
  obtain ⟨f1, f2, f3⟩ := number_inv _ 1 e1
  refine ⟨f1, ?_, ?_⟩
  · rw [f2, e2, d2, c2, b2, a2]
    unfold opPs
    simp only [encA, enc1, enc3, enc4, append_mid, ByteArray.append_empty, ByteArray.empty_append]
  · intro p hp
    unfold opPs at hp
    simp only [List.mem_cons, List.not_mem_nil, or_false] at hp
    rcases hp with rfl | rfl | rfl | rfl | rfl | rfl
    · exact byte_okP _ _ _ (by unfold oneOk; simp only [Bool.and_eq_true, decide_eq_true_eq]; omega)
    · exact stamp_okP _ _ _ e3
    · exact stamp_okP _ _ _ d3
    · exact stamp_okP _ _ _ c3
    · exact text_okP _ _ _ b3
    · exact text_okP _ _ _ a3

theorem backC1 (n a : Int) (s T : ByteArray) (h : okP (1, n, a, s) = true) : (numberP (encP (1, n, a, s) ++ T, 0) 1).1 = (T, 0) ∧ ((numberP (encP (1, n, a, s) ++ T, 0) 1).2 : Int) = n := by
  obtain ⟨N, h1, h2⟩ := back1 (1, n, a, s) T rfl h
  rw [h1]
  exact ⟨rfl, h2⟩

/-- What was written as an operation is read by the code as it was. -/
theorem readOpC_back (o : OpT) (T : ByteArray) (h : ∀ p ∈ opPs o, okP p = true) : readOpC (encA (opPs o) ++ T, 0) = ((T, 0), o) := by
  obtain ⟨k, ⟨a1, a2⟩, ⟨n1, n2⟩, ⟨p1, p2⟩, s, t⟩ := o
  unfold opPs at h
  simp only [List.forall_mem_cons] at h
  obtain ⟨h1, h2, h3, h4, h5, h6, _⟩ := h
  have e : encA (opPs (k, (a1, a2), (n1, n2), (p1, p2), s, t)) ++ T = encP (1, k, 0, ⟨#[]⟩) ++ (encP (3, a1, a2, ⟨#[]⟩) ++ (encP (3, n1, n2, ⟨#[]⟩) ++ (encP (3, p1, p2, ⟨#[]⟩) ++ (encP (4, 0, 0, s) ++ (encP (4, 0, 0, t) ++ T))))) := by
    unfold opPs
    simp only [encA, append_mid, ByteArray.append_empty, ByteArray.empty_append]
  rw [e]
  unfold readOpC
  obtain ⟨g1, g2⟩ := backC1 k 0 ⟨#[]⟩ (encP (3, a1, a2, ⟨#[]⟩) ++ (encP (3, n1, n2, ⟨#[]⟩) ++ (encP (3, p1, p2, ⟨#[]⟩) ++ (encP (4, 0, 0, s) ++ (encP (4, 0, 0, t) ++ T))))) h1
  rw [g1, g2, back3 (3, a1, a2, ⟨#[]⟩) _ rfl h2]
  simp only
  rw [back3 (3, n1, n2, ⟨#[]⟩) _ rfl h3]
  simp only
  rw [back3 (3, p1, p2, ⟨#[]⟩) _ rfl h4]
  simp only
  rw [back4 (4, 0, 0, s) _ (by simp [kd]) (by simp [kd]) (by simp [kd]) h5]
  simp only
  rw [back4 (4, 0, 0, t) _ (by simp [kd]) (by simp [kd]) (by simp [kd]) h6]
  rfl

theorem backP3 (a b : Int) (s T : ByteArray) (hok : okP (3, a, b, s) = true) : inStampP (encP (3, a, b, s) ++ T, 0) = ((T, 0), (a, b)) := by
  have h := back3 (3, a, b, s) T rfl hok
  rw [stampC_long _ (by rw [enc3, ByteArray.size_append, ByteArray.size_append, bigB_size, bigB_size]; omega)] at h
  exact h

theorem backP4 (a b : Int) (s T : ByteArray) (hs : s.size ≤ 1024) : inTextP (encP (4, a, b, s) ++ T, 0) 1024 = ((T, 0), s) := by
  have hz : (bigB (s.size : Int) 2 ++ s).size = 2 + s.size := by rw [ByteArray.size_append, bigB_size]
  rw [enc4]
  rcases inText_pre ((bigB (s.size : Int) 2 ++ s) ++ T) T s 1024 (by omega) (by omega) (PreB.refl _) with ⟨k1, _⟩ | ⟨_, k2, _⟩
  · rw [ByteArray.size_append, hz] at k1; omega
  · rw [k2, back_rest hz]

/-- And by the document. -/
theorem readOpP_back (o : OpT) (T : ByteArray) (h : ∀ p ∈ opPs o, okP p = true) (hs : o.2.2.2.2.1.size ≤ 1024) (ht : o.2.2.2.2.2.size ≤ 1024) : readOpP (encA (opPs o) ++ T, 0) = ((T, 0), o) := by
  obtain ⟨k, ⟨a1, a2⟩, ⟨n1, n2⟩, ⟨p1, p2⟩, s, t⟩ := o
  unfold opPs at h
  simp only [List.forall_mem_cons] at h
  simp only at hs ht
  obtain ⟨h1, h2, h3, h4, h5, h6, _⟩ := h
  have e : encA (opPs (k, (a1, a2), (n1, n2), (p1, p2), s, t)) ++ T = encP (1, k, 0, ⟨#[]⟩) ++ (encP (3, a1, a2, ⟨#[]⟩) ++ (encP (3, n1, n2, ⟨#[]⟩) ++ (encP (3, p1, p2, ⟨#[]⟩) ++ (encP (4, 0, 0, s) ++ (encP (4, 0, 0, t) ++ T))))) := by
    unfold opPs
    simp only [encA, append_mid, ByteArray.append_empty, ByteArray.empty_append]
  rw [e]
  unfold readOpP
  obtain ⟨g1, g2⟩ := backC1 k 0 ⟨#[]⟩ (encP (3, a1, a2, ⟨#[]⟩) ++ (encP (3, n1, n2, ⟨#[]⟩) ++ (encP (3, p1, p2, ⟨#[]⟩) ++ (encP (4, 0, 0, s) ++ (encP (4, 0, 0, t) ++ T))))) h1
  rw [g1, g2, backP3 a1 a2 _ _ h2]
  simp only
  rw [backP3 n1 n2 _ _ h3]
  simp only
  rw [backP3 p1 p2 _ _ h4]
  simp only
  rw [backP4 0 0 s _ hs]
  simp only
  rw [backP4 0 0 t _ ht]

theorem writeA_fit : ∀ (l : List (Int × Int × Int × ByteArray)) (S : ByteArray), (∀ p ∈ l, okP p = true) → S.size + (encA l).size ≤ 65536 → writeA (S, false) l = (S ++ encA l, false) := by
  intro l
  induction l with
  | nil => intro S _ _; show (S, false) = (S ++ ByteArray.empty, false); rw [ByteArray.append_empty]
  | cons p l ih =>
    intro S h hn
    have hn' : S.size + ((encP p).size + (encA l).size) ≤ 65536 := by rw [← ByteArray.size_append]; exact hn
    show writeA (writeP (S, false) p) l = _
    rw [writeP_eq, h p (List.mem_cons_self ..), layP_true _ _ (by omega), ih _ (fun q hq => h q (List.mem_cons_of_mem _ hq)) (by rw [ByteArray.size_append]; omega)]
    show _ = (S ++ (encP p ++ encA l), false)
    rw [append_mid]

def doneQ (x : ByteArray × Bool) : ByteArray × Int := if x.2 = true then (⟨#[]⟩, 1) else (x.1, 0)

/-- An operation as bytes. -/
def putOpP (M : OpT → Bool) (o : OpT) : ByteArray × Int := if M o = true then doneQ (writeA (⟨#[]⟩, false) (opPs o)) else (⟨#[]⟩, 1)

def op0 : OpT := (0, (0, 0), (0, 0), (0, 0), ⟨#[]⟩, ⟨#[]⟩)

/-- The operation of bytes, as the code finds it. -/
def takeOpC (M : OpT → Bool) (s : ByteArray) : OpT × Int := if (putOpP M (readOpC (s, 0)).2).2 ≠ 0 ∨ (putOpP M (readOpC (s, 0)).2).1 ≠ s then (op0, 91) else ((readOpC (s, 0)).2, 0)

/-- As the document does. -/
def takeOpP (M : OpT → Bool) (s : ByteArray) : OpT × Int := if inDoneP (readOpP (s, 0)).1 ≠ 0 ∨ M (readOpP (s, 0)).2 = false then (op0, 91) else ((readOpP (s, 0)).2, 0)

theorem put_inv (M : OpT → Bool) (o : OpT) (s : ByteArray) (h : putOpP M o = (s, 0)) : M o = true ∧ (∀ p ∈ opPs o, okP p = true) ∧ s = encA (opPs o) := by
  unfold putOpP at h
  by_cases hm : M o = true
  · rw [if_pos hm] at h
    unfold doneQ at h
    by_cases hb : (writeA (⟨#[]⟩, false) (opPs o)).2 = true
    · rw [if_pos hb] at h; cases h
    · rw [if_neg hb] at h
      have hb' : (writeA (⟨#[]⟩, false) (opPs o)).2 = false := by
        cases hw : (writeA (⟨#[]⟩, false) (opPs o)).2 with
        | false => rfl
        | true => exact absurd hw hb
      obtain ⟨h1, h2⟩ := writeA_ok _ _ hb'
      refine ⟨hm, h1, ?_⟩
      have h3 : (writeA (⟨#[]⟩, false) (opPs o)).1 = s := congrArg Prod.fst h
      rw [← h3, h2]
      exact ByteArray.empty_append
  · rw [if_neg hm] at h; cases h

theorem put_fit (M : OpT → Bool) (o : OpT) (hm : M o = true) (h : ∀ p ∈ opPs o, okP p = true) (hn : (encA (opPs o)).size ≤ 65536) : putOpP M o = (encA (opPs o), 0) := by
  unfold putOpP
  have e := writeA_fit (opPs o) ⟨#[]⟩ h (by show 0 + _ ≤ _; omega)
  rw [if_pos hm, e]
  unfold doneQ
  rw [if_neg (by simp)]
  show (ByteArray.empty ++ _, _) = _
  rw [ByteArray.empty_append]

/-- What the code takes is what was put. -/
theorem takeC_put (M : OpT → Bool) (o : OpT) (s : ByteArray) (h : putOpP M o = (s, 0)) : takeOpC M s = (o, 0) := by
  obtain ⟨_, h2, h3⟩ := put_inv M o s h
  have hr := readOpC_back o ⟨#[]⟩ h2
  have e : encA (opPs o) ++ ⟨#[]⟩ = s := by rw [h3]; exact ByteArray.append_empty
  rw [e] at hr
  unfold takeOpC
  rw [hr]
  simp only
  rw [h, if_neg (by simp)]

theorem takeC_none (M : OpT → Bool) (s : ByteArray) (h : ∀ o, putOpP M o ≠ (s, 0)) : takeOpC M s = (op0, 91) := by
  unfold takeOpC
  rw [if_pos]
  by_cases h1 : (putOpP M (readOpC (s, 0)).2).2 = 0
  · refine .inr fun h2 => h _ (Prod.ext h2 h1)
  · exact .inl h1

theorem takeC_inv (M : OpT → Bool) (s : ByteArray) (h : (takeOpC M s).2 = 0) : putOpP M (takeOpC M s).1 = (s, 0) := by
  unfold takeOpC at h ⊢
  by_cases hc : (putOpP M (readOpC (s, 0)).2).2 ≠ 0 ∨ (putOpP M (readOpC (s, 0)).2).1 ≠ s
  · rw [if_pos hc] at h; cases h
  · rw [if_neg hc]
    exact Prod.ext (Classical.byContradiction fun k => hc (.inr k)) (Classical.byContradiction fun k => hc (.inl k))

/-- The code and the document take the same. -/
theorem take_same (M : OpT → Bool) (s : ByteArray) (hs : s.size ≤ 65536) (hM : ∀ o, M o = true → o.2.2.2.2.1.size ≤ 1024 ∧ o.2.2.2.2.2.size ≤ 1024) : takeOpC M s = takeOpP M s := by
  by_cases h : ∃ o, putOpP M o = (s, 0)
  · obtain ⟨o, ho⟩ := h
    rw [takeC_put M o s ho]
    obtain ⟨h1, h2, h3⟩ := put_inv M o s ho
    have hr := readOpP_back o ⟨#[]⟩ h2 (hM o h1).1 (hM o h1).2
    have e : encA (opPs o) ++ ⟨#[]⟩ = s := by rw [h3]; exact ByteArray.append_empty
    rw [e] at hr
    unfold takeOpP
    rw [hr]
    simp only
    rw [h1, if_neg]
    rintro (k | k)
    · exact k rfl
    · cases k
  · rw [takeC_none M s (fun o ho => h ⟨o, ho⟩)]
    unfold takeOpP
    rw [if_pos]
    by_cases h1 : inDoneP (readOpP (s, 0)).1 = 0
    · refine .inr ?_
      cases hm : M (readOpP (s, 0)).2 with
      | false => rfl
      | true =>
        refine absurd ⟨(readOpP (s, 0)).2, ?_⟩ h
        unfold inDoneP at h1
        by_cases hz : (readOpP (s, 0)).1.2 = 0 ∧ ¬ (readOpP (s, 0)).1.1.size = 0
        · rw [if_pos hz] at h1; cases h1
        · rw [if_neg hz] at h1
          have h0 : (readOpP (s, 0)).1.1.size = 0 := Classical.byContradiction fun k => hz ⟨h1, k⟩
          obtain ⟨_, k2, k3⟩ := readOp_inv (s, 0) h1
          have e0 : (readOpP (s, 0)).1.1 = ByteArray.empty := bt_ext _ _ (by rw [h0]; rfl) (fun i hi => by omega)
          rw [e0, ByteArray.append_empty] at k2
          have k2' : s = encA (opPs (readOpP (s, 0)).2) := k2
          have hf := put_fit M (readOpP (s, 0)).2 hm k3 (by rw [← k2']; exact hs)
          rw [← k2'] at hf
          exact hf
    · exact .inl h1
end Go.Proofs.YtkmdajenbidaaaaDoor

/- The code's writeOp, PutOp (layer 13). -/
namespace Go.Proofs.YtkmdajenbidaaaaDoor
open Go.RowKit
set_option maxRecDepth 100000
set_option linter.unusedSimpArgs false

theorem writeA_op (st : ByteArray × Bool) (o : OpT) : writeA st (opPs o) = textP (textP (stampP (stampP (stampP (numP st o.1 1 255) o.2.1.1 o.2.1.2) o.2.2.1.1 o.2.2.1.2) o.2.2.2.1.1 o.2.2.2.1.2) o.2.2.2.2.1) o.2.2.2.2.2 := by
  simp [writeA, opPs, writeP, kd, pn, pm, ps]

/-- What was written so far, the argument's block beside it. -/
structure WrS (w0 : World) (g : Nat) (v : Value) (t : TypeId) (gb : Nat) (cs : Array Value) (o : ByteArray × Bool) (W : World) (v1 : Value) : Prop where
  out : OutAt W g v1 o
  kept : Kept2 g v.ownBlock w0 W
  nx : Nx w0 v.ownBlock v1.ownBlock
  blk : Blk W t gb cs
  lt : gb < w0.heap.size
  ne : gb ≠ g
  nr : some gb ≠ v.ownBlock

theorem WrS.step {w0 : World} {g : Nat} {v : Value} {t : TypeId} {gb : Nat} {cs : Array Value} {o o' : ByteArray × Bool} {W W' : World} {v1 : Value} (h : WrS w0 g v t gb cs o W v1) (h2 : OutTo W g v1 o' W') : ∃ v2, WrS w0 g v t gb cs o' W' v2 := by
  obtain ⟨v2, k1, k2, k3⟩ := h2
  exact ⟨v2, k1, h.kept.trans k2 h.nx, h.nx.trans h.kept.size k3, h.blk.kept k2 h.ne (h.nx.ne h.lt h.nr), h.lt, h.ne, h.nr⟩

theorem WrS.to {w0 : World} {g : Nat} {v : Value} {t : TypeId} {gb : Nat} {cs : Array Value} {o : ByteArray × Bool} {W : World} {v1 : Value} (h : WrS w0 g v t gb cs o W v1) : OutTo w0 g v o W := ⟨v1, h.out, h.kept, h.nx⟩

theorem WrS.new {w : World} {g : Nat} {v : Value} {t : TypeId} {cs : Array Value} {o : ByteArray × Bool} (h : OutAt w g v o) : WrS (w.alloc (.cells cs t)) g v t w.heap.size cs o (w.alloc (.cells cs t)) v :=
  ⟨h.on (below_new _ _), Kept2.refl _ _ _, Nx.refl _ _, Blk.new _ _ _, by rw [World.size_alloc]; omega, fun e => by have := h.lt.1; omega, fun e => by have := h.lt.2 _ e.symm; omega⟩

theorem doneP_Q (x : ByteArray × Bool) : doneP x = .tuple #[.string (doneQ x).1, .int .i64 (doneQ x).2] := by
  unfold doneP doneQ
  obtain ⟨S, b⟩ := x
  cases b <;> rfl

theorem outTo_below {w w' : World} {g : Nat} {v : Value} {o : ByteArray × Bool} (h : OutTo w g v o w') (B : Nat) (hB : B ≤ w.heap.size) (hg : B ≤ g) (hv : ∀ k, v.ownBlock = some k → B ≤ k) : Below B w w' := by
  obtain ⟨_, _, k, _⟩ := h
  exact k.below B hB hg hv

end Go.Proofs.YtkmdajenbidaaaaDoor

/- The code's readOp, asPut of operations, TakeOp (layer 13). -/
namespace Go.Proofs.YtkmdajenbidaaaaDoor
open Go.RowKit
set_option maxRecDepth 100000
set_option linter.unusedSimpArgs false

/-- What was read so far, the new operation's block beside it. -/
structure RdS (w0 : World) (g : Nat) (gb ga : Nat) (cs ca : Array Value) (i : ByteArray × Int) (W : World) : Prop where
  inn : InAt W g i
  kept : Kept2 g none w0 W
  b : Blk W 32 gb cs
  a : Blk W 32 ga ca
  low : w0.heap.size ≤ ga
  up : ga < gb
  ne : g < ga

theorem RdS.step {w0 : World} {g gb ga : Nat} {cs ca : Array Value} {i i' : ByteArray × Int} {W W' : World} (h : RdS w0 g gb ga cs ca i W) (h2 : InTo W g i' W') : RdS w0 g gb ga cs ca i' W' :=
  ⟨h2.1, h.kept.trans h2.2 (Nx.refl _ _), h.b.kept h2.2 (by have := h.ne; have := h.up; omega) (by simp), h.a.kept h2.2 (by have := h.ne; omega) (by simp), h.low, h.up, h.ne⟩

theorem RdS.set {w0 : World} {g gb ga : Nat} {cs ca : Array Value} {i : ByteArray × Int} {W : World} (h : RdS w0 g gb ga cs ca i W) (j : Nat) (u : Value) : RdS w0 g gb ga (cs.setIfInBounds j u) ca i (W.setCell ⟨gb, j, none⟩ u) := by
  have h1 := h.ne
  have h2 := h.up
  have h3 := h.low
  exact ⟨⟨h.inn.1.grown (grown_set W gb j u) (fun e => by cases e; omega), h.inn.2⟩, h.kept.setNew ⟨gb, j, none⟩ (by show _ ≤ gb; omega) u, h.b.setAt j u, h.a.grown (grown_set W gb j u) (fun e => by cases e; omega), h.low, h.up, h.ne⟩

end Go.Proofs.YtkmdajenbidaaaaDoor

/- The code's asPut of operations, TakeOp (layer 13). -/
namespace Go.Proofs.YtkmdajenbidaaaaDoor
open Go.RowKit
set_option maxRecDepth 100000
set_option linter.unusedSimpArgs false

/-- What was read, if it is put as just those bytes. -/
def asP (M : OpT → Bool) (x : OpT) (s : ByteArray) : OpT × Int := if (putOpP M x).2 ≠ 0 ∨ (putOpP M x).1 ≠ s then (op0, 91) else (x, 0)

theorem inTextC_size (i : ByteArray × Int) (most : Int) : (inTextC i most).2.size ≤ 1048576 := by
  unfold inTextC
  split
  · exact Nat.zero_le _
  · exact Nat.le_trans (takeS_size _ _) (by have := number2_lt i; omega)

theorem readOpC_sizes (i : ByteArray × Int) : (readOpC i).2.2.2.2.2.1.size ≤ 1048576 ∧ (readOpC i).2.2.2.2.2.2.size ≤ 9223372036854775807 := by
  unfold readOpC
  simp only
  exact ⟨inTextC_size _ _, Nat.le_trans (inTextC_size _ _) (by decide)⟩

theorem text_ne {a b : ByteArray} (h : ¬ a = b) : (a.toList == b.toList) = false := by
  cases e : (a.toList == b.toList) with
  | false => rfl
  | true =>
    refine absurd ?_ h
    have := eq_of_beq e
    rw [toList_data, toList_data] at this
    exact ByteArray.ext (Array.toList_inj.1 this)



end Go.Proofs.YtkmdajenbidaaaaDoor
