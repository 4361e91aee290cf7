import Derived.Test.YtmjjpfinkpfifaaDoorC9
import Derived.Test.YtmjjpfinkpfifaaDoorRT
import Derived.Test.YtmjjpfinkpfifaaDoorTY
/- An operation as bytes, there and back, on plain data (layer 13). -/
namespace Go.Proofs.YtmjjpfinkpfifaaDoor
open Go.RowKit
set_option maxRecDepth 100000
set_option linter.unusedSimpArgs false

/-- The parts of an operation. -/
def opPs (o : OpT) : List (Int × Int × Int × ByteArray) :=
  [(1, o.1, 0, ⟨#[]⟩), (3, o.2.1.1, o.2.1.2, ⟨#[]⟩), (3, o.2.2.1.1, o.2.2.1.2, ⟨#[]⟩), (3, o.2.2.2.1.1, o.2.2.2.1.2, ⟨#[]⟩), (4, 0, 0, o.2.2.2.2.1), (4, 0, 0, o.2.2.2.2.2)]

theorem accB_div (s : ByteArray) (n d : Nat) : accB s (n + d) / 256 ^ d = accB s n := by
  induction d with
  | zero => rw [Nat.pow_zero, Nat.div_one]; rfl
  | succ d ih =>
    have h : accB s (n + (d + 1)) = accB s (n + d) * 256 + bt s (n + d) := rfl
    rw [h, Nat.pow_succ, Nat.mul_comm (256 ^ d) 256, ← Nat.div_div_eq_div_mul]
    have hb := bt_lt s (n + d)
    rw [show (accB s (n + d) * 256 + bt s (n + d)) / 256 = accB s (n + d) by omega]
    exact ih

/-- What is read as a number is written as the same bytes. -/
theorem big_accB (s : ByteArray) (n : Nat) (h : n ≤ s.size) : bigB (accB s n : Int) n = s.extract 0 n := by
  have hz : (s.extract 0 n).size = n := by rw [ByteArray.size_extract]; omega
  refine bt_ext _ _ (by rw [bigB_size, hz]) (fun j hj => ?_)
  rw [bigB_size] at hj
  rw [bt_bigB _ _ _ hj, bt_extract s 0 n j (by omega) h, Nat.zero_add]
  obtain ⟨d, hd⟩ : ∃ d, n = j + 1 + d := ⟨n - 1 - j, by omega⟩
  rw [show n - 1 - j = d by omega, hd, accB_div]
  show (accB s j * 256 + bt s j) % 256 = bt s j
  have := bt_lt s j
  omega

theorem cut_join (s : ByteArray) (n : Nat) (h : n ≤ s.size) : s = s.extract 0 n ++ s.extract n s.size := by
  have hz : (s.extract 0 n).size = n := by rw [ByteArray.size_extract]; omega
  have hy : (s.extract n s.size).size = s.size - n := by rw [ByteArray.size_extract]; omega
  refine bt_ext _ _ (by rw [ByteArray.size_append, hz, hy]; omega) (fun j hj => ?_)
  by_cases hjn : j < n
  · rw [bt_append_left _ _ _ (by omega), bt_extract s 0 n j (by omega) h, Nat.zero_add]
  · obtain ⟨d, hd⟩ : ∃ d, j = n + d := ⟨j - n, by omega⟩
    have e := bt_append_right (s.extract 0 n) (s.extract n s.size) d
    rw [hz] at e
    rw [hd, e, bt_extract s n s.size d (by omega) (Nat.le_refl _)]

theorem number_inv (i : ByteArray × Int) (n : Nat) (h : (numberP i n).1.2 = 0) : i.2 = 0 ∧ i.1 = bigB ((numberP i n).2 : Int) n ++ (numberP i n).1.1 ∧ (numberP i n).2 < 256 ^ n := by
  unfold numberP at h ⊢
  by_cases hc : i.2 ≠ 0 ∨ i.1.size < n
  · rw [if_pos hc] at h
    unfold wrongP at h
    simp only at h
    by_cases h0 : i.2 = 0
    · rw [if_pos h0] at h; cases h
    · rw [if_neg h0] at h; exact absurd h h0
  · rw [if_neg hc]
    have h0 : i.2 = 0 := Classical.byContradiction fun k => hc (.inl k)
    have hn : n ≤ i.1.size := by
      by_cases k : i.1.size < n
      · exact absurd (.inr k) hc
      · omega
    refine ⟨h0, ?_, accB_lt _ _⟩
    simp only
    rw [big_accB _ _ hn]
    exact cut_join _ _ hn

theorem inNum_inv (i : ByteArray × Int) (h : (inNumP i).1.2 = 0) : i.2 = 0 ∧ i.1 = bigB ((inNumP i).2 : Int) 6 ++ (inNumP i).1.1 ∧ (inNumP i).2 ≤ 1099511627775 := by
  unfold inNumP at h ⊢
  by_cases hc : 1099511627775 < (numberP i 6).2
  · rw [if_pos hc] at h
    unfold wrongP at h
    simp only at h
    by_cases h0 : (numberP i 6).1.2 = 0
    · rw [if_pos h0] at h; cases h
    · rw [if_neg h0] at h; exact absurd h h0
  · rw [if_neg hc] at h ⊢
    obtain ⟨h1, h2, _⟩ := number_inv i 6 h
    exact ⟨h1, h2, by omega⟩

theorem inStamp_inv (i : ByteArray × Int) (h : (inStampP i).1.2 = 0) : i.2 = 0 ∧ i.1 = (bigB (inStampP i).2.1 6 ++ bigB (inStampP i).2.2 1) ++ (inStampP i).1.1 ∧ stampOk (inStampP i).2.1 (inStampP i).2.2 = true := by
  unfold inStampP at h ⊢
  by_cases hc : (numberP (inNumP i).1 1).1.2 ≠ 0
  · rw [if_pos hc] at h; exact absurd h hc
  · rw [if_neg hc] at h ⊢
    simp only at h ⊢
    obtain ⟨h1, h2, h3⟩ := number_inv _ 1 h
    obtain ⟨h4, h5, h6⟩ := inNum_inv i h1
    refine ⟨h4, ?_, ?_⟩
    · rw [append_mid, ← h2]; exact h5
    · unfold stampOk oneOk
      simp only [Bool.and_eq_true, decide_eq_true_eq]
      omega

theorem inText_inv (i : ByteArray × Int) (most : Int) (h : (inTextP i most).1.2 = 0) : i.2 = 0 ∧ i.1 = (bigB ((inTextP i most).2.size : Int) 2 ++ (inTextP i most).2) ++ (inTextP i most).1.1 ∧ (inTextP i most).2.size ≤ 65535 ∧ ((inTextP i most).2.size : Int) ≤ most := by
  unfold inTextP at h ⊢
  by_cases h1 : (numberP i 2).1.2 ≠ 0
  · rw [if_pos h1] at h; exact absurd h h1
  · rw [if_neg h1] at h ⊢
    have h1' : (numberP i 2).1.2 = 0 := Classical.byContradiction h1
    by_cases h2 : most < ((numberP i 2).2 : Int)
    · rw [if_pos h2] at h
      unfold wrongP at h
      simp only [h1'] at h
      cases h
    · rw [if_neg h2] at h ⊢
      by_cases h3 : (numberP i 2).1.1.size < (numberP i 2).2
      · rw [if_pos h3] at h
        unfold wrongP at h
        simp only [h1'] at h
        cases h
      · rw [if_neg h3]
        obtain ⟨k1, k2, k3⟩ := number_inv i 2 h1'
        have hz : ((numberP i 2).1.1.extract 0 (numberP i 2).2).size = (numberP i 2).2 := by rw [ByteArray.size_extract]; omega
        simp only
        rw [hz]
        refine ⟨k1, ?_, by omega, by omega⟩
        rw [append_mid, ← cut_join _ _ (by omega)]
        exact k2

theorem text_okP (a b : Int) (s : ByteArray) (h : s.size ≤ 65535) : okP (4, a, b, s) = true := by
  unfold okP kd ps
  rw [if_neg (by simp), if_neg (by simp), if_neg (by simp)]
  exact decide_eq_true h

theorem stamp_okP (a b : Int) (s : ByteArray) (h : stampOk a b = true) : okP (3, a, b, s) = true := by
  unfold okP kd pn pm
  rw [if_neg (by simp), if_neg (by simp), if_pos rfl]
  exact h

theorem byte_okP (a b : Int) (s : ByteArray) (h : oneOk a 255 = true) : okP (1, a, b, s) = true := by
  unfold okP kd pn
  rw [if_pos rfl]
  exact h

theorem enc1 (a b : Int) (s : ByteArray) : encP (1, a, b, s) = bigB a 1 := by
  unfold encP kd pn
  rw [if_pos rfl]

theorem enc3 (a b : Int) (s : ByteArray) : encP (3, a, b, s) = bigB a 6 ++ bigB b 1 := by
  unfold encP kd pn pm
  rw [if_neg (by simp), if_neg (by simp), if_pos rfl]

theorem enc4 (a b : Int) (s : ByteArray) : encP (4, a, b, s) = bigB (s.size : Int) 2 ++ s := by
  unfold encP kd ps
  rw [if_neg (by simp), if_neg (by simp), if_neg (by simp)]

theorem encA_snoc (l : List (Int × Int × Int × ByteArray)) (m : List (Int × Int × Int × ByteArray)) : encA (l ++ m) = encA l ++ encA m := by
  induction l with
  | nil => show encA m = ByteArray.empty ++ encA m; rw [ByteArray.empty_append]
  | cons p l ih => show encP p ++ encA (l ++ m) = (encP p ++ encA l) ++ encA m; rw [ih, append_mid]

/-- What the code's In reads as an operation. -/
def readOpC (i : ByteArray × Int) : (ByteArray × Int) × OpT :=
  ((inTextC (inTextC (inStampC (inStampC (inStampC (numberP i 1).1).1).1).1 65536).1 65536).1,
   (((numberP i 1).2 : Int), (inStampC (numberP i 1).1).2, (inStampC (inStampC (numberP i 1).1).1).2, (inStampC (inStampC (inStampC (numberP i 1).1).1).1).2,
    (inTextC (inStampC (inStampC (inStampC (numberP i 1).1).1).1).1 65536).2, (inTextC (inTextC (inStampC (inStampC (inStampC (numberP i 1).1).1).1).1 65536).1 65536).2))

/-- What the document reads as one. -/
def readOpP (i : ByteArray × Int) : (ByteArray × Int) × OpT :=
  ((inTextP (inTextP (inStampP (inStampP (inStampP (numberP i 1).1).1).1).1 1024).1 1024).1,
   (((numberP i 1).2 : Int), (inStampP (numberP i 1).1).2, (inStampP (inStampP (numberP i 1).1).1).2, (inStampP (inStampP (inStampP (numberP i 1).1).1).1).2,
    (inTextP (inStampP (inStampP (inStampP (numberP i 1).1).1).1).1 1024).2, (inTextP (inTextP (inStampP (inStampP (inStampP (numberP i 1).1).1).1).1 1024).1 1024).2))

/-- The document reads what stands there. -/
theorem readOp_inv (i : ByteArray × Int) (h : (readOpP i).1.2 = 0) : i.2 = 0 ∧ i.1 = encA (opPs (readOpP i).2) ++ (readOpP i).1.1 ∧ ∀ p ∈ opPs (readOpP i).2, okP p = true := by
  unfold readOpP at h ⊢
  simp only at h ⊢
  obtain ⟨a1, a2, a3, _⟩ := inText_inv _ _ h
  obtain ⟨b1, b2, b3, _⟩ := inText_inv _ _ a1
  obtain ⟨c1, c2, c3⟩ := inStamp_inv _ b1
  obtain ⟨d1, d2, d3⟩ := inStamp_inv _ c1
  obtain ⟨e1, e2, e3⟩ := inStamp_inv _ d1
  obtain ⟨f1, f2, f3⟩ := number_inv _ 1 e1
  refine ⟨f1, ?_, ?_⟩
  · rw [f2, e2, d2, c2, b2, a2]
    unfold opPs
    simp only [encA, enc1, enc3, enc4, append_mid, ByteArray.append_empty, ByteArray.empty_append]
  · intro p hp
    unfold opPs at hp
    simp only [List.mem_cons, List.not_mem_nil, or_false] at hp
    rcases hp with rfl | rfl | rfl | rfl | rfl | rfl
    · exact byte_okP _ _ _ (by unfold oneOk; simp only [Bool.and_eq_true, decide_eq_true_eq]; omega)
    · exact stamp_okP _ _ _ e3
    · exact stamp_okP _ _ _ d3
    · exact stamp_okP _ _ _ c3
    · exact text_okP _ _ _ b3
    · exact text_okP _ _ _ a3

theorem backC1 (n a : Int) (s T : ByteArray) (h : okP (1, n, a, s) = true) : (numberP (encP (1, n, a, s) ++ T, 0) 1).1 = (T, 0) ∧ ((numberP (encP (1, n, a, s) ++ T, 0) 1).2 : Int) = n := by
  obtain ⟨N, h1, h2⟩ := back1 (1, n, a, s) T rfl h
  rw [h1]
  exact ⟨rfl, h2⟩

/-- What was written as an operation is read by the code as it was. -/
theorem readOpC_back (o : OpT) (T : ByteArray) (h : ∀ p ∈ opPs o, okP p = true) : readOpC (encA (opPs o) ++ T, 0) = ((T, 0), o) := by
  obtain ⟨k, ⟨a1, a2⟩, ⟨n1, n2⟩, ⟨p1, p2⟩, s, t⟩ := o
  unfold opPs at h
  simp only [List.forall_mem_cons] at h
  obtain ⟨h1, h2, h3, h4, h5, h6, _⟩ := h
  have e : encA (opPs (k, (a1, a2), (n1, n2), (p1, p2), s, t)) ++ T = encP (1, k, 0, ⟨#[]⟩) ++ (encP (3, a1, a2, ⟨#[]⟩) ++ (encP (3, n1, n2, ⟨#[]⟩) ++ (encP (3, p1, p2, ⟨#[]⟩) ++ (encP (4, 0, 0, s) ++ (encP (4, 0, 0, t) ++ T))))) := by
    unfold opPs
    simp only [encA, append_mid, ByteArray.append_empty, ByteArray.empty_append]
  rw [e]
  unfold readOpC
  obtain ⟨g1, g2⟩ := backC1 k 0 ⟨#[]⟩ (encP (3, a1, a2, ⟨#[]⟩) ++ (encP (3, n1, n2, ⟨#[]⟩) ++ (encP (3, p1, p2, ⟨#[]⟩) ++ (encP (4, 0, 0, s) ++ (encP (4, 0, 0, t) ++ T))))) h1
  rw [g1, g2, back3 (3, a1, a2, ⟨#[]⟩) _ rfl h2]
  simp only
  rw [back3 (3, n1, n2, ⟨#[]⟩) _ rfl h3]
  simp only
  rw [back3 (3, p1, p2, ⟨#[]⟩) _ rfl h4]
  simp only
  rw [back4 (4, 0, 0, s) _ (by simp [kd]) (by simp [kd]) (by simp [kd]) h5]
  simp only
  rw [back4 (4, 0, 0, t) _ (by simp [kd]) (by simp [kd]) (by simp [kd]) h6]
  rfl

theorem backP3 (a b : Int) (s T : ByteArray) (hok : okP (3, a, b, s) = true) : inStampP (encP (3, a, b, s) ++ T, 0) = ((T, 0), (a, b)) := by
  have h := back3 (3, a, b, s) T rfl hok
  rw [stampC_long _ (by rw [enc3, ByteArray.size_append, ByteArray.size_append, bigB_size, bigB_size]; omega)] at h
  exact h

theorem backP4 (a b : Int) (s T : ByteArray) (hs : s.size ≤ 1024) : inTextP (encP (4, a, b, s) ++ T, 0) 1024 = ((T, 0), s) := by
  have hz : (bigB (s.size : Int) 2 ++ s).size = 2 + s.size := by rw [ByteArray.size_append, bigB_size]
  rw [enc4]
  rcases inText_pre ((bigB (s.size : Int) 2 ++ s) ++ T) T s 1024 (by omega) (by omega) (PreB.refl _) with ⟨k1, _⟩ | ⟨_, k2, _⟩
  · rw [ByteArray.size_append, hz] at k1; omega
  · rw [k2, back_rest hz]

/-- And by the document. -/
theorem readOpP_back (o : OpT) (T : ByteArray) (h : ∀ p ∈ opPs o, okP p = true) (hs : o.2.2.2.2.1.size ≤ 1024) (ht : o.2.2.2.2.2.size ≤ 1024) : readOpP (encA (opPs o) ++ T, 0) = ((T, 0), o) := by
  obtain ⟨k, ⟨a1, a2⟩, ⟨n1, n2⟩, ⟨p1, p2⟩, s, t⟩ := o
  unfold opPs at h
  simp only [List.forall_mem_cons] at h
  simp only at hs ht
  obtain ⟨h1, h2, h3, h4, h5, h6, _⟩ := h
  have e : encA (opPs (k, (a1, a2), (n1, n2), (p1, p2), s, t)) ++ T = encP (1, k, 0, ⟨#[]⟩) ++ (encP (3, a1, a2, ⟨#[]⟩) ++ (encP (3, n1, n2, ⟨#[]⟩) ++ (encP (3, p1, p2, ⟨#[]⟩) ++ (encP (4, 0, 0, s) ++ (encP (4, 0, 0, t) ++ T))))) := by
    unfold opPs
    simp only [encA, append_mid, ByteArray.append_empty, ByteArray.empty_append]
  rw [e]
  unfold readOpP
  obtain ⟨g1, g2⟩ := backC1 k 0 ⟨#[]⟩ (encP (3, a1, a2, ⟨#[]⟩) ++ (encP (3, n1, n2, ⟨#[]⟩) ++ (encP (3, p1, p2, ⟨#[]⟩) ++ (encP (4, 0, 0, s) ++ (encP (4, 0, 0, t) ++ T))))) h1
  rw [g1, g2, backP3 a1 a2 _ _ h2]
  simp only
  rw [backP3 n1 n2 _ _ h3]
  simp only
  rw [backP3 p1 p2 _ _ h4]
  simp only
  rw [backP4 0 0 s _ hs]
  simp only
  rw [backP4 0 0 t _ ht]

theorem writeA_fit : ∀ (l : List (Int × Int × Int × ByteArray)) (S : ByteArray), (∀ p ∈ l, okP p = true) → S.size + (encA l).size ≤ 65536 → writeA (S, false) l = (S ++ encA l, false) := by
  intro l
  induction l with
  | nil => intro S _ _; show (S, false) = (S ++ ByteArray.empty, false); rw [ByteArray.append_empty]
  | cons p l ih =>
    intro S h hn
    have hn' : S.size + ((encP p).size + (encA l).size) ≤ 65536 := by rw [← ByteArray.size_append]; exact hn
    show writeA (writeP (S, false) p) l = _
    rw [writeP_eq, h p (List.mem_cons_self ..), layP_true _ _ (by omega), ih _ (fun q hq => h q (List.mem_cons_of_mem _ hq)) (by rw [ByteArray.size_append]; omega)]
    show _ = (S ++ (encP p ++ encA l), false)
    rw [append_mid]

def doneQ (x : ByteArray × Bool) : ByteArray × Int := if x.2 = true then (⟨#[]⟩, 1) else (x.1, 0)

/-- An operation as bytes. -/
def putOpP (M : OpT → Bool) (o : OpT) : ByteArray × Int := if M o = true then doneQ (writeA (⟨#[]⟩, false) (opPs o)) else (⟨#[]⟩, 1)

def op0 : OpT := (0, (0, 0), (0, 0), (0, 0), ⟨#[]⟩, ⟨#[]⟩)

/-- The operation of bytes, as the code finds it. -/
def takeOpC (M : OpT → Bool) (s : ByteArray) : OpT × Int := if (putOpP M (readOpC (s, 0)).2).2 ≠ 0 ∨ (putOpP M (readOpC (s, 0)).2).1 ≠ s then (op0, 91) else ((readOpC (s, 0)).2, 0)

/-- As the document does. -/
def takeOpP (M : OpT → Bool) (s : ByteArray) : OpT × Int := if inDoneP (readOpP (s, 0)).1 ≠ 0 ∨ M (readOpP (s, 0)).2 = false then (op0, 91) else ((readOpP (s, 0)).2, 0)

theorem put_inv (M : OpT → Bool) (o : OpT) (s : ByteArray) (h : putOpP M o = (s, 0)) : M o = true ∧ (∀ p ∈ opPs o, okP p = true) ∧ s = encA (opPs o) := by
  unfold putOpP at h
  by_cases hm : M o = true
  · rw [if_pos hm] at h
    unfold doneQ at h
    by_cases hb : (writeA (⟨#[]⟩, false) (opPs o)).2 = true
    · rw [if_pos hb] at h; cases h
    · rw [if_neg hb] at h
      have hb' : (writeA (⟨#[]⟩, false) (opPs o)).2 = false := by
        cases hw : (writeA (⟨#[]⟩, false) (opPs o)).2 with
        | false => rfl
        | true => exact absurd hw hb
      obtain ⟨h1, h2⟩ := writeA_ok _ _ hb'
      refine ⟨hm, h1, ?_⟩
      have h3 : (writeA (⟨#[]⟩, false) (opPs o)).1 = s := congrArg Prod.fst h
      rw [← h3, h2]
      exact ByteArray.empty_append
  · rw [if_neg hm] at h; cases h

theorem put_fit (M : OpT → Bool) (o : OpT) (hm : M o = true) (h : ∀ p ∈ opPs o, okP p = true) (hn : (encA (opPs o)).size ≤ 65536) : putOpP M o = (encA (opPs o), 0) := by
  unfold putOpP
  have e := writeA_fit (opPs o) ⟨#[]⟩ h (by show 0 + _ ≤ _; omega)
  rw [if_pos hm, e]
  unfold doneQ
  rw [if_neg (by simp)]
  show (ByteArray.empty ++ _, _) = _
  rw [ByteArray.empty_append]

/-- What the code takes is what was put. -/
theorem takeC_put (M : OpT → Bool) (o : OpT) (s : ByteArray) (h : putOpP M o = (s, 0)) : takeOpC M s = (o, 0) := by
  obtain ⟨_, h2, h3⟩ := put_inv M o s h
  have hr := readOpC_back o ⟨#[]⟩ h2
  have e : encA (opPs o) ++ ⟨#[]⟩ = s := by rw [h3]; exact ByteArray.append_empty
  rw [e] at hr
  unfold takeOpC
  rw [hr]
  simp only
  rw [h, if_neg (by simp)]

theorem takeC_none (M : OpT → Bool) (s : ByteArray) (h : ∀ o, putOpP M o ≠ (s, 0)) : takeOpC M s = (op0, 91) := by
  unfold takeOpC
  rw [if_pos]
  by_cases h1 : (putOpP M (readOpC (s, 0)).2).2 = 0
  · refine .inr fun h2 => h _ (Prod.ext h2 h1)
  · exact .inl h1

theorem takeC_inv (M : OpT → Bool) (s : ByteArray) (h : (takeOpC M s).2 = 0) : putOpP M (takeOpC M s).1 = (s, 0) := by
  unfold takeOpC at h ⊢
  by_cases hc : (putOpP M (readOpC (s, 0)).2).2 ≠ 0 ∨ (putOpP M (readOpC (s, 0)).2).1 ≠ s
  · rw [if_pos hc] at h; cases h
  · rw [if_neg hc]
    exact Prod.ext (Classical.byContradiction fun k => hc (.inr k)) (Classical.byContradiction fun k => hc (.inl k))

/-- The code and the document take the same. -/
theorem take_same (M : OpT → Bool) (s : ByteArray) (hs : s.size ≤ 65536) (hM : ∀ o, M o = true → o.2.2.2.2.1.size ≤ 1024 ∧ o.2.2.2.2.2.size ≤ 1024) : takeOpC M s = takeOpP M s := by
  by_cases h : ∃ o, putOpP M o = (s, 0)
  · obtain ⟨o, ho⟩ := h
    rw [takeC_put M o s ho]
    obtain ⟨h1, h2, h3⟩ := put_inv M o s ho
    have hr := readOpP_back o ⟨#[]⟩ h2 (hM o h1).1 (hM o h1).2
    have e : encA (opPs o) ++ ⟨#[]⟩ = s := by rw [h3]; exact ByteArray.append_empty
    rw [e] at hr
    unfold takeOpP
    rw [hr]
    simp only
    rw [h1, if_neg]
    rintro (k | k)
    · exact k rfl
    · cases k
  · rw [takeC_none M s (fun o ho => h ⟨o, ho⟩)]
    unfold takeOpP
    rw [if_pos]
    by_cases h1 : inDoneP (readOpP (s, 0)).1 = 0
    · refine .inr ?_
      cases hm : M (readOpP (s, 0)).2 with
      | false => rfl
      | true =>
        refine absurd ⟨(readOpP (s, 0)).2, ?_⟩ h
        unfold inDoneP at h1
        by_cases hz : (readOpP (s, 0)).1.2 = 0 ∧ ¬ (readOpP (s, 0)).1.1.size = 0
        · rw [if_pos hz] at h1; cases h1
        · rw [if_neg hz] at h1
          have h0 : (readOpP (s, 0)).1.1.size = 0 := Classical.byContradiction fun k => hz ⟨h1, k⟩
          obtain ⟨_, k2, k3⟩ := readOp_inv (s, 0) h1
          have e0 : (readOpP (s, 0)).1.1 = ByteArray.empty := bt_ext _ _ (by rw [h0]; rfl) (fun i hi => by omega)
          rw [e0, ByteArray.append_empty] at k2
          have k2' : s = encA (opPs (readOpP (s, 0)).2) := k2
          have hf := put_fit M (readOpP (s, 0)).2 hm k3 (by rw [← k2']; exact hs)
          rw [← k2'] at hf
          exact hf
    · exact .inl h1
end Go.Proofs.YtmjjpfinkpfifaaDoor

/- The code's writeOp, PutOp (layer 13). -/
namespace Go.Proofs.YtmjjpfinkpfifaaDoor
open Go.RowKit
set_option maxRecDepth 100000
set_option linter.unusedSimpArgs false

theorem writeA_op (st : ByteArray × Bool) (o : OpT) : writeA st (opPs o) = textP (textP (stampP (stampP (stampP (numP st o.1 1 255) o.2.1.1 o.2.1.2) o.2.2.1.1 o.2.2.1.2) o.2.2.2.1.1 o.2.2.2.1.2) o.2.2.2.2.1) o.2.2.2.2.2 := by
  simp [writeA, opPs, writeP, kd, pn, pm, ps]

/-- What was written so far, the argument's block beside it. -/
structure WrS (w0 : World) (g : Nat) (v : Value) (t : TypeId) (gb : Nat) (cs : Array Value) (o : ByteArray × Bool) (W : World) (v1 : Value) : Prop where
  out : OutAt W g v1 o
  kept : Kept2 g v.ownBlock w0 W
  nx : Nx w0 v.ownBlock v1.ownBlock
  blk : Blk W t gb cs
  lt : gb < w0.heap.size
  ne : gb ≠ g
  nr : some gb ≠ v.ownBlock

theorem WrS.step {w0 : World} {g : Nat} {v : Value} {t : TypeId} {gb : Nat} {cs : Array Value} {o o' : ByteArray × Bool} {W W' : World} {v1 : Value} (h : WrS w0 g v t gb cs o W v1) (h2 : OutTo W g v1 o' W') : ∃ v2, WrS w0 g v t gb cs o' W' v2 := by
  obtain ⟨v2, k1, k2, k3⟩ := h2
  exact ⟨v2, k1, h.kept.trans k2 h.nx, h.nx.trans h.kept.size k3, h.blk.kept k2 h.ne (h.nx.ne h.lt h.nr), h.lt, h.ne, h.nr⟩

theorem WrS.to {w0 : World} {g : Nat} {v : Value} {t : TypeId} {gb : Nat} {cs : Array Value} {o : ByteArray × Bool} {W : World} {v1 : Value} (h : WrS w0 g v t gb cs o W v1) : OutTo w0 g v o W := ⟨v1, h.out, h.kept, h.nx⟩

theorem WrS.new {w : World} {g : Nat} {v : Value} {t : TypeId} {cs : Array Value} {o : ByteArray × Bool} (h : OutAt w g v o) : WrS (w.alloc (.cells cs t)) g v t w.heap.size cs o (w.alloc (.cells cs t)) v :=
  ⟨h.on (below_new _ _), Kept2.refl _ _ _, Nx.refl _ _, Blk.new _ _ _, by rw [World.size_alloc]; omega, fun e => by have := h.lt.1; omega, fun e => by have := h.lt.2 _ e.symm; omega⟩

set_option maxHeartbeats 2000000 in
set_option maxRecDepth 100000 in
theorem writeOp_any (g : Nat) (v : Value) (st : ByteArray × Bool) (o : OpT) (w : World) (h : OutAt w g v st) :
    Calls Tryd.prog 64 #[.pointer (some ⟨g, 0, none⟩), .agg (opA o)] w fun e w' => e = .returned (.tuple #[]) ∧ OutTo w g v (writeA st (opPs o)) w' := by
  rw [writeA_op]
  obtain ⟨k0, ⟨k1, k2⟩, ⟨k3, k4⟩, ⟨k5, k6⟩, s7, s8⟩ := o
  simp only [opA]
  have HS : Hid (WrS _ g v 25 w.heap.size #[.int .i64 k0, .int .i64 k1, .int .i64 k2, .int .i64 k3, .int .i64 k4, .int .i64 k5, .int .i64 k6, .string s7, .string s8] st _ v) := WrS.new h
  have HB' : Hid (Below w.heap.size w (w.alloc (.cells #[.int .i64 k0, .int .i64 k1, .int .i64 k2, .int .i64 k3, .int .i64 k4, .int .i64 k5, .int .i64 k6, .string s7, .string s8] 25))) := below_new _ _
  clear h
  go_enter Tryd.func64, Tryd.ntmps64
  go_wp2_with fail
  obtain ⟨w0, hw0⟩ : ∃ w0, w.alloc (.cells #[.int .i64 k0, .int .i64 k1, .int .i64 k2, .int .i64 k3, .int .i64 k4, .int .i64 k5, .int .i64 k6, .string s7, .string s8] 25) = w0 := ⟨_, rfl⟩
  obtain ⟨gb, hgb⟩ : ∃ gb, w.heap.size = gb := ⟨_, rfl⟩
  rw [hw0] at HS HB'
  rw [hgb] at HS
  try rw [hw0]
  try rw [hgb]
  clear hw0 hgb
  refine (obyte_any g _ _ k0 _ HS.out.out).mono ?_
  rintro e w1 ⟨rfl, h1⟩
  obtain ⟨v1, h1⟩ := HS.out.step h1
  have H1 : Hid (WrS _ _ _ _ _ _ _ w1 v1) := h1
  have c1 : w1.cell? ⟨gb, 1, none⟩ = some (.int .i64 k1) := h1.blk.cell 1
  have c2 : w1.cell? ⟨gb, 2, none⟩ = some (.int .i64 k2) := h1.blk.cell 2
  clear HS h1
  go_wp2_with fail
  refine (ostamp_any g _ _ k1 k2 _ H1.out.out).mono ?_
  rintro e w2 ⟨rfl, h2⟩
  obtain ⟨v2, h2⟩ := H1.out.step h2
  have H2 : Hid (WrS _ _ _ _ _ _ _ w2 v2) := h2
  have c3 : w2.cell? ⟨gb, 3, none⟩ = some (.int .i64 k3) := h2.blk.cell 3
  have c4 : w2.cell? ⟨gb, 4, none⟩ = some (.int .i64 k4) := h2.blk.cell 4
  clear H1 h2 c1 c2
  go_wp2_with fail
  refine (ostamp_any g _ _ k3 k4 _ H2.out.out).mono ?_
  rintro e w3 ⟨rfl, h3⟩
  obtain ⟨v3, h3⟩ := H2.out.step h3
  have H3 : Hid (WrS _ _ _ _ _ _ _ w3 v3) := h3
  have c5 : w3.cell? ⟨gb, 5, none⟩ = some (.int .i64 k5) := h3.blk.cell 5
  have c6 : w3.cell? ⟨gb, 6, none⟩ = some (.int .i64 k6) := h3.blk.cell 6
  clear H2 h3 c3 c4
  go_wp2_with fail
  refine (ostamp_any g _ _ k5 k6 _ H3.out.out).mono ?_
  rintro e w4 ⟨rfl, h4⟩
  obtain ⟨v4, h4⟩ := H3.out.step h4
  have H4 : Hid (WrS _ _ _ _ _ _ _ w4 v4) := h4
  have c7 : w4.cell? ⟨gb, 7, none⟩ = some (.string s7) := h4.blk.cell 7
  clear H3 h4 c5 c6
  go_wp2_with fail
  refine (otext_any g _ _ s7 _ H4.out.out).mono ?_
  rintro e w5 ⟨rfl, h5⟩
  obtain ⟨v5, h5⟩ := H4.out.step h5
  have H5 : Hid (WrS _ _ _ _ _ _ _ w5 v5) := h5
  have c8 : w5.cell? ⟨gb, 8, none⟩ = some (.string s8) := h5.blk.cell 8
  clear H4 h5 c7
  go_wp2_with fail
  refine (otext_any g _ _ s8 _ H5.out.out).mono ?_
  rintro e w6 ⟨rfl, h6⟩
  obtain ⟨v6, h6⟩ := H5.out.step h6
  clear H5 c8
  go_wp2
  go_end0
  exact ⟨rfl, OutTo.behind HB'.out h6.to⟩

theorem doneP_Q (x : ByteArray × Bool) : doneP x = .tuple #[.string (doneQ x).1, .int .i64 (doneQ x).2] := by
  unfold doneP doneQ
  obtain ⟨S, b⟩ := x
  cases b <;> rfl

theorem outTo_below {w w' : World} {g : Nat} {v : Value} {o : ByteArray × Bool} (h : OutTo w g v o w') (B : Nat) (hB : B ≤ w.heap.size) (hg : B ≤ g) (hv : ∀ k, v.ownBlock = some k → B ≤ k) : Below B w w' := by
  obtain ⟨_, _, k, _⟩ := h
  exact k.below B hB hg hv

set_option maxHeartbeats 2000000 in
set_option maxRecDepth 100000 in
theorem putOp_any (M : OpT → Bool) (hM : ∀ o, M o = true ↔ MayO o) (o : OpT) (w : World) (hG : Glob8 w) (h7 : o.2.2.2.2.1.size ≤ 1048576) (h8 : o.2.2.2.2.2.size ≤ 9223372036854775807) :
    Calls Tryd.prog 25 #[.agg (opA o)] w fun e w' => e = .returned (.tuple #[.string (putOpP M o).1, .int .i64 (putOpP M o).2]) ∧ Below w.heap.size w w' := by
  have CC' : ∀ W, Below w.heap.size w W → _ := fun W hW => check_any M hM o W (hG.below hW) h7 h8
  have CW' : ∀ W g v, OutAt W g v (⟨#[]⟩, false) → _ := fun W g v hO => writeOp_any g v (⟨#[]⟩, false) o W hO
  obtain ⟨p, hp⟩ : ∃ p, putOpP M o = p := ⟨_, rfl⟩
  have HP : Hid (putOpP M o = p) := hp
  rw [hp]
  clear hp
  obtain ⟨k0, ⟨k1, k2⟩, ⟨k3, k4⟩, ⟨k5, k6⟩, s7, s8⟩ := o
  simp only [opA] at CC' CW' ⊢
  obtain ⟨X, hX⟩ : ∃ X : Bool, M (k0, (k1, k2), (k3, k4), (k5, k6), s7, s8) = X := ⟨_, rfl⟩
  simp only [hX] at CC'
  obtain ⟨st, hst⟩ : ∃ st, writeA (⟨#[]⟩, false) (opPs (k0, (k1, k2), (k3, k4), (k5, k6), s7, s8)) = st := ⟨_, rfl⟩
  simp only [hst] at CW'
  have HP2 : Hid ((if X = true then doneQ st else (⟨#[]⟩, 1)) = p) := by
    show _ = p
    rw [← HP.out]
    unfold putOpP
    rw [hX, hst]
  have CC : Hid (∀ W, Below w.heap.size w W → _) := CC'
  have CW : Hid (∀ W g v, OutAt W g v (⟨#[]⟩, false) → _) := CW'
  clear CC' CW' HP hX hst hG h7 h8
  have HB0 : Hid (Below w.heap.size w (w.alloc (.cells #[.int .i64 k0, .int .i64 k1, .int .i64 k2, .int .i64 k3, .int .i64 k4, .int .i64 k5, .int .i64 k6, .string s7, .string s8] 25))) := below_new _ _
  have HK0 : Hid (Blk (w.alloc (.cells #[.int .i64 k0, .int .i64 k1, .int .i64 k2, .int .i64 k3, .int .i64 k4, .int .i64 k5, .int .i64 k6, .string s7, .string s8] 25)) 25 w.heap.size #[.int .i64 k0, .int .i64 k1, .int .i64 k2, .int .i64 k3, .int .i64 k4, .int .i64 k5, .int .i64 k6, .string s7, .string s8]) := Blk.new _ _ _
  go_enter Tryd.func25, Tryd.ntmps25
  go_wp2_with fail
  obtain ⟨w0, hw0⟩ : ∃ w0, w.alloc (.cells #[.int .i64 k0, .int .i64 k1, .int .i64 k2, .int .i64 k3, .int .i64 k4, .int .i64 k5, .int .i64 k6, .string s7, .string s8] 25) = w0 := ⟨_, rfl⟩
  rw [hw0] at HB0 HK0
  try rw [hw0]
  clear hw0
  refine (CC.out w0 HB0.out).mono ?_
  rintro e w1 ⟨rfl, hb1⟩
  have HB1 : Hid (Below w.heap.size w w1) := below_step HB0.out (Nat.le_refl _) hb1
  have HK1 : Hid (Blk w1 25 w.heap.size #[.int .i64 k0, .int .i64 k1, .int .i64 k2, .int .i64 k3, .int .i64 k4, .int .i64 k5, .int .i64 k6, .string s7, .string s8]) := HK0.out.on hb1
  clear hb1 HB0 HK0 CC
  cases X with
  | false =>
    obtain rfl : (⟨#[]⟩, 1) = p := HP2.out
    simp only [Bool.false_eq_true, if_false]
    go_wp2
    go_ret2
    exact ⟨rfl, HB1.out⟩
  | true =>
    have hp : doneQ st = p := by have h := HP2.out; rwa [if_pos rfl] at h
    simp only [if_true]
    go_wp2_with fail
    refine (newOut_any w1).mono ?_
    rintro e w2 ⟨rfl, hO, hb2⟩
    have HO : Hid (OutAt w2 w1.heap.size (.slice none 0 0) (⟨#[]⟩, false)) := OutAt.ok.2 hO
    have hK2 := HK1.out.on hb2
    have d0 : w2.cell? ⟨w.heap.size, 0, none⟩ = some (.int .i64 k0) := hK2.cell 0
    have d1 : w2.cell? ⟨w.heap.size, 1, none⟩ = some (.int .i64 k1) := hK2.cell 1
    have d2 : w2.cell? ⟨w.heap.size, 2, none⟩ = some (.int .i64 k2) := hK2.cell 2
    have d3 : w2.cell? ⟨w.heap.size, 3, none⟩ = some (.int .i64 k3) := hK2.cell 3
    have d4 : w2.cell? ⟨w.heap.size, 4, none⟩ = some (.int .i64 k4) := hK2.cell 4
    have d5 : w2.cell? ⟨w.heap.size, 5, none⟩ = some (.int .i64 k5) := hK2.cell 5
    have d6 : w2.cell? ⟨w.heap.size, 6, none⟩ = some (.int .i64 k6) := hK2.cell 6
    have d7 : w2.cell? ⟨w.heap.size, 7, none⟩ = some (.string s7) := hK2.cell 7
    have d8 : w2.cell? ⟨w.heap.size, 8, none⟩ = some (.string s8) := hK2.cell 8
    have HB2 : Hid (Below w.heap.size w w2) := below_step HB1.out (Nat.le_refl _) hb2
    have HL : Hid (w.heap.size ≤ w1.heap.size ∧ w.heap.size ≤ w2.heap.size) := ⟨HB1.out.size, HB2.out.size⟩
    clear hO hb2 hK2 HB1 HK1
    go_wp2_with fail
    refine (CW.out w2 _ _ HO.out).mono ?_
    rintro e w3 ⟨rfl, h3⟩
    have hb3 : Below w.heap.size w w3 := HB2.out.trans (outTo_below h3 _ HL.out.2 HL.out.1 (fun k hk => by cases hk))
    obtain ⟨v3, hO3, _, _⟩ := h3
    have HO3 : Hid (OutAt w3 w1.heap.size v3 st) := hO3
    have HB3 : Hid (Below w.heap.size w w3) := hb3
    clear hO3 hb3 CW HO HB2
    go_wp2_with fail
    refine (odone_any _ v3 st w3 HO3.out).mono ?_
    rintro e w4 ⟨rfl, rfl⟩
    rw [doneP_Q, hp]
    go_wp2
    go_ret2
    exact ⟨rfl, HB3.out⟩
end Go.Proofs.YtmjjpfinkpfifaaDoor

/- The code's readOp, asPut of operations, TakeOp (layer 13). -/
namespace Go.Proofs.YtmjjpfinkpfifaaDoor
open Go.RowKit
set_option maxRecDepth 100000
set_option linter.unusedSimpArgs false

/-- What was read so far, the new operation's block beside it. -/
structure RdS (w0 : World) (g : Nat) (gb ga : Nat) (cs ca : Array Value) (i : ByteArray × Int) (W : World) : Prop where
  inn : InAt W g i
  kept : Kept2 g none w0 W
  b : Blk W 25 gb cs
  a : Blk W 25 ga ca
  low : w0.heap.size ≤ ga
  up : ga < gb
  ne : g < ga

theorem RdS.step {w0 : World} {g gb ga : Nat} {cs ca : Array Value} {i i' : ByteArray × Int} {W W' : World} (h : RdS w0 g gb ga cs ca i W) (h2 : InTo W g i' W') : RdS w0 g gb ga cs ca i' W' :=
  ⟨h2.1, h.kept.trans h2.2 (Nx.refl _ _), h.b.kept h2.2 (by have := h.ne; have := h.up; omega) (by simp), h.a.kept h2.2 (by have := h.ne; omega) (by simp), h.low, h.up, h.ne⟩

theorem RdS.set {w0 : World} {g gb ga : Nat} {cs ca : Array Value} {i : ByteArray × Int} {W : World} (h : RdS w0 g gb ga cs ca i W) (j : Nat) (u : Value) : RdS w0 g gb ga (cs.setIfInBounds j u) ca i (W.setCell ⟨gb, j, none⟩ u) := by
  have h1 := h.ne
  have h2 := h.up
  have h3 := h.low
  exact ⟨⟨h.inn.1.grown (grown_set W gb j u) (fun e => by cases e; omega), h.inn.2⟩, h.kept.setNew ⟨gb, j, none⟩ (by show _ ≤ gb; omega) u, h.b.setAt j u, h.a.grown (grown_set W gb j u) (fun e => by cases e; omega), h.low, h.up, h.ne⟩

set_option maxHeartbeats 4000000 in
set_option maxRecDepth 100000 in
theorem readOp_any (g : Nat) (i : ByteArray × Int) (w : World) (h : InAt w g i) :
    Calls Tryd.prog 79 #[.pointer (some ⟨g, 0, none⟩)] w fun e w' => e = .returned (.agg (opA (readOpC i).2)) ∧ InTo w g (readOpC i).1 w' := by
  obtain ⟨i0, hi0⟩ : ∃ i0, i = i0 := ⟨_, rfl⟩
  obtain ⟨⟨i1, X0⟩, e0⟩ : ∃ p, numberP i0 1 = p := ⟨_, rfl⟩
  obtain ⟨x0, hx0⟩ : ∃ x0 : Int, (X0 : Int) = x0 := ⟨_, rfl⟩
  obtain ⟨⟨i2, x1, x2⟩, e1⟩ : ∃ p, inStampC i1 = p := ⟨_, rfl⟩
  obtain ⟨⟨i3, x3, x4⟩, e2⟩ : ∃ p, inStampC i2 = p := ⟨_, rfl⟩
  obtain ⟨⟨i4, x5, x6⟩, e3⟩ : ∃ p, inStampC i3 = p := ⟨_, rfl⟩
  obtain ⟨⟨i5, x7⟩, e4⟩ : ∃ p, inTextC i4 65536 = p := ⟨_, rfl⟩
  obtain ⟨⟨i6, x8⟩, e5⟩ : ∃ p, inTextC i5 65536 = p := ⟨_, rfl⟩
  have hr : readOpC i = (i6, (x0, (x1, x2), (x3, x4), (x5, x6), x7, x8)) := by
    unfold readOpC
    simp only [hi0, e0, e1, e2, e3, e4, e5, hx0]
  rw [hr]
  simp only [opA]
  rw [hi0] at h
  have C0' : ∀ W, InAt W g i0 → _ := fun W hW => ibyte_any g i0 W hW
  rw [e0] at C0'
  simp only [hx0] at C0'
  have C0 : Hid (∀ W, InAt W g i0 → _) := C0'
  have C1' : ∀ W, InAt W g i1 → _ := fun W hW => istamp_any g i1 W hW
  rw [e1] at C1'
  have C1 : Hid (∀ W, InAt W g i1 → _) := C1'
  have C2' : ∀ W, InAt W g i2 → _ := fun W hW => istamp_any g i2 W hW
  rw [e2] at C2'
  have C2 : Hid (∀ W, InAt W g i2 → _) := C2'
  have C3' : ∀ W, InAt W g i3 → _ := fun W hW => istamp_any g i3 W hW
  rw [e3] at C3'
  have C3 : Hid (∀ W, InAt W g i3 → _) := C3'
  have C4' : ∀ W, InAt W g i4 → _ := fun W hW => itext_any g i4 65536 W hW
  rw [e4] at C4'
  have C4 : Hid (∀ W, InAt W g i4 → _) := C4'
  have C5' : ∀ W, InAt W g i5 → _ := fun W hW => itext_any g i5 65536 W hW
  rw [e5] at C5'
  have C5 : Hid (∀ W, InAt W g i5 → _) := C5'
  have HL : Hid (g < w.heap.size) := h.1.lt
  have HI : Hid (InAt w g i0) := h
  clear h hr hi0 hx0 e0 e1 e2 e3 e4 e5 C0' C1' C2' C3' C4' C5'
  go_enter Tryd.func79, Tryd.ntmps79
  go_wp2_with fail
  obtain ⟨ga, hga⟩ : ∃ ga, w.heap.size = ga := ⟨_, rfl⟩
  obtain ⟨gb, hgb⟩ : ∃ gb, w.heap.size + 1 = gb := ⟨_, rfl⟩
  obtain ⟨W0, hW0⟩ : ∃ W0, (w.alloc (.cells #[.int .i64 0, .int .i64 0, .int .i64 0, .int .i64 0, .int .i64 0, .int .i64 0, .int .i64 0, .string ⟨#[]⟩, .string ⟨#[]⟩] 25)).alloc (.cells #[.int .i64 0, .int .i64 0, .int .i64 0, .int .i64 0, .int .i64 0, .int .i64 0, .int .i64 0, .string ⟨#[]⟩, .string ⟨#[]⟩] 25) = W0 := ⟨_, rfl⟩
  have HS : Hid (RdS w g gb ga #[.int .i64 0, .int .i64 0, .int .i64 0, .int .i64 0, .int .i64 0, .int .i64 0, .int .i64 0, .string ⟨#[]⟩, .string ⟨#[]⟩] #[.int .i64 0, .int .i64 0, .int .i64 0, .int .i64 0, .int .i64 0, .int .i64 0, .int .i64 0, .string ⟨#[]⟩, .string ⟨#[]⟩] i0 W0) := by
    show RdS _ _ _ _ _ _ _ _
    have hz := World.size_alloc w (.cells #[.int .i64 0, .int .i64 0, .int .i64 0, .int .i64 0, .int .i64 0, .int .i64 0, .int .i64 0, .string ⟨#[]⟩, .string ⟨#[]⟩] 25)
    have hl := HL.out
    rw [← hW0]
    refine ⟨(HI.out.on (below_new _ _)).on (below_new _ _), Kept2.ofBelow _ _ ((below_new w _).alloc (by rw [World.size_alloc]; omega) _), Blk.new' _ _ _ _ (by rw [World.size_alloc]; exact hgb), (Blk.new' _ _ _ _ hga).on (below_new _ _), by omega, by omega, by omega⟩
  try rw [hW0]
  try rw [hgb]
  try rw [hga]
  clear hW0 hgb hga HI HL
  refine (C0.out W0 HS.out.inn).mono ?_
  rintro e U0 ⟨rfl, hI⟩
  have HU : Hid (RdS w g gb ga #[.int .i64 0, .int .i64 0, .int .i64 0, .int .i64 0, .int .i64 0, .int .i64 0, .int .i64 0, .string ⟨#[]⟩, .string ⟨#[]⟩] #[.int .i64 0, .int .i64 0, .int .i64 0, .int .i64 0, .int .i64 0, .int .i64 0, .int .i64 0, .string ⟨#[]⟩, .string ⟨#[]⟩] i1 U0) := HS.out.step hI
  clear hI HS C0
  have y0 : U0.cell? ⟨gb, 0, none⟩ = some _ := (HU.out).b.cell 0
  have z0 : U0.frozen? ⟨gb, 0, none⟩ = false := (HU.out).b.free 0
  have HS : Hid (RdS w g gb ga #[.int .i64 x0, .int .i64 0, .int .i64 0, .int .i64 0, .int .i64 0, .int .i64 0, .int .i64 0, .string ⟨#[]⟩, .string ⟨#[]⟩] #[.int .i64 0, .int .i64 0, .int .i64 0, .int .i64 0, .int .i64 0, .int .i64 0, .int .i64 0, .string ⟨#[]⟩, .string ⟨#[]⟩] i1 (U0.setCell ⟨gb, 0, none⟩ (.int .i64 x0))) := (HU.out).set 0 (.int .i64 x0)
  obtain ⟨W1, hW1⟩ : ∃ W, (U0.setCell ⟨gb, 0, none⟩ (.int .i64 x0)) = W := ⟨_, rfl⟩
  rw [hW1] at HS
  go_wp2_with fail
  try rw [hW1]
  clear hW1 HU y0 z0
  refine (C1.out W1 HS.out.inn).mono ?_
  rintro e U1 ⟨rfl, hI⟩
  have HU : Hid (RdS w g gb ga #[.int .i64 x0, .int .i64 0, .int .i64 0, .int .i64 0, .int .i64 0, .int .i64 0, .int .i64 0, .string ⟨#[]⟩, .string ⟨#[]⟩] #[.int .i64 0, .int .i64 0, .int .i64 0, .int .i64 0, .int .i64 0, .int .i64 0, .int .i64 0, .string ⟨#[]⟩, .string ⟨#[]⟩] i2 U1) := HS.out.step hI
  clear hI HS C1
  have y1 : U1.cell? ⟨gb, 1, none⟩ = some _ := (HU.out).b.cell 1
  have z1 : U1.frozen? ⟨gb, 1, none⟩ = false := (HU.out).b.free 1
  have y2 : (U1.setCell ⟨gb, 1, none⟩ (.int .i64 x1)).cell? ⟨gb, 2, none⟩ = some _ := ((HU.out).set 1 (.int .i64 x1)).b.cell 2
  have z2 : (U1.setCell ⟨gb, 1, none⟩ (.int .i64 x1)).frozen? ⟨gb, 2, none⟩ = false := ((HU.out).set 1 (.int .i64 x1)).b.free 2
  have HS : Hid (RdS w g gb ga #[.int .i64 x0, .int .i64 x1, .int .i64 x2, .int .i64 0, .int .i64 0, .int .i64 0, .int .i64 0, .string ⟨#[]⟩, .string ⟨#[]⟩] #[.int .i64 0, .int .i64 0, .int .i64 0, .int .i64 0, .int .i64 0, .int .i64 0, .int .i64 0, .string ⟨#[]⟩, .string ⟨#[]⟩] i2 ((U1.setCell ⟨gb, 1, none⟩ (.int .i64 x1)).setCell ⟨gb, 2, none⟩ (.int .i64 x2))) := ((HU.out).set 1 (.int .i64 x1)).set 2 (.int .i64 x2)
  obtain ⟨W2, hW2⟩ : ∃ W, ((U1.setCell ⟨gb, 1, none⟩ (.int .i64 x1)).setCell ⟨gb, 2, none⟩ (.int .i64 x2)) = W := ⟨_, rfl⟩
  rw [hW2] at HS
  go_wp2_with fail
  try rw [hW2]
  clear hW2 HU y1 z1 y2 z2
  refine (C2.out W2 HS.out.inn).mono ?_
  rintro e U2 ⟨rfl, hI⟩
  have HU : Hid (RdS w g gb ga #[.int .i64 x0, .int .i64 x1, .int .i64 x2, .int .i64 0, .int .i64 0, .int .i64 0, .int .i64 0, .string ⟨#[]⟩, .string ⟨#[]⟩] #[.int .i64 0, .int .i64 0, .int .i64 0, .int .i64 0, .int .i64 0, .int .i64 0, .int .i64 0, .string ⟨#[]⟩, .string ⟨#[]⟩] i3 U2) := HS.out.step hI
  clear hI HS C2
  have y3 : U2.cell? ⟨gb, 3, none⟩ = some _ := (HU.out).b.cell 3
  have z3 : U2.frozen? ⟨gb, 3, none⟩ = false := (HU.out).b.free 3
  have y4 : (U2.setCell ⟨gb, 3, none⟩ (.int .i64 x3)).cell? ⟨gb, 4, none⟩ = some _ := ((HU.out).set 3 (.int .i64 x3)).b.cell 4
  have z4 : (U2.setCell ⟨gb, 3, none⟩ (.int .i64 x3)).frozen? ⟨gb, 4, none⟩ = false := ((HU.out).set 3 (.int .i64 x3)).b.free 4
  have HS : Hid (RdS w g gb ga #[.int .i64 x0, .int .i64 x1, .int .i64 x2, .int .i64 x3, .int .i64 x4, .int .i64 0, .int .i64 0, .string ⟨#[]⟩, .string ⟨#[]⟩] #[.int .i64 0, .int .i64 0, .int .i64 0, .int .i64 0, .int .i64 0, .int .i64 0, .int .i64 0, .string ⟨#[]⟩, .string ⟨#[]⟩] i3 ((U2.setCell ⟨gb, 3, none⟩ (.int .i64 x3)).setCell ⟨gb, 4, none⟩ (.int .i64 x4))) := ((HU.out).set 3 (.int .i64 x3)).set 4 (.int .i64 x4)
  obtain ⟨W3, hW3⟩ : ∃ W, ((U2.setCell ⟨gb, 3, none⟩ (.int .i64 x3)).setCell ⟨gb, 4, none⟩ (.int .i64 x4)) = W := ⟨_, rfl⟩
  rw [hW3] at HS
  go_wp2_with fail
  try rw [hW3]
  clear hW3 HU y3 z3 y4 z4
  refine (C3.out W3 HS.out.inn).mono ?_
  rintro e U3 ⟨rfl, hI⟩
  have HU : Hid (RdS w g gb ga #[.int .i64 x0, .int .i64 x1, .int .i64 x2, .int .i64 x3, .int .i64 x4, .int .i64 0, .int .i64 0, .string ⟨#[]⟩, .string ⟨#[]⟩] #[.int .i64 0, .int .i64 0, .int .i64 0, .int .i64 0, .int .i64 0, .int .i64 0, .int .i64 0, .string ⟨#[]⟩, .string ⟨#[]⟩] i4 U3) := HS.out.step hI
  clear hI HS C3
  have y5 : U3.cell? ⟨gb, 5, none⟩ = some _ := (HU.out).b.cell 5
  have z5 : U3.frozen? ⟨gb, 5, none⟩ = false := (HU.out).b.free 5
  have y6 : (U3.setCell ⟨gb, 5, none⟩ (.int .i64 x5)).cell? ⟨gb, 6, none⟩ = some _ := ((HU.out).set 5 (.int .i64 x5)).b.cell 6
  have z6 : (U3.setCell ⟨gb, 5, none⟩ (.int .i64 x5)).frozen? ⟨gb, 6, none⟩ = false := ((HU.out).set 5 (.int .i64 x5)).b.free 6
  have HS : Hid (RdS w g gb ga #[.int .i64 x0, .int .i64 x1, .int .i64 x2, .int .i64 x3, .int .i64 x4, .int .i64 x5, .int .i64 x6, .string ⟨#[]⟩, .string ⟨#[]⟩] #[.int .i64 0, .int .i64 0, .int .i64 0, .int .i64 0, .int .i64 0, .int .i64 0, .int .i64 0, .string ⟨#[]⟩, .string ⟨#[]⟩] i4 ((U3.setCell ⟨gb, 5, none⟩ (.int .i64 x5)).setCell ⟨gb, 6, none⟩ (.int .i64 x6))) := ((HU.out).set 5 (.int .i64 x5)).set 6 (.int .i64 x6)
  obtain ⟨W4, hW4⟩ : ∃ W, ((U3.setCell ⟨gb, 5, none⟩ (.int .i64 x5)).setCell ⟨gb, 6, none⟩ (.int .i64 x6)) = W := ⟨_, rfl⟩
  rw [hW4] at HS
  go_wp2_with fail
  try rw [hW4]
  clear hW4 HU y5 z5 y6 z6
  refine (C4.out W4 HS.out.inn).mono ?_
  rintro e U4 ⟨rfl, hI⟩
  have HU : Hid (RdS w g gb ga #[.int .i64 x0, .int .i64 x1, .int .i64 x2, .int .i64 x3, .int .i64 x4, .int .i64 x5, .int .i64 x6, .string ⟨#[]⟩, .string ⟨#[]⟩] #[.int .i64 0, .int .i64 0, .int .i64 0, .int .i64 0, .int .i64 0, .int .i64 0, .int .i64 0, .string ⟨#[]⟩, .string ⟨#[]⟩] i5 U4) := HS.out.step hI
  clear hI HS C4
  have y7 : U4.cell? ⟨gb, 7, none⟩ = some _ := (HU.out).b.cell 7
  have z7 : U4.frozen? ⟨gb, 7, none⟩ = false := (HU.out).b.free 7
  have HS : Hid (RdS w g gb ga #[.int .i64 x0, .int .i64 x1, .int .i64 x2, .int .i64 x3, .int .i64 x4, .int .i64 x5, .int .i64 x6, .string x7, .string ⟨#[]⟩] #[.int .i64 0, .int .i64 0, .int .i64 0, .int .i64 0, .int .i64 0, .int .i64 0, .int .i64 0, .string ⟨#[]⟩, .string ⟨#[]⟩] i5 (U4.setCell ⟨gb, 7, none⟩ (.string x7))) := (HU.out).set 7 (.string x7)
  obtain ⟨W5, hW5⟩ : ∃ W, (U4.setCell ⟨gb, 7, none⟩ (.string x7)) = W := ⟨_, rfl⟩
  rw [hW5] at HS
  go_wp2_with fail
  try rw [hW5]
  clear hW5 HU y7 z7
  refine (C5.out W5 HS.out.inn).mono ?_
  rintro e U5 ⟨rfl, hI⟩
  have HU : Hid (RdS w g gb ga #[.int .i64 x0, .int .i64 x1, .int .i64 x2, .int .i64 x3, .int .i64 x4, .int .i64 x5, .int .i64 x6, .string x7, .string ⟨#[]⟩] #[.int .i64 0, .int .i64 0, .int .i64 0, .int .i64 0, .int .i64 0, .int .i64 0, .int .i64 0, .string ⟨#[]⟩, .string ⟨#[]⟩] i6 U5) := HS.out.step hI
  clear hI HS C5
  have y8 : U5.cell? ⟨gb, 8, none⟩ = some _ := (HU.out).b.cell 8
  have z8 : U5.frozen? ⟨gb, 8, none⟩ = false := (HU.out).b.free 8
  have HS : Hid (RdS w g gb ga #[.int .i64 x0, .int .i64 x1, .int .i64 x2, .int .i64 x3, .int .i64 x4, .int .i64 x5, .int .i64 x6, .string x7, .string x8] #[.int .i64 0, .int .i64 0, .int .i64 0, .int .i64 0, .int .i64 0, .int .i64 0, .int .i64 0, .string ⟨#[]⟩, .string ⟨#[]⟩] i6 (U5.setCell ⟨gb, 8, none⟩ (.string x8))) := (HU.out).set 8 (.string x8)
  obtain ⟨W6, hW6⟩ : ∃ W, (U5.setCell ⟨gb, 8, none⟩ (.string x8)) = W := ⟨_, rfl⟩
  rw [hW6] at HS
  have q0 : W6.cell? ⟨gb, 0, none⟩ = some (.int .i64 x0) := HS.out.b.cell 0
  have q1 : W6.cell? ⟨gb, 1, none⟩ = some (.int .i64 x1) := HS.out.b.cell 1
  have q2 : W6.cell? ⟨gb, 2, none⟩ = some (.int .i64 x2) := HS.out.b.cell 2
  have q3 : W6.cell? ⟨gb, 3, none⟩ = some (.int .i64 x3) := HS.out.b.cell 3
  have q4 : W6.cell? ⟨gb, 4, none⟩ = some (.int .i64 x4) := HS.out.b.cell 4
  have q5 : W6.cell? ⟨gb, 5, none⟩ = some (.int .i64 x5) := HS.out.b.cell 5
  have q6 : W6.cell? ⟨gb, 6, none⟩ = some (.int .i64 x6) := HS.out.b.cell 6
  have q7 : W6.cell? ⟨gb, 7, none⟩ = some (.string x7) := HS.out.b.cell 7
  have q8 : W6.cell? ⟨gb, 8, none⟩ = some (.string x8) := HS.out.b.cell 8
  have HQ : Hid (Blk W6 25 ga #[.int .i64 0, .int .i64 0, .int .i64 0, .int .i64 0, .int .i64 0, .int .i64 0, .int .i64 0, .string ⟨#[]⟩, .string ⟨#[]⟩]) := HS.out.a
  go_wp2_with (with_reducible refine wpList_storeBlk rfl 25 _ _ rfl ga #[.int .i64 0, .int .i64 0, .int .i64 0, .int .i64 0, .int .i64 0, .int .i64 0, .int .i64 0, .string ⟨#[]⟩, .string ⟨#[]⟩] #[.int .i64 x0, .int .i64 x1, .int .i64 x2, .int .i64 x3, .int .i64 x4, .int .i64 x5, .int .i64 x6, .string x7, .string x8] ?hx ?hy HQ.out rfl ?hi ?h1 ?_)
  try (case hx => rfl)
  try (case hy => rfl)
  try (case hi => kernel_rfl)
  try (case h1 => simp [Value.oneCell'])
  try rw [hW6]
  have hk := HS.out.kept
  have hne := HS.out.ne
  have hup := HS.out.up
  have hlo := HS.out.low
  exact bodyPost_row rfl ga #[.int .i64 x0, .int .i64 x1, .int .i64 x2, .int .i64 x3, .int .i64 x4, .int .i64 x5, .int .i64 x6, .string x7, .string x8] rfl rfl (HS.out.a.setRow _) _ Tryd.underlying25 rfl (by kernel_rfl) ⟨rfl, ⟨HS.out.inn.1.setRowOther _ (by omega) _, HS.out.inn.2⟩, ⟨hk.os, hk.tape, hk.output, by have := hk.size; simpa [World.setRow] using this, fun k a b c => by rw [setRow_other _ _ _ _ (by omega)]; exact hk.block k a b c⟩⟩
end Go.Proofs.YtmjjpfinkpfifaaDoor

/- The code's asPut of operations, TakeOp (layer 13). -/
namespace Go.Proofs.YtmjjpfinkpfifaaDoor
open Go.RowKit
set_option maxRecDepth 100000
set_option linter.unusedSimpArgs false

/-- What was read, if it is put as just those bytes. -/
def asP (M : OpT → Bool) (x : OpT) (s : ByteArray) : OpT × Int := if (putOpP M x).2 ≠ 0 ∨ (putOpP M x).1 ≠ s then (op0, 91) else (x, 0)

theorem inTextC_size (i : ByteArray × Int) (most : Int) : (inTextC i most).2.size ≤ 1048576 := by
  unfold inTextC
  split
  · exact Nat.zero_le _
  · exact Nat.le_trans (takeS_size _ _) (by have := number2_lt i; omega)

theorem readOpC_sizes (i : ByteArray × Int) : (readOpC i).2.2.2.2.2.1.size ≤ 1048576 ∧ (readOpC i).2.2.2.2.2.2.size ≤ 9223372036854775807 := by
  unfold readOpC
  simp only
  exact ⟨inTextC_size _ _, Nat.le_trans (inTextC_size _ _) (by decide)⟩

theorem text_ne {a b : ByteArray} (h : ¬ a = b) : (a.toList == b.toList) = false := by
  cases e : (a.toList == b.toList) with
  | false => rfl
  | true =>
    refine absurd ?_ h
    have := eq_of_beq e
    rw [toList_data, toList_data] at this
    exact ByteArray.ext (Array.toList_inj.1 this)



set_option maxHeartbeats 4000000 in
set_option maxRecDepth 100000 in
theorem asPutOp_any (M : OpT → Bool) (hM : ∀ o, M o = true ↔ MayO o) (x : OpT) (s : ByteArray) (w : World) (hG : Glob8 w) (h7 : x.2.2.2.2.1.size ≤ 1048576) (h8 : x.2.2.2.2.2.size ≤ 9223372036854775807) :
    Calls Tryd.prog 78 #[.func (.func 25) #[] #[], .agg (opA x), .string s] w fun e w' => e = .returned (.tuple #[.agg (opA (asP M x s).1), .int .i64 (asP M x s).2]) ∧ Below w.heap.size w w' := by
  have CP' : ∀ W, Below w.heap.size w W → _ := fun W hW => putOp_any M hM x W (hG.below hW) h7 h8
  obtain ⟨⟨B, E⟩, hp⟩ : ∃ p, putOpP M x = p := ⟨_, rfl⟩
  unfold asP
  rw [hp] at CP' ⊢
  obtain ⟨k0, ⟨k1, k2⟩, ⟨k3, k4⟩, ⟨k5, k6⟩, s7, s8⟩ := x
  simp only [opA] at CP' ⊢
  have CP : Hid (∀ W, Below w.heap.size w W → _) := CP'
  clear CP' hp hG h7 h8
  by_cases hE : E = 0
  · subst hE
    by_cases hB : B = s
    · subst hB
      rw [if_neg (by simp)]
      simp only [opA]
      go_enter Tryd.func78, Tryd.ntmps78
      go_wp2_with fail
      obtain ⟨h0, hh0⟩ : ∃ h0, w.heap.size = h0 := ⟨_, rfl⟩
      obtain ⟨w0, hw0⟩ : ∃ w0, (w.alloc (.cells #[.int .i64 k0, .int .i64 k1, .int .i64 k2, .int .i64 k3, .int .i64 k4, .int .i64 k5, .int .i64 k6, .string s7, .string s8] 25)).alloc (.cells #[.int .i64 0, .int .i64 0, .int .i64 0, .int .i64 0, .int .i64 0, .int .i64 0, .int .i64 0, .string ⟨#[]⟩, .string ⟨#[]⟩] 25) = w0 := ⟨_, rfl⟩
      have HB0 : Hid (Below w.heap.size w w0) := by show Below _ _ _; rw [← hw0]; exact (below_new _ _).alloc (by rw [World.size_alloc]; omega) _
      have HX0 : Hid (Blk w0 25 h0 #[.int .i64 k0, .int .i64 k1, .int .i64 k2, .int .i64 k3, .int .i64 k4, .int .i64 k5, .int .i64 k6, .string s7, .string s8]) := by show Blk _ _ _ _; rw [← hw0]; exact (Blk.new' _ _ _ _ hh0).on (below_new _ _)
      have HZ0 : Hid (Blk w0 25 (h0 + 1) #[.int .i64 0, .int .i64 0, .int .i64 0, .int .i64 0, .int .i64 0, .int .i64 0, .int .i64 0, .string ⟨#[]⟩, .string ⟨#[]⟩]) := by show Blk _ _ _ _; rw [← hw0]; exact Blk.new' _ _ _ _ (by rw [World.size_alloc]; omega)
      have HL : Hid (w.heap.size ≤ h0) := by show _ ≤ _; omega
      try rw [hw0]
      try rw [hh0]
      clear hw0 hh0
      refine (CP.out w0 HB0.out).mono ?_
      rintro e w1 ⟨rfl, hb1⟩
      have HB1 : Hid (Below w.heap.size w w1) := below_step HB0.out (Nat.le_refl _) hb1
      have HX1 : Hid (Blk w1 25 h0 #[.int .i64 k0, .int .i64 k1, .int .i64 k2, .int .i64 k3, .int .i64 k4, .int .i64 k5, .int .i64 k6, .string s7, .string s8]) := HX0.out.on hb1
      have HZ1 : Hid (Blk w1 25 (h0 + 1) #[.int .i64 0, .int .i64 0, .int .i64 0, .int .i64 0, .int .i64 0, .int .i64 0, .int .i64 0, .string ⟨#[]⟩, .string ⟨#[]⟩]) := HZ0.out.on hb1
      clear hb1 HB0 HX0 HZ0 CP
      have q0 : w1.cell? ⟨h0, 0, none⟩ = some (.int .i64 k0) := HX1.out.cell 0
      have q1 : w1.cell? ⟨h0, 1, none⟩ = some (.int .i64 k1) := HX1.out.cell 1
      have q2 : w1.cell? ⟨h0, 2, none⟩ = some (.int .i64 k2) := HX1.out.cell 2
      have q3 : w1.cell? ⟨h0, 3, none⟩ = some (.int .i64 k3) := HX1.out.cell 3
      have q4 : w1.cell? ⟨h0, 4, none⟩ = some (.int .i64 k4) := HX1.out.cell 4
      have q5 : w1.cell? ⟨h0, 5, none⟩ = some (.int .i64 k5) := HX1.out.cell 5
      have q6 : w1.cell? ⟨h0, 6, none⟩ = some (.int .i64 k6) := HX1.out.cell 6
      have q7 : w1.cell? ⟨h0, 7, none⟩ = some (.string s7) := HX1.out.cell 7
      have q8 : w1.cell? ⟨h0, 8, none⟩ = some (.string s8) := HX1.out.cell 8
      go_wp2_with (with_reducible refine wpList_storeBlk rfl 25 _ _ rfl (h0 + 1) #[.int .i64 0, .int .i64 0, .int .i64 0, .int .i64 0, .int .i64 0, .int .i64 0, .int .i64 0, .string ⟨#[]⟩, .string ⟨#[]⟩] #[.int .i64 k0, .int .i64 k1, .int .i64 k2, .int .i64 k3, .int .i64 k4, .int .i64 k5, .int .i64 k6, .string s7, .string s8] ?hx ?hy HZ1.out rfl ?hi ?h1 ?_)
      try (case hx => rfl)
      try (case hy => rfl)
      try (case hi => kernel_rfl)
      try (case h1 => simp [Value.oneCell'])
      exact bodyPost_rowTmp rfl (h0 + 1) _ _ rfl rfl rfl (HZ1.out.setRow _) _ Tryd.underlying25 rfl (by kernel_rfl) ⟨rfl, below_setRow HB1.out (by have := HL.out; omega) _⟩
    · rw [if_pos (.inr hB)]
      simp only [op0, opA]
      have hB' := text_ne hB
      go_enter Tryd.func78, Tryd.ntmps78
      go_wp2_with fail
      obtain ⟨h0, hh0⟩ : ∃ h0, w.heap.size = h0 := ⟨_, rfl⟩
      obtain ⟨w0, hw0⟩ : ∃ w0, (w.alloc (.cells #[.int .i64 k0, .int .i64 k1, .int .i64 k2, .int .i64 k3, .int .i64 k4, .int .i64 k5, .int .i64 k6, .string s7, .string s8] 25)).alloc (.cells #[.int .i64 0, .int .i64 0, .int .i64 0, .int .i64 0, .int .i64 0, .int .i64 0, .int .i64 0, .string ⟨#[]⟩, .string ⟨#[]⟩] 25) = w0 := ⟨_, rfl⟩
      have HB0 : Hid (Below w.heap.size w w0) := by show Below _ _ _; rw [← hw0]; exact (below_new _ _).alloc (by rw [World.size_alloc]; omega) _
      have HX0 : Hid (Blk w0 25 h0 #[.int .i64 k0, .int .i64 k1, .int .i64 k2, .int .i64 k3, .int .i64 k4, .int .i64 k5, .int .i64 k6, .string s7, .string s8]) := by show Blk _ _ _ _; rw [← hw0]; exact (Blk.new' _ _ _ _ hh0).on (below_new _ _)
      have HZ0 : Hid (Blk w0 25 (h0 + 1) #[.int .i64 0, .int .i64 0, .int .i64 0, .int .i64 0, .int .i64 0, .int .i64 0, .int .i64 0, .string ⟨#[]⟩, .string ⟨#[]⟩]) := by show Blk _ _ _ _; rw [← hw0]; exact Blk.new' _ _ _ _ (by rw [World.size_alloc]; omega)
      have HL : Hid (w.heap.size ≤ h0) := by show _ ≤ _; omega
      try rw [hw0]
      try rw [hh0]
      clear hw0 hh0
      refine (CP.out w0 HB0.out).mono ?_
      rintro e w1 ⟨rfl, hb1⟩
      have HB1 : Hid (Below w.heap.size w w1) := below_step HB0.out (Nat.le_refl _) hb1
      have HX1 : Hid (Blk w1 25 h0 #[.int .i64 k0, .int .i64 k1, .int .i64 k2, .int .i64 k3, .int .i64 k4, .int .i64 k5, .int .i64 k6, .string s7, .string s8]) := HX0.out.on hb1
      have HZ1 : Hid (Blk w1 25 (h0 + 1) #[.int .i64 0, .int .i64 0, .int .i64 0, .int .i64 0, .int .i64 0, .int .i64 0, .int .i64 0, .string ⟨#[]⟩, .string ⟨#[]⟩]) := HZ0.out.on hb1
      clear hb1 HB0 HX0 HZ0 CP
      have HZ2 : Hid (Blk (w1.alloc (.cells #[.int .i64 0, .int .i64 0, .int .i64 0, .int .i64 0, .int .i64 0, .int .i64 0, .int .i64 0, .string ⟨#[]⟩, .string ⟨#[]⟩] 25)) 25 (h0 + 1) #[.int .i64 0, .int .i64 0, .int .i64 0, .int .i64 0, .int .i64 0, .int .i64 0, .int .i64 0, .string ⟨#[]⟩, .string ⟨#[]⟩]) := HZ1.out.on (below_new _ _)
      have hB2 : Below w.heap.size w (w1.alloc (.cells #[.int .i64 0, .int .i64 0, .int .i64 0, .int .i64 0, .int .i64 0, .int .i64 0, .int .i64 0, .string ⟨#[]⟩, .string ⟨#[]⟩] 25)) := HB1.out.alloc HB1.out.size _
      go_wp2_with (with_reducible refine wpList_storeBlk rfl 25 _ _ rfl (h0 + 1) #[.int .i64 0, .int .i64 0, .int .i64 0, .int .i64 0, .int .i64 0, .int .i64 0, .int .i64 0, .string ⟨#[]⟩, .string ⟨#[]⟩] #[.int .i64 0, .int .i64 0, .int .i64 0, .int .i64 0, .int .i64 0, .int .i64 0, .int .i64 0, .string ⟨#[]⟩, .string ⟨#[]⟩] ?hx ?hy HZ2.out rfl ?hi ?h1 ?_)
      try (case hx => rfl)
      try (case hy => rfl)
      try (case hi => kernel_rfl)
      try (case h1 => simp [Value.oneCell'])
      exact bodyPost_rowTmp rfl (h0 + 1) _ _ rfl rfl rfl (HZ2.out.setRow _) _ Tryd.underlying25 rfl (by kernel_rfl) ⟨rfl, below_setRow hB2 (by have := HL.out; omega) _⟩
  · rw [if_pos (.inl hE)]
    simp only [op0, opA]
    have hE' : (E == 0) = false := by simp [hE]
    go_enter Tryd.func78, Tryd.ntmps78
    go_wp2_with fail
    obtain ⟨h0, hh0⟩ : ∃ h0, w.heap.size = h0 := ⟨_, rfl⟩
    obtain ⟨w0, hw0⟩ : ∃ w0, (w.alloc (.cells #[.int .i64 k0, .int .i64 k1, .int .i64 k2, .int .i64 k3, .int .i64 k4, .int .i64 k5, .int .i64 k6, .string s7, .string s8] 25)).alloc (.cells #[.int .i64 0, .int .i64 0, .int .i64 0, .int .i64 0, .int .i64 0, .int .i64 0, .int .i64 0, .string ⟨#[]⟩, .string ⟨#[]⟩] 25) = w0 := ⟨_, rfl⟩
    have HB0 : Hid (Below w.heap.size w w0) := by show Below _ _ _; rw [← hw0]; exact (below_new _ _).alloc (by rw [World.size_alloc]; omega) _
    have HX0 : Hid (Blk w0 25 h0 #[.int .i64 k0, .int .i64 k1, .int .i64 k2, .int .i64 k3, .int .i64 k4, .int .i64 k5, .int .i64 k6, .string s7, .string s8]) := by show Blk _ _ _ _; rw [← hw0]; exact (Blk.new' _ _ _ _ hh0).on (below_new _ _)
    have HZ0 : Hid (Blk w0 25 (h0 + 1) #[.int .i64 0, .int .i64 0, .int .i64 0, .int .i64 0, .int .i64 0, .int .i64 0, .int .i64 0, .string ⟨#[]⟩, .string ⟨#[]⟩]) := by show Blk _ _ _ _; rw [← hw0]; exact Blk.new' _ _ _ _ (by rw [World.size_alloc]; omega)
    have HL : Hid (w.heap.size ≤ h0) := by show _ ≤ _; omega
    try rw [hw0]
    try rw [hh0]
    clear hw0 hh0
    refine (CP.out w0 HB0.out).mono ?_
    rintro e w1 ⟨rfl, hb1⟩
    have HB1 : Hid (Below w.heap.size w w1) := below_step HB0.out (Nat.le_refl _) hb1
    have HX1 : Hid (Blk w1 25 h0 #[.int .i64 k0, .int .i64 k1, .int .i64 k2, .int .i64 k3, .int .i64 k4, .int .i64 k5, .int .i64 k6, .string s7, .string s8]) := HX0.out.on hb1
    have HZ1 : Hid (Blk w1 25 (h0 + 1) #[.int .i64 0, .int .i64 0, .int .i64 0, .int .i64 0, .int .i64 0, .int .i64 0, .int .i64 0, .string ⟨#[]⟩, .string ⟨#[]⟩]) := HZ0.out.on hb1
    clear hb1 HB0 HX0 HZ0 CP
    have HZ2 : Hid (Blk (w1.alloc (.cells #[.int .i64 0, .int .i64 0, .int .i64 0, .int .i64 0, .int .i64 0, .int .i64 0, .int .i64 0, .string ⟨#[]⟩, .string ⟨#[]⟩] 25)) 25 (h0 + 1) #[.int .i64 0, .int .i64 0, .int .i64 0, .int .i64 0, .int .i64 0, .int .i64 0, .int .i64 0, .string ⟨#[]⟩, .string ⟨#[]⟩]) := HZ1.out.on (below_new _ _)
    have hB2 : Below w.heap.size w (w1.alloc (.cells #[.int .i64 0, .int .i64 0, .int .i64 0, .int .i64 0, .int .i64 0, .int .i64 0, .int .i64 0, .string ⟨#[]⟩, .string ⟨#[]⟩] 25)) := HB1.out.alloc HB1.out.size _
    go_wp2_with (with_reducible refine wpList_storeBlk rfl 25 _ _ rfl (h0 + 1) #[.int .i64 0, .int .i64 0, .int .i64 0, .int .i64 0, .int .i64 0, .int .i64 0, .int .i64 0, .string ⟨#[]⟩, .string ⟨#[]⟩] #[.int .i64 0, .int .i64 0, .int .i64 0, .int .i64 0, .int .i64 0, .int .i64 0, .int .i64 0, .string ⟨#[]⟩, .string ⟨#[]⟩] ?hx ?hy HZ2.out rfl ?hi ?h1 ?_)
    try (case hx => rfl)
    try (case hy => rfl)
    try (case hi => kernel_rfl)
    try (case h1 => simp [Value.oneCell'])
    exact bodyPost_rowTmp rfl (h0 + 1) _ _ rfl rfl rfl (HZ2.out.setRow _) _ Tryd.underlying25 rfl (by kernel_rfl) ⟨rfl, below_setRow hB2 (by have := HL.out; omega) _⟩

set_option maxHeartbeats 4000000 in
set_option maxRecDepth 100000 in
theorem takeOp_any (M : OpT → Bool) (hM : ∀ o, M o = true ↔ MayO o) (s : ByteArray) (w : World) (hG : Glob8 w) (hs : s.size ≤ 1048576) :
    Calls Tryd.prog 46 #[.string s] w fun e w' => e = .returned (.tuple #[.agg (opA (takeOpC M s).1), .int .i64 (takeOpC M s).2]) ∧ Below w.heap.size w w' := by
  have hz := readOpC_sizes (s, 0)
  have CA' : ∀ W, Below w.heap.size w W → _ := fun W hW => asPutOp_any M hM (readOpC (s, 0)).2 s W (hG.below hW) hz.1 hz.2
  have CR' : ∀ W g, InAt W g (s, 0) → _ := fun W g hW => readOp_any g (s, 0) W hW
  obtain ⟨X, hX⟩ : ∃ X, takeOpC M s = X := ⟨_, rfl⟩
  have hX' : asP M (readOpC (s, 0)).2 s = X := hX
  rw [hX]
  simp only [hX'] at CA'
  obtain ⟨⟨i1, x⟩, hx⟩ : ∃ p, readOpC (s, 0) = p := ⟨_, rfl⟩
  simp only [hx] at CA' CR'
  obtain ⟨⟨k0, ⟨k1, k2⟩, ⟨k3, k4⟩, ⟨k5, k6⟩, s7, s8⟩, E⟩ := X
  simp only [opA] at CA' ⊢
  have CA : Hid (∀ W, Below w.heap.size w W → _) := CA'
  have CR : Hid (∀ W g, InAt W g (s, 0) → _) := CR'
  clear CA' CR' hX hX' hx hG hz
  have HB0 : Hid (Below w.heap.size w (w.alloc (.cells #[.int .i64 0, .int .i64 0, .int .i64 0, .int .i64 0, .int .i64 0, .int .i64 0, .int .i64 0, .string ⟨#[]⟩, .string ⟨#[]⟩] 25))) := below_new _ _
  have HZ0 : Hid (Blk (w.alloc (.cells #[.int .i64 0, .int .i64 0, .int .i64 0, .int .i64 0, .int .i64 0, .int .i64 0, .int .i64 0, .string ⟨#[]⟩, .string ⟨#[]⟩] 25)) 25 w.heap.size #[.int .i64 0, .int .i64 0, .int .i64 0, .int .i64 0, .int .i64 0, .int .i64 0, .int .i64 0, .string ⟨#[]⟩, .string ⟨#[]⟩]) := Blk.new _ _ _
  go_enter Tryd.func46, Tryd.ntmps46
  go_wp2_with fail
  refine (newIn_any s _ hs).mono ?_
  rintro e w1 ⟨rfl, hI1, hb1⟩
  have HB1 : Hid (Below w.heap.size w w1) := below_step HB0.out (Nat.le_refl _) hb1
  have HZ1 : Hid (Blk w1 25 w.heap.size #[.int .i64 0, .int .i64 0, .int .i64 0, .int .i64 0, .int .i64 0, .int .i64 0, .int .i64 0, .string ⟨#[]⟩, .string ⟨#[]⟩]) := HZ0.out.on hb1
  obtain ⟨g, hg⟩ : ∃ g, (w.alloc (.cells #[.int .i64 0, .int .i64 0, .int .i64 0, .int .i64 0, .int .i64 0, .int .i64 0, .int .i64 0, .string ⟨#[]⟩, .string ⟨#[]⟩] 25)).heap.size = g := ⟨_, rfl⟩
  rw [World.size_alloc] at hg
  have HI1 : Hid (InAt w1 g (s, 0)) := by show InAt _ _ _; rw [← hg, ← World.size_alloc w]; exact hI1
  have HG : Hid (w.heap.size < g) := by show _ < _; omega
  try rw [World.size_alloc]
  try rw [hg]
  clear hI1 hb1 HB0 HZ0 hg
  go_wp2_with fail
  refine (CR.out w1 g HI1.out).mono ?_
  rintro e w2 ⟨rfl, hI2⟩
  have HB2 : Hid (Below w.heap.size w w2) := HB1.out.trans (hI2.2.below w.heap.size HB1.out.size (Nat.le_of_lt HG.out) (fun _ h => by cases h))
  have HZ2 : Hid (Blk w2 25 w.heap.size #[.int .i64 0, .int .i64 0, .int .i64 0, .int .i64 0, .int .i64 0, .int .i64 0, .int .i64 0, .string ⟨#[]⟩, .string ⟨#[]⟩]) := HZ1.out.kept hI2.2 (Nat.ne_of_lt HG.out) (by simp)
  clear hI2 HB1 HZ1 HI1 CR
  go_wp2_with fail
  refine (CA.out w2 HB2.out).mono ?_
  rintro e w3 ⟨rfl, hb3⟩
  have HB3 : Hid (Below w.heap.size w w3) := below_step HB2.out (Nat.le_refl _) hb3
  have HZ3 : Hid (Blk w3 25 w.heap.size #[.int .i64 0, .int .i64 0, .int .i64 0, .int .i64 0, .int .i64 0, .int .i64 0, .int .i64 0, .string ⟨#[]⟩, .string ⟨#[]⟩]) := HZ2.out.on hb3
  clear hb3 HB2 HZ2 CA
  go_wp2_with (with_reducible refine wpList_storeBlk rfl 25 _ _ rfl w.heap.size #[.int .i64 0, .int .i64 0, .int .i64 0, .int .i64 0, .int .i64 0, .int .i64 0, .int .i64 0, .string ⟨#[]⟩, .string ⟨#[]⟩] #[.int .i64 k0, .int .i64 k1, .int .i64 k2, .int .i64 k3, .int .i64 k4, .int .i64 k5, .int .i64 k6, .string s7, .string s8] ?hx ?hy HZ3.out rfl ?hi ?h1 ?_)
  try (case hx => rfl)
  try (case hy => rfl)
  try (case hi => kernel_rfl)
  try (case h1 => simp [Value.oneCell'])
  exact bodyPost_rowTmp rfl w.heap.size _ _ rfl rfl rfl (HZ3.out.setRow _) _ Tryd.underlying25 rfl (by kernel_rfl) ⟨rfl, below_setRow HB3.out (Nat.le_refl _) _⟩
end Go.Proofs.YtmjjpfinkpfifaaDoor
