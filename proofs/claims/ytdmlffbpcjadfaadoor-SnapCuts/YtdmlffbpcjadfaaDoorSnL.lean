import Derived.Test.YtdmlffbpcjadfaaDoorSnK
import Derived.Test.YtdmlffbpcjadfaaDoorTrOh
import Derived.Test.YtdmlffbpcjadfaaDoorP11
/- A tree as bytes, there and back, on plain data (layer 13). -/
namespace Go.Proofs.YtdmlffbpcjadfaaDoor
open Go.RowKit
set_option linter.unusedSimpArgs false

theorem readNdC_back (x : NodeT) (T : ByteArray) (h : ∀ p ∈ ndPs x, okP p = true) : readNdC (encA (ndPs x) ++ T, 0) = ((T, 0), x) := by
  obtain ⟨⟨a1, a2⟩, ⟨p1, p2⟩, s, t⟩ := x
  unfold ndPs at h
  simp only [List.forall_mem_cons] at h
  obtain ⟨h1, h2, h3, h4, _⟩ := h
  have e : encA (ndPs ((a1, a2), (p1, p2), s, t)) ++ T = encP (3, a1, a2, ⟨#[]⟩) ++ (encP (3, p1, p2, ⟨#[]⟩) ++ (encP (4, 0, 0, s) ++ (encP (4, 0, 0, t) ++ T))) := by
    unfold ndPs
    simp only [encA, append_mid, ByteArray.append_empty, ByteArray.empty_append]
  rw [e]
  unfold readNdC
  rw [back3 (3, a1, a2, ⟨#[]⟩) _ rfl h1]
  simp only
  rw [back3 (3, p1, p2, ⟨#[]⟩) _ rfl h2]
  simp only
  rw [back4 (4, 0, 0, s) _ (by simp [kd]) (by simp [kd]) (by simp [kd]) h3]
  simp only
  rw [back4 (4, 0, 0, t) _ (by simp [kd]) (by simp [kd]) (by simp [kd]) h4]
  rfl

theorem encA_nd_pos (x : NodeT) : 0 < (encA (ndPs x)).size := by
  unfold ndPs
  simp only [encA, enc1, enc3, enc4, ByteArray.size_append, bigB_size, ByteArray.size_empty]
  omega

theorem encA_op_sz (o : OpT) : (encA (opPs o)).size = 26 + o.2.2.2.2.1.size + o.2.2.2.2.2.size := by
  unfold opPs
  simp only [encA, enc1, enc3, enc4, ByteArray.size_append, bigB_size, ByteArray.size_empty]
  omega

theorem readLC_back {α : Type} (rd : ByteArray × Int → (ByteArray × Int) × α) (ps : α → List (Int × Int × Int × ByteArray)) (hb : ∀ x T, (∀ p ∈ ps x, okP p = true) → rd (encA (ps x) ++ T, 0) = ((T, 0), x)) (hp : ∀ x, 0 < (encA (ps x)).size) : ∀ (l : List α) (T : ByteArray), (∀ p ∈ l.flatMap ps, okP p = true) → readLC rd l.length (encA (l.flatMap ps) ++ T, 0) = ((T, 0), l) := by
  intro l
  induction l with
  | nil =>
    intro T _
    show readLC rd 0 (ByteArray.empty ++ T, 0) = _
    rw [ByteArray.empty_append]
    rfl
  | cons x l ih =>
    intro T h
    rw [List.flatMap_cons] at h ⊢
    have h1 := hb x (encA (l.flatMap ps) ++ T) (fun p hp => h p (List.mem_append_left _ hp))
    have h2 := ih T (fun p hp => h p (List.mem_append_right _ hp))
    rw [encA_snoc, append_mid, List.length_cons]
    unfold readLC
    rw [if_neg (by simp only [ByteArray.size_append]; have := hp x; omega), h1]
    simp only
    rw [h2]

/-- What is left behind a tree. -/
def readSR (s : ByteArray) : ByteArray × Int :=
  (readLC readOpC (inNumP (readLC readNdC (inNumP (inStampC (s, 0)).1).2 (inNumP (inStampC (s, 0)).1).1).1).2 (inNumP (readLC readNdC (inNumP (inStampC (s, 0)).1).2 (inNumP (inStampC (s, 0)).1).1).1).1).1

theorem backC2 (n : Nat) (a : Int) (s T : ByteArray) (h : okP (2, (n : Int), a, s) = true) : inNumP (encP (2, (n : Int), a, s) ++ T, 0) = ((T, 0), n) := by
  obtain ⟨N, h1, h2⟩ := back2 (2, (n : Int), a, s) T rfl h
  rw [h1]
  have : (N : Int) = (n : Int) := h2
  have : N = n := by omega
  rw [this]

theorem readS_back (t : TreeT) (T : ByteArray) (h : ∀ p ∈ snPs t, okP p = true) : readSC (encA (snPs t) ++ T) = t ∧ readSR (encA (snPs t) ++ T) = (T, 0) := by
  obtain ⟨l, ops, b1, b2⟩ := t
  have e : encA (snPs (l, ops, b1, b2)) ++ T = encP (3, b1, b2, ⟨#[]⟩) ++ (encP (2, (l.length : Int), 0, ⟨#[]⟩) ++ (encA (l.flatMap ndPs) ++ (encP (2, (ops.length : Int), 0, ⟨#[]⟩) ++ (encA (ops.flatMap opPs) ++ T)))) := by
    unfold snPs
    simp only [encA, encA_snoc, append_mid, List.cons_append]
  unfold snPs at h
  have h1 : okP (3, b1, b2, ⟨#[]⟩) = true := h _ (List.mem_cons_self ..)
  have h2 : okP (2, (l.length : Int), 0, ⟨#[]⟩) = true := h _ (List.mem_cons_of_mem _ (List.mem_append_left _ (List.mem_cons_self ..)))
  have h3 : ∀ p ∈ l.flatMap ndPs, okP p = true := fun p hp => h _ (List.mem_cons_of_mem _ (List.mem_append_left _ (List.mem_cons_of_mem _ hp)))
  have h4 : okP (2, (ops.length : Int), 0, ⟨#[]⟩) = true := h _ (List.mem_cons_of_mem _ (List.mem_append_right _ (List.mem_cons_self ..)))
  have h5 : ∀ p ∈ ops.flatMap opPs, okP p = true := fun p hp => h _ (List.mem_cons_of_mem _ (List.mem_append_right _ (List.mem_cons_of_mem _ hp)))
  have k1 := back3 (3, b1, b2, ⟨#[]⟩) (encP (2, (l.length : Int), 0, ⟨#[]⟩) ++ (encA (l.flatMap ndPs) ++ (encP (2, (ops.length : Int), 0, ⟨#[]⟩) ++ (encA (ops.flatMap opPs) ++ T)))) rfl h1
  have k2 := backC2 l.length 0 ⟨#[]⟩ (encA (l.flatMap ndPs) ++ (encP (2, (ops.length : Int), 0, ⟨#[]⟩) ++ (encA (ops.flatMap opPs) ++ T))) h2
  have k3 := readLC_back readNdC ndPs readNdC_back encA_nd_pos l (encP (2, (ops.length : Int), 0, ⟨#[]⟩) ++ (encA (ops.flatMap opPs) ++ T)) h3
  have k4 := backC2 ops.length 0 ⟨#[]⟩ (encA (ops.flatMap opPs) ++ T) h4
  have k5 := readLC_back readOpC opPs readOpC_back (fun o => by rw [encA_op_sz]; omega) ops T h5
  rw [e]
  unfold readSC readSR
  simp only [k1, k2, k3, k4, k5]
  exact ⟨rfl, trivial⟩

theorem putS_inv (M : OpT → Bool) (D E : Bool) (t : TreeT) (s : ByteArray) (h : putSP M D E t = (s, 0)) : (∀ p ∈ snPs t, okP p = true) ∧ s = encA (snPs t) := by
  unfold putSP at h
  by_cases hc : (codeP M D t).2 ≠ 0 ∨ E = false
  · rw [if_pos hc] at h; cases h
  · rw [if_neg hc] at h
    unfold doneQ at h
    by_cases hb : (writeA (⟨#[]⟩, false) (snPs t)).2 = true
    · rw [if_pos hb] at h; cases h
    · rw [if_neg hb] at h
      have hb' : (writeA (⟨#[]⟩, false) (snPs t)).2 = false := by
        cases hw : (writeA (⟨#[]⟩, false) (snPs t)).2 with
        | false => rfl
        | true => exact absurd hw hb
      obtain ⟨h1, h2⟩ := writeA_ok _ _ hb'
      refine ⟨h1, ?_⟩
      have h3 : (writeA (⟨#[]⟩, false) (snPs t)).1 = s := congrArg Prod.fst h
      rw [← h3, h2]
      exact ByteArray.empty_append

theorem putS_fit (M : OpT → Bool) (D E : Bool) (t : TreeT) (hc : (codeP M D t).2 = 0) (hE : E = true) (h : ∀ p ∈ snPs t, okP p = true) (hn : (encA (snPs t)).size ≤ 65536) : putSP M D E t = (encA (snPs t), 0) := by
  unfold putSP
  have e := writeA_fit (snPs t) ⟨#[]⟩ h (by show 0 + _ ≤ _; omega)
  rw [if_neg (by rw [hc, hE]; simp), e]
  unfold doneQ
  rw [if_neg (by simp)]
  show (ByteArray.empty ++ _, _) = _
  rw [ByteArray.empty_append]

/-- Without some bytes at their end the bytes of a tree are no tree's. -/
theorem cut_none (M : OpT → Bool) (t : TreeT) (h : ∀ p ∈ snPs t, okP p = true) (n : Nat) (hn : n < (encA (snPs t)).size) (x : TreeT) (D E : Bool) : putSP M D E x ≠ ((encA (snPs t)).extract 0 n, 0) := fun hp => by
  obtain ⟨h1, h2⟩ := putS_inv M D E x _ hp
  have k1 := (readS_back x ((encA (snPs t)).extract n (encA (snPs t)).size) h1).2
  rw [← h2, ← cut_join _ n (by omega)] at k1
  have k2 := (readS_back t ⟨#[]⟩ h).2
  rw [show encA (snPs t) ++ (⟨#[]⟩ : ByteArray) = encA (snPs t) from ByteArray.append_empty, k1] at k2
  have k3 := congrArg (fun p : ByteArray × Int => p.1.size) k2
  simp only [ByteArray.size_extract] at k3
  have k4 : (⟨#[]⟩ : ByteArray).size = 0 := rfl
  omega

/-- With one more they are none, either. -/
theorem more_none (M : OpT → Bool) (t : TreeT) (h : ∀ p ∈ snPs t, okP p = true) (b : ByteArray) (hb : b.size ≠ 0) (x : TreeT) (D E : Bool) : putSP M D E x ≠ (encA (snPs t) ++ b, 0) := fun hp => by
  obtain ⟨h1, h2⟩ := putS_inv M D E x _ hp
  have k1 := (readS_back x ⟨#[]⟩ h1).2
  rw [show encA (snPs x) ++ (⟨#[]⟩ : ByteArray) = encA (snPs x) from ByteArray.append_empty, ← h2] at k1
  have k2 := (readS_back t b h).2
  rw [k1] at k2
  have k3 := congrArg (fun p : ByteArray × Int => p.1.size) k2
  have k4 : (⟨#[]⟩ : ByteArray).size = 0 := rfl
  simp only at k3
  omega

theorem stamp_may {s : Int × Int} (h : MayS s) : stampOk s.1 s.2 = true := by
  unfold stampOk oneOk
  obtain ⟨h1, h2, h3, h4⟩ := h
  simp only [Bool.and_eq_true, decide_eq_true_eq]
  omega

theorem stamp_par {s : Int × Int} (h : ParS s) : stampOk s.1 s.2 = true := by
  rcases h with h | ⟨h1, h2⟩
  · exact stamp_may h
  · unfold stampOk oneOk
    simp only [Bool.and_eq_true, decide_eq_true_eq]
    omega

/-- The parts of an operation that may be, of few bytes, may be written. -/
theorem ops_ok (o : OpT) (h : MayO o) (hL : LightO o) : ∀ p ∈ opPs o, okP p = true := by
  obtain ⟨h1, h2, h3⟩ := h
  obtain ⟨l1, l2⟩ := hL
  have hk : oneOk o.1 255 = true := by
    unfold oneOk
    simp only [Bool.and_eq_true, decide_eq_true_eq]
    rcases h3 with h | h | h | h | h <;> (have := h.1; omega)
  have hp : stampOk o.2.2.2.1.1 o.2.2.2.1.2 = true := by
    rcases h3 with h | h | h | h | h
    · exact stamp_par h.2.2.1
    · exact stamp_par h.2.1
    · rw [h.2.1]; decide
    · rw [h.2.1]; decide
    · rw [h.2.1]; decide
  intro p hp'
  unfold opPs at hp'
  simp only [List.mem_cons, List.not_mem_nil, or_false] at hp'
  rcases hp' with rfl | rfl | rfl | rfl | rfl | rfl
  · exact byte_okP _ _ _ hk
  · exact stamp_okP _ _ _ (stamp_may h1)
  · exact stamp_okP _ _ _ (stamp_may h2)
  · exact stamp_okP _ _ _ hp
  · exact text_okP _ _ _ (by omega)
  · exact text_okP _ _ _ (by omega)

theorem enc_ops_size (ops : List OpT) (h : ∀ o ∈ ops, LightO o) : (encA (ops.flatMap opPs)).size ≤ 426 * ops.length := by
  induction ops with
  | nil => exact Nat.le_refl _
  | cons o l ih =>
    rw [List.flatMap_cons, encA_snoc, ByteArray.size_append, encA_op_sz, List.length_cons]
    have h1 := h o (List.mem_cons_self ..)
    have h2 := ih (fun x hx => h x (List.mem_cons_of_mem _ hx))
    obtain ⟨l1, l2⟩ := h1
    omega

/-- Operations alone, in order, of few bytes: they are put. -/
theorem ops_put (M : OpT → Bool) (hM : ∀ o, M o = true ↔ MayO o) (ops : List OpT) (hs : SortO ops) (hm : ∀ o ∈ ops, M o = true) (hl : ∀ o ∈ ops, LightO o) (hn : ops.length ≤ 30) : (∀ p ∈ snPs ([], ops, (0, 0)), okP p = true) ∧ putSP M true true ([], ops, (0, 0)) = (encA (snPs ([], ops, (0, 0))), 0) ∧ 19 ≤ (encA (snPs ([], ops, (0, 0)))).size ∧ (encA (snPs ([], ops, (0, 0)))).size ≤ 13000 := by
  have hok : ∀ p ∈ snPs ([], ops, (0, 0)), okP p = true := by
    intro p hp
    unfold snPs at hp
    simp only [List.flatMap_nil, List.length_nil, List.mem_cons, List.mem_append, List.not_mem_nil, or_false] at hp
    rcases hp with rfl | rfl | rfl | hp
    · exact stamp_okP _ _ _ (by decide)
    · decide
    · unfold okP kd pn
      rw [if_neg (by simp), if_pos rfl]
      unfold oneOk
      simp only [Bool.and_eq_true, decide_eq_true_eq]
      omega
    · obtain ⟨o, ho, hp⟩ := List.mem_flatMap.1 hp
      exact ops_ok o ((hM o).1 (hm o ho)) (hl o ho) p hp
  have hz : (encA (snPs ([], ops, (0, 0)))).size = 19 + (encA (ops.flatMap opPs)).size := by
    unfold snPs
    simp only [encA, encA_snoc, List.flatMap_nil, List.cons_append, List.nil_append, enc3, ByteArray.size_append, bigB_size]
    have e2 : ∀ n : Int, (encP (2, n, 0, ⟨#[]⟩)).size = 6 := fun n => by
      unfold encP kd pn
      rw [if_neg (by simp), if_pos rfl, bigB_size]
    rw [e2, e2]
    omega
  have hsz := enc_ops_size ops hl
  have hc : codeP M true ([], ops, (0, 0)) = (([], ops, (0, 0)), 0) := by
    unfold codeP
    rw [if_neg (fun h => h.1 rfl), if_neg (by decide)]
    have h := of_again M [] (0, 0) ops [] (by simpa using hs) (fun o ho => ⟨hm o ho, ?_⟩) (by simp; omega)
    · simpa using h
    · have := ((hM o).1 (hm o ho)).1.1
      unfold LessS
      simp only
      omega
  refine ⟨hok, putS_fit M true true _ (by rw [hc]) rfl hok (by omega), by omega, by omega⟩

theorem rise_of_sort (ops : List OpT) (h : SortO ops) : RiseO ops := by
  intro k h0 hk
  have := List.pairwise_iff_getElem.1 h (k - 1) k (by omega) hk (by omega)
  rw [oL_get ops (k - 1) (by omega), oL_get ops k hk]
  exact this
end Go.Proofs.YtdmlffbpcjadfaaDoor
