import Derived.Test.YtdmlffbpcjadfaaDoorSnK
import Derived.Test.YtdmlffbpcjadfaaDoorTrOh
import Derived.Test.YtdmlffbpcjadfaaDoorP11
/- A tree as bytes, there and back, on plain data (layer 13). -/
namespace Go.Proofs.YtdmlffbpcjadfaaDoor
open Go.RowKit
set_option linter.unusedSimpArgs false

theorem readNdC_back (x : NodeT) (T : ByteArray) (h : ∀ p ∈ ndPs x, okP p = true) : readNdC (encA (ndPs x) ++ T, 0) = ((T, 0), x) := by
  obtain ⟨⟨a1, a2⟩, ⟨p1, p2⟩, s, t⟩ := x
  unfold ndPs at h
  simp only [List.forall_mem_cons] at h
  obtain ⟨h1, h2, h3, h4, _⟩ := h
  have e : encA (ndPs ((a1, a2), (p1, p2), s, t)) ++ T = encP (3, a1, a2, ⟨#[]⟩) ++ (encP (3, p1, p2, ⟨#[]⟩) ++ (encP (4, 0, 0, s) ++ (encP (4, 0, 0, t) ++ T))) := by
    unfold ndPs
    simp only [encA, append_mid, ByteArray.append_empty, ByteArray.empty_append]
  rw [e]
  unfold readNdC
  rw [back3 (3, a1, a2, ⟨#[]⟩) _ rfl h1]
  simp only
  rw [back3 (3, p1, p2, ⟨#[]⟩) _ rfl h2]
  simp only
  rw [back4 (4, 0, 0, s) _ (by simp [kd]) (by simp [kd]) (by simp [kd]) h3]
  simp only
  rw [back4 (4, 0, 0, t) _ (by simp [kd]) (by simp [kd]) (by simp [kd]) h4]
  rfl

theorem encA_nd_pos (x : NodeT) : 0 < (encA (ndPs x)).size := by
  unfold ndPs
  simp only [encA, enc1, enc3, enc4, ByteArray.size_append, bigB_size, ByteArray.size_empty]
  omega

theorem encA_op_sz (o : OpT) : (encA (opPs o)).size = 26 + o.2.2.2.2.1.size + o.2.2.2.2.2.size := by
  unfold opPs
  simp only [encA, enc1, enc3, enc4, ByteArray.size_append, bigB_size, ByteArray.size_empty]
  omega

theorem readLC_back {α : Type} (rd : ByteArray × Int → (ByteArray × Int) × α) (ps : α → List (Int × Int × Int × ByteArray)) (hb : ∀ x T, (∀ p ∈ ps x, okP p = true) → rd (encA (ps x) ++ T, 0) = ((T, 0), x)) (hp : ∀ x, 0 < (encA (ps x)).size) : ∀ (l : List α) (T : ByteArray), (∀ p ∈ l.flatMap ps, okP p = true) → readLC rd l.length (encA (l.flatMap ps) ++ T, 0) = ((T, 0), l) := by
  intro l
  induction l with
  | nil =>
    intro T _
    show readLC rd 0 (ByteArray.empty ++ T, 0) = _
    rw [ByteArray.empty_append]
    rfl
  | cons x l ih =>
    intro T h
    rw [List.flatMap_cons] at h ⊢
    have h1 := hb x (encA (l.flatMap ps) ++ T) (fun p hp => h p (List.mem_append_left _ hp))
    have h2 := ih T (fun p hp => h p (List.mem_append_right _ hp))
    rw [encA_snoc, append_mid, List.length_cons]
    unfold readLC
    rw [if_neg (by simp only [ByteArray.size_append]; have := hp x; omega), h1]
    simp only
    rw [h2]

/-- What is left behind a tree. -/
def readSR (s : ByteArray) : ByteArray × Int :=
  (readLC readOpC (inNumP (readLC readNdC (inNumP (inStampC (s, 0)).1).2 (inNumP (inStampC (s, 0)).1).1).1).2 (inNumP (readLC readNdC (inNumP (inStampC (s, 0)).1).2 (inNumP (inStampC (s, 0)).1).1).1).1).1

theorem backC2 (n : Nat) (a : Int) (s T : ByteArray) (h : okP (2, (n : Int), a, s) = true) : inNumP (encP (2, (n : Int), a, s) ++ T, 0) = ((T, 0), n) := by
  obtain ⟨N, h1, h2⟩ := back2 (2, (n : Int), a, s) T rfl h
  rw [h1]
  have : (N : Int) = (n : Int) := h2
  have : N = n := by omega
  rw [this]

theorem readS_back (t : TreeT) (T : ByteArray) (h : ∀ p ∈ snPs t, okP p = true) : readSC (encA (snPs t) ++ T) = t ∧ readSR (encA (snPs t) ++ T) = (T, 0) := by
  obtain ⟨l, ops, b1, b2⟩ := t
  have e : encA (snPs (l, ops, b1, b2)) ++ T = encP (3, b1, b2, ⟨#[]⟩) ++ (encP (2, (l.length : Int), 0, ⟨#[]⟩) ++ (encA (l.flatMap ndPs) ++ (encP (2, (ops.length : Int), 0, ⟨#[]⟩) ++ (encA (ops.flatMap opPs) ++ T)))) := by
    unfold snPs
    simp only [encA, encA_snoc, append_mid, List.cons_append]
  unfold snPs at h
  have h1 : okP (3, b1, b2, ⟨#[]⟩) = true := h _ (List.mem_cons_self ..)
  have h2 : okP (2, (l.length : Int), 0, ⟨#[]⟩) = true := h _ (List.mem_cons_of_mem _ (List.mem_append_left _ (List.mem_cons_self ..)))
  have h3 : ∀ p ∈ l.flatMap ndPs, okP p = true := fun p hp => h _ (List.mem_cons_of_mem _ (List.mem_append_left _ (List.mem_cons_of_mem _ hp)))
  have h4 : okP (2, (ops.length : Int), 0, ⟨#[]⟩) = true := h _ (List.mem_cons_of_mem _ (List.mem_append_right _ (List.mem_cons_self ..)))
  have h5 : ∀ p ∈ ops.flatMap opPs, okP p = true := fun p hp => h _ (List.mem_cons_of_mem _ (List.mem_append_right _ (List.mem_cons_of_mem _ hp)))
  have k1 := back3 (3, b1, b2, ⟨#[]⟩) (encP (2, (l.length : Int), 0, ⟨#[]⟩) ++ (encA (l.flatMap ndPs) ++ (encP (2, (ops.length : Int), 0, ⟨#[]⟩) ++ (encA (ops.flatMap opPs) ++ T)))) rfl h1
  have k2 := backC2 l.length 0 ⟨#[]⟩ (encA (l.flatMap ndPs) ++ (encP (2, (ops.length : Int), 0, ⟨#[]⟩) ++ (encA (ops.flatMap opPs) ++ T))) h2
  have k3 := readLC_back readNdC ndPs readNdC_back encA_nd_pos l (encP (2, (ops.length : Int), 0, ⟨#[]⟩) ++ (encA (ops.flatMap opPs) ++ T)) h3
  have k4 := backC2 ops.length 0 ⟨#[]⟩ (encA (ops.flatMap opPs) ++ T) h4
  have k5 := readLC_back readOpC opPs readOpC_back (fun o => by rw [encA_op_sz]; omega) ops T h5
  rw [e]
  unfold readSC readSR
  simp only [k1, k2, k3, k4, k5]
  exact ⟨rfl, trivial⟩

theorem putS_fit (M : OpT → Bool) (D E : Bool) (t : TreeT) (hc : (codeP M D t).2 = 0) (hE : E = true) (h : ∀ p ∈ snPs t, okP p = true) (hn : (encA (snPs t)).size ≤ 65536) : putSP M D E t = (encA (snPs t), 0) := by
  unfold putSP
  have e := writeA_fit (snPs t) ⟨#[]⟩ h (by show 0 + _ ≤ _; omega)
  rw [if_neg (by rw [hc, hE]; simp), e]
  unfold doneQ
  rw [if_neg (by simp)]
  show (ByteArray.empty ++ _, _) = _
  rw [ByteArray.empty_append]

theorem stamp_may {s : Int × Int} (h : MayS s) : stampOk s.1 s.2 = true := by
  unfold stampOk oneOk
  obtain ⟨h1, h2, h3, h4⟩ := h
  simp only [Bool.and_eq_true, decide_eq_true_eq]
  omega

theorem stamp_par {s : Int × Int} (h : ParS s) : stampOk s.1 s.2 = true := by
  rcases h with h | ⟨h1, h2⟩
  · exact stamp_may h
  · unfold stampOk oneOk
    simp only [Bool.and_eq_true, decide_eq_true_eq]
    omega

/-- The parts of an operation that may be, of few bytes, may be written. -/
theorem ops_ok (o : OpT) (h : MayO o) (hL : LightO o) : ∀ p ∈ opPs o, okP p = true := by
  obtain ⟨h1, h2, h3⟩ := h
  obtain ⟨l1, l2⟩ := hL
  have hk : oneOk o.1 255 = true := by
    unfold oneOk
    simp only [Bool.and_eq_true, decide_eq_true_eq]
    rcases h3 with h | h | h | h | h <;> (have := h.1; omega)
  have hp : stampOk o.2.2.2.1.1 o.2.2.2.1.2 = true := by
    rcases h3 with h | h | h | h | h
    · exact stamp_par h.2.2.1
    · exact stamp_par h.2.1
    · rw [h.2.1]; decide
    · rw [h.2.1]; decide
    · rw [h.2.1]; decide
  intro p hp'
  unfold opPs at hp'
  simp only [List.mem_cons, List.not_mem_nil, or_false] at hp'
  rcases hp' with rfl | rfl | rfl | rfl | rfl | rfl
  · exact byte_okP _ _ _ hk
  · exact stamp_okP _ _ _ (stamp_may h1)
  · exact stamp_okP _ _ _ (stamp_may h2)
  · exact stamp_okP _ _ _ hp
  · exact text_okP _ _ _ (by omega)
  · exact text_okP _ _ _ (by omega)

theorem enc_ops_size (ops : List OpT) (h : ∀ o ∈ ops, LightO o) : (encA (ops.flatMap opPs)).size ≤ 426 * ops.length := by
  induction ops with
  | nil => exact Nat.le_refl _
  | cons o l ih =>
    rw [List.flatMap_cons, encA_snoc, ByteArray.size_append, encA_op_sz, List.length_cons]
    have h1 := h o (List.mem_cons_self ..)
    have h2 := ih (fun x hx => h x (List.mem_cons_of_mem _ hx))
    obtain ⟨l1, l2⟩ := h1
    omega

theorem rise_of_sort (ops : List OpT) (h : SortO ops) : RiseO ops := by
  intro k h0 hk
  have := List.pairwise_iff_getElem.1 h (k - 1) k (by omega) hk (by omega)
  rw [oL_get ops (k - 1) (by omega), oL_get ops k hk]
  exact this
end Go.Proofs.YtdmlffbpcjadfaaDoor
