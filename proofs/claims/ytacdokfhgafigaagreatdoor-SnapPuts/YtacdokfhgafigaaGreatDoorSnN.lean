import Derived.Test.YtacdokfhgafigaaGreatDoorSnK
import Derived.Test.YtacdokfhgafigaaGreatDoorTrOg
import Derived.Test.YtacdokfhgafigaaGreatDoorP11
/- A tree as bytes, there and back, on plain data (layer 13). -/
namespace Go.Proofs.YtacdokfhgafigaaGreatDoor
open Go.RowKit
set_option linter.unusedSimpArgs false

theorem readNdC_back (x : NodeT) (T : ByteArray) (h : ∀ p ∈ ndPs x, okP p = true) : readNdC (encA (ndPs x) ++ T, 0) = ((T, 0), x) := by
  obtain ⟨⟨a1, a2⟩, ⟨p1, p2⟩, s, t⟩ := x
  unfold ndPs at h
  simp only [List.forall_mem_cons] at h
  obtain ⟨h1, h2, h3, h4, _⟩ := h
  have e : encA (ndPs ((a1, a2), (p1, p2), s, t)) ++ T = encP (3, a1, a2, ⟨#[]⟩) ++ (encP (3, p1, p2, ⟨#[]⟩) ++ (encP (4, 0, 0, s) ++ (encP (4, 0, 0, t) ++ T))) := by
    unfold ndPs
    simp only [encA, append_mid, ByteArray.append_empty, ByteArray.empty_append]
  rw [e]
  unfold readNdC
  rw [back3 (3, a1, a2, ⟨#[]⟩) _ rfl h1]
  simp only
  rw [back3 (3, p1, p2, ⟨#[]⟩) _ rfl h2]
  simp only
  rw [back4 (4, 0, 0, s) _ (by simp [kd]) (by simp [kd]) (by simp [kd]) h3]
  simp only
  rw [back4 (4, 0, 0, t) _ (by simp [kd]) (by simp [kd]) (by simp [kd]) h4]
  rfl

theorem encA_nd_pos (x : NodeT) : 0 < (encA (ndPs x)).size := by
  unfold ndPs
  simp only [encA, enc1, enc3, enc4, ByteArray.size_append, bigB_size, ByteArray.size_empty]
  omega

theorem encA_op_sz (o : OpT) : (encA (opPs o)).size = 26 + o.2.2.2.2.1.size + o.2.2.2.2.2.size := by
  unfold opPs
  simp only [encA, enc1, enc3, enc4, ByteArray.size_append, bigB_size, ByteArray.size_empty]
  omega

theorem readLC_back {α : Type} (rd : ByteArray × Int → (ByteArray × Int) × α) (ps : α → List (Int × Int × Int × ByteArray)) (hb : ∀ x T, (∀ p ∈ ps x, okP p = true) → rd (encA (ps x) ++ T, 0) = ((T, 0), x)) (hp : ∀ x, 0 < (encA (ps x)).size) : ∀ (l : List α) (T : ByteArray), (∀ p ∈ l.flatMap ps, okP p = true) → readLC rd l.length (encA (l.flatMap ps) ++ T, 0) = ((T, 0), l) := by
  intro l
  induction l with
  | nil =>
    intro T _
    show readLC rd 0 (ByteArray.empty ++ T, 0) = _
    rw [ByteArray.empty_append]
    rfl
  | cons x l ih =>
    intro T h
    rw [List.flatMap_cons] at h ⊢
    have h1 := hb x (encA (l.flatMap ps) ++ T) (fun p hp => h p (List.mem_append_left _ hp))
    have h2 := ih T (fun p hp => h p (List.mem_append_right _ hp))
    rw [encA_snoc, append_mid, List.length_cons]
    unfold readLC
    rw [if_neg (by simp only [ByteArray.size_append]; have := hp x; omega), h1]
    simp only
    rw [h2]

/-- What is left behind a tree. -/
def readSR (s : ByteArray) : ByteArray × Int :=
  (readLC readOpC (inNumP (readLC readNdC (inNumP (inStampC (s, 0)).1).2 (inNumP (inStampC (s, 0)).1).1).1).2 (inNumP (readLC readNdC (inNumP (inStampC (s, 0)).1).2 (inNumP (inStampC (s, 0)).1).1).1).1).1

theorem backC2 (n : Nat) (a : Int) (s T : ByteArray) (h : okP (2, (n : Int), a, s) = true) : inNumP (encP (2, (n : Int), a, s) ++ T, 0) = ((T, 0), n) := by
  obtain ⟨N, h1, h2⟩ := back2 (2, (n : Int), a, s) T rfl h
  rw [h1]
  have : (N : Int) = (n : Int) := h2
  have : N = n := by omega
  rw [this]

theorem readS_back (t : TreeT) (T : ByteArray) (h : ∀ p ∈ snPs t, okP p = true) : readSC (encA (snPs t) ++ T) = t ∧ readSR (encA (snPs t) ++ T) = (T, 0) := by
  obtain ⟨l, ops, b1, b2⟩ := t
  have e : encA (snPs (l, ops, b1, b2)) ++ T = encP (3, b1, b2, ⟨#[]⟩) ++ (encP (2, (l.length : Int), 0, ⟨#[]⟩) ++ (encA (l.flatMap ndPs) ++ (encP (2, (ops.length : Int), 0, ⟨#[]⟩) ++ (encA (ops.flatMap opPs) ++ T)))) := by
    unfold snPs
    simp only [encA, encA_snoc, append_mid, List.cons_append]
  unfold snPs at h
  have h1 : okP (3, b1, b2, ⟨#[]⟩) = true := h _ (List.mem_cons_self ..)
  have h2 : okP (2, (l.length : Int), 0, ⟨#[]⟩) = true := h _ (List.mem_cons_of_mem _ (List.mem_append_left _ (List.mem_cons_self ..)))
  have h3 : ∀ p ∈ l.flatMap ndPs, okP p = true := fun p hp => h _ (List.mem_cons_of_mem _ (List.mem_append_left _ (List.mem_cons_of_mem _ hp)))
  have h4 : okP (2, (ops.length : Int), 0, ⟨#[]⟩) = true := h _ (List.mem_cons_of_mem _ (List.mem_append_right _ (List.mem_cons_self ..)))
  have h5 : ∀ p ∈ ops.flatMap opPs, okP p = true := fun p hp => h _ (List.mem_cons_of_mem _ (List.mem_append_right _ (List.mem_cons_of_mem _ hp)))
  have k1 := back3 (3, b1, b2, ⟨#[]⟩) (encP (2, (l.length : Int), 0, ⟨#[]⟩) ++ (encA (l.flatMap ndPs) ++ (encP (2, (ops.length : Int), 0, ⟨#[]⟩) ++ (encA (ops.flatMap opPs) ++ T)))) rfl h1
  have k2 := backC2 l.length 0 ⟨#[]⟩ (encA (l.flatMap ndPs) ++ (encP (2, (ops.length : Int), 0, ⟨#[]⟩) ++ (encA (ops.flatMap opPs) ++ T))) h2
  have k3 := readLC_back readNdC ndPs readNdC_back encA_nd_pos l (encP (2, (ops.length : Int), 0, ⟨#[]⟩) ++ (encA (ops.flatMap opPs) ++ T)) h3
  have k4 := backC2 ops.length 0 ⟨#[]⟩ (encA (ops.flatMap opPs) ++ T) h4
  have k5 := readLC_back readOpC opPs readOpC_back (fun o => by rw [encA_op_sz]; omega) ops T h5
  rw [e]
  unfold readSC readSR
  simp only [k1, k2, k3, k4, k5]
  exact ⟨rfl, trivial⟩

theorem putS_inv (M : OpT → Bool) (D E : Bool) (t : TreeT) (s : ByteArray) (h : putSP M D E t = (s, 0)) : (∀ p ∈ snPs t, okP p = true) ∧ s = encA (snPs t) := by
  unfold putSP at h
  by_cases hc : (codeP M D t).2 ≠ 0 ∨ E = false
  · rw [if_pos hc] at h; cases h
  · rw [if_neg hc] at h
    unfold doneQ at h
    by_cases hb : (writeA (⟨#[]⟩, false) (snPs t)).2 = true
    · rw [if_pos hb] at h; cases h
    · rw [if_neg hb] at h
      have hb' : (writeA (⟨#[]⟩, false) (snPs t)).2 = false := by
        cases hw : (writeA (⟨#[]⟩, false) (snPs t)).2 with
        | false => rfl
        | true => exact absurd hw hb
      obtain ⟨h1, h2⟩ := writeA_ok _ _ hb'
      refine ⟨h1, ?_⟩
      have h3 : (writeA (⟨#[]⟩, false) (snPs t)).1 = s := congrArg Prod.fst h
      rw [← h3, h2]
      exact ByteArray.empty_append

theorem enc_ops_size (ops : List OpT) (h : ∀ o ∈ ops, LightO o) : (encA (ops.flatMap opPs)).size ≤ 426 * ops.length := by
  induction ops with
  | nil => exact Nat.le_refl _
  | cons o l ih =>
    rw [List.flatMap_cons, encA_snoc, ByteArray.size_append, encA_op_sz, List.length_cons]
    have h1 := h o (List.mem_cons_self ..)
    have h2 := ih (fun x hx => h x (List.mem_cons_of_mem _ hx))
    obtain ⟨l1, l2⟩ := h1
    omega

end Go.Proofs.YtacdokfhgafigaaGreatDoor

/- The tree of any operations, up to a stamp for good, is one that is put (layer 13, plain). -/
namespace Go.Proofs.YtacdokfhgafigaaGreatDoor
open Go.RowKit
set_option linter.unusedSimpArgs false

theorem enc_nds_size (l : List NodeT) (h : ∀ x ∈ l, x.2.2.1.size ≤ 200 ∧ x.2.2.2.size ≤ 64) : (encA (l.flatMap ndPs)).size ≤ 282 * l.length := by
  induction l with
  | nil => exact Nat.le_refl _
  | cons x l ih =>
    have hz : (encA (ndPs x)).size = 18 + x.2.2.1.size + x.2.2.2.size := by
      unfold ndPs
      simp only [encA, enc1, enc3, enc4, ByteArray.size_append, bigB_size, ByteArray.size_empty]
      omega
    rw [List.flatMap_cons, encA_snoc, ByteArray.size_append, hz, List.length_cons]
    have h1 := h x (List.mem_cons_self ..)
    have h2 := ih (fun y hy => h y (List.mem_cons_of_mem _ hy))
    omega

/-- What is asked of a tree that is to be put. -/
structure MayPut (M : OpT → Bool) (T : TreeT) : Prop where
  fix : T.1.length ≤ 512 ∧ RiseN T.1 ∧ (∀ k, k < T.1.length → FixH T.2.2 (nL T.1 k)) ∧ FixC T.1
  rise : RiseO T.2.1
  ok : ∀ p ∈ snPs T, okP p = true
  put : putSP M true true T = (encA (snPs T), 0)
  size : (encA (snPs T)).size ≤ 65536
  few : T.1.length ≤ 30 ∧ T.2.1.length ≤ 30
  szN : ∀ k, k < T.1.length → (nL T.1 k).2.2.1.size ≤ 1048576 ∧ (nL T.1 k).2.2.2.size ≤ 9223372036854775807
  szO : ∀ k, k < T.2.1.length → (oL T.2.1 k).2.2.2.2.1.size ≤ 1048576 ∧ (oL T.2.1 k).2.2.2.2.2.size ≤ 9223372036854775807

end Go.Proofs.YtacdokfhgafigaaGreatDoor
