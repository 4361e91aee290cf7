import Derived.Test.YtogbkfakihnbdaaGreatDoorTrOg
import Derived.Test.YtogbkfakihnbdaaGreatDoorSnK
import Derived.Test.YtogbkfakihnbdaaGreatDoorP11
/- A tree's own snapshot makes it again, on plain data (layer 11). -/
namespace Go.Proofs.YtogbkfakihnbdaaGreatDoor
open Go.RowKit

theorem join_inv (M : OpT → Bool) (t : TreeT) (o : OpT) (h : (joinP M t o).2 = 0) : (joinP M t o).1 = (t.1, putO o t.2.1, t.2.2) ∧ M o = true ∧ LessS t.2.2 o.2.1 := by
  unfold joinP at h ⊢
  by_cases hd : dupO o.2.1 t.2.1 = true
  · rw [if_pos hd] at h; cases h
  · rw [if_neg hd] at h ⊢
    unfold applyP at h ⊢
    by_cases h1 : M o = false ∨ ¬ LessS t.2.2 o.2.1
    · rw [if_pos h1] at h; cases h
    · rw [if_neg h1, if_neg hd] at h ⊢
      by_cases h2 : 512 ≤ t.2.1.length ∨ (o.1 = 1 ∧ 512 ≤ t.1.length + creO t.2.1)
      · rw [if_pos h2] at h; cases h
      · rw [if_neg h2]
        refine ⟨rfl, ?_, Classical.byContradiction fun h => h1 (.inr h)⟩
        cases hm : M o with
        | true => rfl
        | false => exact absurd (.inl hm) h1

end Go.Proofs.YtogbkfakihnbdaaGreatDoor

/- A tree as bytes, there and back, on plain data (layer 13). -/
namespace Go.Proofs.YtogbkfakihnbdaaGreatDoor
open Go.RowKit
set_option linter.unusedSimpArgs false

theorem readNdC_back (x : NodeT) (T : ByteArray) (h : ∀ p ∈ ndPs x, okP p = true) : readNdC (encA (ndPs x) ++ T, 0) = ((T, 0), x) := by
  obtain ⟨⟨a1, a2⟩, ⟨p1, p2⟩, s, t⟩ := x
  unfold ndPs at h
  simp only [List.forall_mem_cons] at h
  obtain ⟨h1, h2, h3, h4, _⟩ := h
  have e : encA (ndPs ((a1, a2), (p1, p2), s, t)) ++ T = encP (3, a1, a2, ⟨#[]⟩) ++ (encP (3, p1, p2, ⟨#[]⟩) ++ (encP (4, 0, 0, s) ++ (encP (4, 0, 0, t) ++ T))) := by
    unfold ndPs
    simp only [encA, append_mid, ByteArray.append_empty, ByteArray.empty_append]
  rw [e]
  unfold readNdC
  rw [back3 (3, a1, a2, ⟨#[]⟩) _ rfl h1]
  simp only
  rw [back3 (3, p1, p2, ⟨#[]⟩) _ rfl h2]
  simp only
  rw [back4 (4, 0, 0, s) _ (by simp [kd]) (by simp [kd]) (by simp [kd]) h3]
  simp only
  rw [back4 (4, 0, 0, t) _ (by simp [kd]) (by simp [kd]) (by simp [kd]) h4]
  rfl

theorem encA_nd_pos (x : NodeT) : 0 < (encA (ndPs x)).size := by
  unfold ndPs
  simp only [encA, enc1, enc3, enc4, ByteArray.size_append, bigB_size, ByteArray.size_empty]
  omega

theorem encA_op_sz (o : OpT) : (encA (opPs o)).size = 26 + o.2.2.2.2.1.size + o.2.2.2.2.2.size := by
  unfold opPs
  simp only [encA, enc1, enc3, enc4, ByteArray.size_append, bigB_size, ByteArray.size_empty]
  omega

theorem readLC_back {α : Type} (rd : ByteArray × Int → (ByteArray × Int) × α) (ps : α → List (Int × Int × Int × ByteArray)) (hb : ∀ x T, (∀ p ∈ ps x, okP p = true) → rd (encA (ps x) ++ T, 0) = ((T, 0), x)) (hp : ∀ x, 0 < (encA (ps x)).size) : ∀ (l : List α) (T : ByteArray), (∀ p ∈ l.flatMap ps, okP p = true) → readLC rd l.length (encA (l.flatMap ps) ++ T, 0) = ((T, 0), l) := by
  intro l
  induction l with
  | nil =>
    intro T _
    show readLC rd 0 (ByteArray.empty ++ T, 0) = _
    rw [ByteArray.empty_append]
    rfl
  | cons x l ih =>
    intro T h
    rw [List.flatMap_cons] at h ⊢
    have h1 := hb x (encA (l.flatMap ps) ++ T) (fun p hp => h p (List.mem_append_left _ hp))
    have h2 := ih T (fun p hp => h p (List.mem_append_right _ hp))
    rw [encA_snoc, append_mid, List.length_cons]
    unfold readLC
    rw [if_neg (by simp only [ByteArray.size_append]; have := hp x; omega), h1]
    simp only
    rw [h2]

/-- What is left behind a tree. -/
def readSR (s : ByteArray) : ByteArray × Int :=
  (readLC readOpC (inNumP (readLC readNdC (inNumP (inStampC (s, 0)).1).2 (inNumP (inStampC (s, 0)).1).1).1).2 (inNumP (readLC readNdC (inNumP (inStampC (s, 0)).1).2 (inNumP (inStampC (s, 0)).1).1).1).1).1

theorem backC2 (n : Nat) (a : Int) (s T : ByteArray) (h : okP (2, (n : Int), a, s) = true) : inNumP (encP (2, (n : Int), a, s) ++ T, 0) = ((T, 0), n) := by
  obtain ⟨N, h1, h2⟩ := back2 (2, (n : Int), a, s) T rfl h
  rw [h1]
  have : (N : Int) = (n : Int) := h2
  have : N = n := by omega
  rw [this]

theorem readS_back (t : TreeT) (T : ByteArray) (h : ∀ p ∈ snPs t, okP p = true) : readSC (encA (snPs t) ++ T) = t ∧ readSR (encA (snPs t) ++ T) = (T, 0) := by
  obtain ⟨l, ops, b1, b2⟩ := t
  have e : encA (snPs (l, ops, b1, b2)) ++ T = encP (3, b1, b2, ⟨#[]⟩) ++ (encP (2, (l.length : Int), 0, ⟨#[]⟩) ++ (encA (l.flatMap ndPs) ++ (encP (2, (ops.length : Int), 0, ⟨#[]⟩) ++ (encA (ops.flatMap opPs) ++ T)))) := by
    unfold snPs
    simp only [encA, encA_snoc, append_mid, List.cons_append]
  unfold snPs at h
  have h1 : okP (3, b1, b2, ⟨#[]⟩) = true := h _ (List.mem_cons_self ..)
  have h2 : okP (2, (l.length : Int), 0, ⟨#[]⟩) = true := h _ (List.mem_cons_of_mem _ (List.mem_append_left _ (List.mem_cons_self ..)))
  have h3 : ∀ p ∈ l.flatMap ndPs, okP p = true := fun p hp => h _ (List.mem_cons_of_mem _ (List.mem_append_left _ (List.mem_cons_of_mem _ hp)))
  have h4 : okP (2, (ops.length : Int), 0, ⟨#[]⟩) = true := h _ (List.mem_cons_of_mem _ (List.mem_append_right _ (List.mem_cons_self ..)))
  have h5 : ∀ p ∈ ops.flatMap opPs, okP p = true := fun p hp => h _ (List.mem_cons_of_mem _ (List.mem_append_right _ (List.mem_cons_of_mem _ hp)))
  have k1 := back3 (3, b1, b2, ⟨#[]⟩) (encP (2, (l.length : Int), 0, ⟨#[]⟩) ++ (encA (l.flatMap ndPs) ++ (encP (2, (ops.length : Int), 0, ⟨#[]⟩) ++ (encA (ops.flatMap opPs) ++ T)))) rfl h1
  have k2 := backC2 l.length 0 ⟨#[]⟩ (encA (l.flatMap ndPs) ++ (encP (2, (ops.length : Int), 0, ⟨#[]⟩) ++ (encA (ops.flatMap opPs) ++ T))) h2
  have k3 := readLC_back readNdC ndPs readNdC_back encA_nd_pos l (encP (2, (ops.length : Int), 0, ⟨#[]⟩) ++ (encA (ops.flatMap opPs) ++ T)) h3
  have k4 := backC2 ops.length 0 ⟨#[]⟩ (encA (ops.flatMap opPs) ++ T) h4
  have k5 := readLC_back readOpC opPs readOpC_back (fun o => by rw [encA_op_sz]; omega) ops T h5
  rw [e]
  unfold readSC readSR
  simp only [k1, k2, k3, k4, k5]
  exact ⟨rfl, trivial⟩

theorem putS_inv (M : OpT → Bool) (D E : Bool) (t : TreeT) (s : ByteArray) (h : putSP M D E t = (s, 0)) : (∀ p ∈ snPs t, okP p = true) ∧ s = encA (snPs t) := by
  unfold putSP at h
  by_cases hc : (codeP M D t).2 ≠ 0 ∨ E = false
  · rw [if_pos hc] at h; cases h
  · rw [if_neg hc] at h
    unfold doneQ at h
    by_cases hb : (writeA (⟨#[]⟩, false) (snPs t)).2 = true
    · rw [if_pos hb] at h; cases h
    · rw [if_neg hb] at h
      have hb' : (writeA (⟨#[]⟩, false) (snPs t)).2 = false := by
        cases hw : (writeA (⟨#[]⟩, false) (snPs t)).2 with
        | false => rfl
        | true => exact absurd hw hb
      obtain ⟨h1, h2⟩ := writeA_ok _ _ hb'
      refine ⟨h1, ?_⟩
      have h3 : (writeA (⟨#[]⟩, false) (snPs t)).1 = s := congrArg Prod.fst h
      rw [← h3, h2]
      exact ByteArray.empty_append

theorem putS_fit (M : OpT → Bool) (D E : Bool) (t : TreeT) (hc : (codeP M D t).2 = 0) (hE : E = true) (h : ∀ p ∈ snPs t, okP p = true) (hn : (encA (snPs t)).size ≤ 65536) : putSP M D E t = (encA (snPs t), 0) := by
  unfold putSP
  have e := writeA_fit (snPs t) ⟨#[]⟩ h (by show 0 + _ ≤ _; omega)
  rw [if_neg (by rw [hc, hE]; simp), e]
  unfold doneQ
  rw [if_neg (by simp)]
  show (ByteArray.empty ++ _, _) = _
  rw [ByteArray.empty_append]

end Go.Proofs.YtogbkfakihnbdaaGreatDoor
