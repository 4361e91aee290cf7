import Derived.Test.YtogbkfakihnbdaaGreatDoorSnL
/- What the document takes of bytes, beside what the code takes, on plain data (layer 13). -/
namespace Go.Proofs.YtogbkfakihnbdaaGreatDoor
open Go.RowKit
set_option linter.unusedSimpArgs false

theorem runeK_few (s : ByteArray) : runeK (oneP s) ≤ 4 := by
  unfold oneP oneTail
  split
  · show 1 ≤ 4; omega
  · repeat' split
    all_goals (simp [runeK])

theorem posR_few (s : ByteArray) : ∀ k, posR s k ≤ 4 * k := by
  intro k
  induction k with
  | zero => exact Nat.le_refl _
  | succ k ih =>
    by_cases h : posR s k < s.size
    · rw [posR_succ s k h]
      unfold nextR
      have := runeK_few (restB s (posR s k))
      omega
    · rw [posR_stop s k h]; omega

theorem name_few (s : ByteArray) (h : NameP s) : s.size ≤ 128 := by
  have h1 := posR_few s (countR s)
  rw [pos_count] at h1
  have := h.2.2
  omega

theorem may_few {o : OpT} (h : MayO o) : o.2.2.2.2.1.size ≤ 1024 ∧ o.2.2.2.2.2.size ≤ 1024 := by
  obtain ⟨_, _, h⟩ := h
  rcases h with ⟨_, _, _, h4, h5⟩ | ⟨_, _, h4, h5⟩ | ⟨_, _, h4, h5⟩ | ⟨_, _, h4, h5⟩ | ⟨_, _, h4, h5⟩
  · have := name_few _ h4; omega
  · omega
  · have := name_few _ h4; omega
  · omega
  · omega

/-- What the document reads as a node. -/
def readNdP (i : ByteArray × Int) : (ByteArray × Int) × NodeT :=
  ((inTextP (inTextP (inStampP (inStampP i).1).1 1024).1 1024).1,
   ((inStampP i).2, (inStampP (inStampP i).1).2, (inTextP (inStampP (inStampP i).1).1 1024).2, (inTextP (inTextP (inStampP (inStampP i).1).1 1024).1 1024).2))

theorem readNd_inv (i : ByteArray × Int) (h : (readNdP i).1.2 = 0) : i.2 = 0 ∧ i.1 = encA (ndPs (readNdP i).2) ++ (readNdP i).1.1 ∧ ∀ p ∈ ndPs (readNdP i).2, okP p = true := by
  unfold readNdP at h ⊢
  simp only at h ⊢
  obtain ⟨a1, a2, a3, _⟩ := inText_inv _ _ h
  obtain ⟨b1, b2, b3, _⟩ := inText_inv _ _ a1
  obtain ⟨c1, c2, c3⟩ := inStamp_inv _ b1
  obtain ⟨d1, d2, d3⟩ := inStamp_inv _ c1
  refine ⟨d1, ?_, ?_⟩
  · rw [d2, c2, b2, a2]
    unfold ndPs
    simp only [encA, enc1, enc3, enc4, append_mid, ByteArray.append_empty, ByteArray.empty_append]
  · intro p hp
    unfold ndPs at hp
    simp only [List.mem_cons, List.not_mem_nil, or_false] at hp
    rcases hp with rfl | rfl | rfl | rfl
    · exact stamp_okP _ _ _ d3
    · exact stamp_okP _ _ _ c3
    · exact text_okP _ _ _ b3
    · exact text_okP _ _ _ a3

theorem readNdP_back (x : NodeT) (T : ByteArray) (h : ∀ p ∈ ndPs x, okP p = true) (hs : x.2.2.1.size ≤ 1024) (ht : x.2.2.2.size ≤ 1024) : readNdP (encA (ndPs x) ++ T, 0) = ((T, 0), x) := by
  obtain ⟨⟨a1, a2⟩, ⟨p1, p2⟩, s, t⟩ := x
  unfold ndPs at h
  simp only [List.forall_mem_cons] at h
  simp only at hs ht
  obtain ⟨h1, h2, h3, h4, _⟩ := h
  have e : encA (ndPs ((a1, a2), (p1, p2), s, t)) ++ T = encP (3, a1, a2, ⟨#[]⟩) ++ (encP (3, p1, p2, ⟨#[]⟩) ++ (encP (4, 0, 0, s) ++ (encP (4, 0, 0, t) ++ T))) := by
    unfold ndPs
    simp only [encA, append_mid, ByteArray.append_empty, ByteArray.empty_append]
  rw [e]
  unfold readNdP
  rw [backP3 a1 a2 _ _ h1]
  simp only
  rw [backP3 p1 p2 _ _ h2]
  simp only
  rw [backP4 0 0 s _ hs]
  simp only
  rw [backP4 0 0 t _ ht]

/-- So many, one behind the other. -/
def readLS {α : Type} (rd : ByteArray × Int → (ByteArray × Int) × α) : Nat → ByteArray × Int → (ByteArray × Int) × List α
  | 0, i => (i, [])
  | k + 1, i => ((rd (readLS rd k i).1).1, (readLS rd k i).2 ++ [(rd (readLS rd k i).1).2])

theorem readLS_len {α : Type} (rd : ByteArray × Int → (ByteArray × Int) × α) (i : ByteArray × Int) : ∀ k, (readLS rd k i).2.length = k := by
  intro k
  induction k with
  | zero => rfl
  | succ k ih => show ((readLS rd k i).2 ++ [_]).length = _; rw [List.length_append, ih]; rfl

theorem readLS_size {α : Type} (rd : ByteArray × Int → (ByteArray × Int) × α) (hr : ∀ i, (rd i).1.1.size ≤ i.1.size) (i : ByteArray × Int) : ∀ k, (readLS rd k i).1.1.size ≤ i.1.size := by
  intro k
  induction k with
  | zero => exact Nat.le_refl _
  | succ k ih => exact Nat.le_trans (hr _) ih

theorem readLS_inv {α : Type} (rd : ByteArray × Int → (ByteArray × Int) × α) (ps : α → List (Int × Int × Int × ByteArray)) (hi : ∀ i, (rd i).1.2 = 0 → i.2 = 0 ∧ i.1 = encA (ps (rd i).2) ++ (rd i).1.1 ∧ ∀ p ∈ ps (rd i).2, okP p = true) (i : ByteArray × Int) : ∀ k, (readLS rd k i).1.2 = 0 → i.2 = 0 ∧ i.1 = encA ((readLS rd k i).2.flatMap ps) ++ (readLS rd k i).1.1 ∧ ∀ p ∈ (readLS rd k i).2.flatMap ps, okP p = true := by
  intro k
  induction k with
  | zero =>
    intro h
    refine ⟨h, ?_, fun p hp => absurd hp List.not_mem_nil⟩
    show i.1 = ByteArray.empty ++ i.1
    rw [ByteArray.empty_append]
  | succ k ih =>
    intro h
    obtain ⟨h1, h2, h3⟩ := hi (readLS rd k i).1 h
    obtain ⟨k1, k2, k3⟩ := ih h1
    have e : (readLS rd (k + 1) i).2.flatMap ps = (readLS rd k i).2.flatMap ps ++ ps (rd (readLS rd k i).1).2 := by
      show ((readLS rd k i).2 ++ [(rd (readLS rd k i).1).2]).flatMap ps = _
      rw [List.flatMap_append, List.flatMap_cons, List.flatMap_nil, List.append_nil]
    refine ⟨k1, ?_, ?_⟩
    · rw [e, encA_snoc, append_mid]
      show i.1 = encA ((readLS rd k i).2.flatMap ps) ++ (encA (ps (rd (readLS rd k i).1).2) ++ (rd (readLS rd k i).1).1.1)
      rw [← h2]
      exact k2
    · rw [e]
      intro p hp
      rcases List.mem_append.1 hp with hp | hp
      · exact k3 p hp
      · exact h3 p hp

theorem readLS_back {α : Type} (rd : ByteArray × Int → (ByteArray × Int) × α) (ps : α → List (Int × Int × Int × ByteArray)) (l : List α) (hb : ∀ x ∈ l, ∀ T, rd (encA (ps x) ++ T, 0) = ((T, 0), x)) (T : ByteArray) : ∀ k, k ≤ l.length → readLS rd k (encA (l.flatMap ps) ++ T, 0) = ((encA ((l.drop k).flatMap ps) ++ T, 0), l.take k) := by
  intro k
  induction k with
  | zero => intro _; rfl
  | succ k ih =>
    intro hk
    have h := ih (by omega)
    have hd : l.drop k = l[k] :: l.drop (k + 1) := (List.drop_eq_getElem_cons (by omega))
    have h2 := hb l[k] (List.getElem_mem _) (encA ((l.drop (k + 1)).flatMap ps) ++ T)
    rw [hd, List.flatMap_cons, encA_snoc, append_mid] at h
    show ((rd (readLS rd k (encA (l.flatMap ps) ++ T, 0)).1).1, (readLS rd k (encA (l.flatMap ps) ++ T, 0)).2 ++ [(rd (readLS rd k (encA (l.flatMap ps) ++ T, 0)).1).2]) = _
    rw [h]
    simp only
    rw [h2]
    simp only
    rw [List.take_add_one, List.getElem?_eq_getElem (by omega)]
    rfl

/-- The document's reading of a tree, step by step. -/
def sN (s : ByteArray) : (ByteArray × Int) × Nat := inNumP (inStampP (s, 0)).1
def sL (s : ByteArray) : (ByteArray × Int) × List NodeT := readLS readNdP (min (sN s).2 513) (sN s).1
def sM (s : ByteArray) : (ByteArray × Int) × Nat := inNumP (sL s).1
def sO (s : ByteArray) : (ByteArray × Int) × List OpT := readLS readOpP (min (sM s).2 513) (sM s).1
def readSD (s : ByteArray) : TreeT := ((sL s).2, (sO s).2, (inStampP (s, 0)).2)
def OkSD (s : ByteArray) : Prop := inDoneP (sO s).1 = 0 ∧ (sL s).2.length = (sN s).2 ∧ (sO s).2.length = (sM s).2 ∧ s.size ≤ 65536

theorem enc2 (n : Int) (a : Int) (s : ByteArray) : encP (2, n, a, s) = bigB n 6 := by
  unfold encP kd pn
  rw [if_neg (by simp), if_pos rfl]

theorem num_okP (n : Nat) (h : n ≤ 1099511627775) : okP (2, (n : Int), 0, ⟨#[]⟩) = true := by
  unfold okP kd pn
  rw [if_neg (by simp), if_pos rfl]
  unfold oneOk
  simp only [Bool.and_eq_true, decide_eq_true_eq]
  omega

/-- What the document reads stands there. -/
theorem readSD_inv (s : ByteArray) (h : OkSD s) : s = encA (snPs (readSD s)) ∧ ∀ p ∈ snPs (readSD s), okP p = true := by
  obtain ⟨h1, h2, h3, _⟩ := h
  unfold inDoneP at h1
  by_cases hz : (sO s).1.2 = 0 ∧ ¬ (sO s).1.1.size = 0
  · rw [if_pos hz] at h1; cases h1
  · rw [if_neg hz] at h1
    have h0 : (sO s).1.1.size = 0 := Classical.byContradiction fun k => hz ⟨h1, k⟩
    have e0 : (sO s).1.1 = ByteArray.empty := bt_ext _ _ (by rw [h0]; rfl) (fun i hi => by omega)
    have eO : readLS readOpP (min (sM s).2 513) (sM s).1 = sO s := rfl
    have eM : inNumP (sL s).1 = sM s := rfl
    have eL : readLS readNdP (min (sN s).2 513) (sN s).1 = sL s := rfl
    have eN : inNumP (inStampP (s, 0)).1 = sN s := rfl
    have a := readLS_inv readOpP opPs readOp_inv (sM s).1 (min (sM s).2 513)
    rw [eO] at a
    obtain ⟨a1, a2, a3⟩ := a h1
    have b := inNum_inv (sL s).1
    rw [eM] at b
    obtain ⟨b1, b2', b3⟩ := b a1
    have c := readLS_inv readNdP ndPs readNd_inv (sN s).1 (min (sN s).2 513)
    rw [eL] at c
    obtain ⟨c1, c2', c3⟩ := c b1
    have d := inNum_inv (inStampP (s, 0)).1
    rw [eN] at d
    obtain ⟨d1, d2', d3⟩ := d c1
    obtain ⟨f1, f2', f3⟩ := inStamp_inv (s, 0) d1
    have a2' : (sM s).1.1 = encA ((sO s).2.flatMap opPs) := by
      rw [e0, ByteArray.append_empty] at a2
      exact a2
    have f2'' : s = (bigB (inStampP (s, 0)).2.1 6 ++ bigB (inStampP (s, 0)).2.2 1) ++ (inStampP (s, 0)).1.1 := f2'
    clear a b c d eO eM eL eN
    refine ⟨?_, ?_⟩
    · unfold snPs readSD
      simp only [encA, encA_snoc, List.cons_append, append_mid, enc3, enc2]
      rw [h2, h3, ← a2', ← b2', ← c2', ← d2', ← append_mid]
      exact f2''
    · intro p hp
      unfold snPs readSD at hp
      simp only [List.mem_cons, List.mem_append] at hp
      rcases hp with rfl | (rfl | hp) | (rfl | hp)
      · exact stamp_okP _ _ _ f3
      · rw [h2]; exact num_okP _ d3
      · exact c3 p hp
      · rw [h3]; exact num_okP _ b3
      · exact a3 p hp

/-- What was written is read by the document as it was. -/
theorem readSD_back (t : TreeT) (h : ∀ p ∈ snPs t, okP p = true) (hl : t.1.length ≤ 513) (ho : t.2.1.length ≤ 513) (hN : ∀ x ∈ t.1, x.2.2.1.size ≤ 1024 ∧ x.2.2.2.size ≤ 1024) (hO : ∀ o ∈ t.2.1, o.2.2.2.2.1.size ≤ 1024 ∧ o.2.2.2.2.2.size ≤ 1024) (s : ByteArray) (hs : s = encA (snPs t)) (hz : s.size ≤ 65536) : readSD s = t ∧ OkSD s := by
  obtain ⟨l, ops, b1, b2⟩ := t
  simp only at hl ho hN hO
  have e : s = encP (3, b1, b2, ⟨#[]⟩) ++ (encP (2, (l.length : Int), 0, ⟨#[]⟩) ++ (encA (l.flatMap ndPs) ++ (encP (2, (ops.length : Int), 0, ⟨#[]⟩) ++ (encA (ops.flatMap opPs) ++ ByteArray.empty)))) := by
    rw [hs, ByteArray.append_empty]
    unfold snPs
    simp only [encA, encA_snoc, append_mid, List.cons_append]
  unfold snPs at h
  have h1 : okP (3, b1, b2, ⟨#[]⟩) = true := h _ (List.mem_cons_self ..)
  have h2 : okP (2, (l.length : Int), 0, ⟨#[]⟩) = true := h _ (List.mem_cons_of_mem _ (List.mem_append_left _ (List.mem_cons_self ..)))
  have h3 : ∀ p ∈ l.flatMap ndPs, okP p = true := fun p hp => h _ (List.mem_cons_of_mem _ (List.mem_append_left _ (List.mem_cons_of_mem _ hp)))
  have h4 : okP (2, (ops.length : Int), 0, ⟨#[]⟩) = true := h _ (List.mem_cons_of_mem _ (List.mem_append_right _ (List.mem_cons_self ..)))
  have h5 : ∀ p ∈ ops.flatMap opPs, okP p = true := fun p hp => h _ (List.mem_cons_of_mem _ (List.mem_append_right _ (List.mem_cons_of_mem _ hp)))
  have k1 : inStampP (s, 0) = ((encP (2, (l.length : Int), 0, ⟨#[]⟩) ++ (encA (l.flatMap ndPs) ++ (encP (2, (ops.length : Int), 0, ⟨#[]⟩) ++ (encA (ops.flatMap opPs) ++ ByteArray.empty))), 0), (b1, b2)) := by
    rw [e]; exact backP3 b1 b2 ⟨#[]⟩ _ h1
  have k2 : sN s = ((encA (l.flatMap ndPs) ++ (encP (2, (ops.length : Int), 0, ⟨#[]⟩) ++ (encA (ops.flatMap opPs) ++ ByteArray.empty)), 0), l.length) := by
    unfold sN
    rw [k1]
    exact backC2 l.length 0 ⟨#[]⟩ _ h2
  have k3 : sL s = ((encP (2, (ops.length : Int), 0, ⟨#[]⟩) ++ (encA (ops.flatMap opPs) ++ ByteArray.empty), 0), l) := by
    unfold sL
    rw [k2]
    simp only
    rw [show min l.length 513 = l.length by omega, readLS_back readNdP ndPs l (fun x hx T => readNdP_back x T (fun p hp => h3 p (List.mem_flatMap.2 ⟨x, hx, hp⟩)) (hN x hx).1 (hN x hx).2) _ l.length (Nat.le_refl _), List.drop_length, List.take_length, List.flatMap_nil]
    show ((ByteArray.empty ++ _, _), _) = _
    rw [ByteArray.empty_append]
  have k4 : sM s = ((encA (ops.flatMap opPs) ++ ByteArray.empty, 0), ops.length) := by
    unfold sM
    rw [k3]
    exact backC2 ops.length 0 ⟨#[]⟩ _ h4
  have k5 : sO s = ((ByteArray.empty, 0), ops) := by
    unfold sO
    rw [k4]
    simp only
    rw [show min ops.length 513 = ops.length by omega, readLS_back readOpP opPs ops (fun x hx T => readOpP_back x T (fun p hp => h5 p (List.mem_flatMap.2 ⟨x, hx, hp⟩)) (hO x hx).1 (hO x hx).2) _ ops.length (Nat.le_refl _), List.drop_length, List.take_length, List.flatMap_nil]
    show ((ByteArray.empty ++ _, _), _) = _
    rw [ByteArray.empty_append]
  refine ⟨?_, ?_, ?_, ?_, hz⟩
  · unfold readSD
    rw [k1, k3, k5]
  · rw [k5]; rfl
  · rw [k3, k2]
  · rw [k5, k4]

theorem enc_ops_least (ops : List OpT) : 26 * ops.length ≤ (encA (ops.flatMap opPs)).size := by
  induction ops with
  | nil => simp
  | cons o ops ih =>
    rw [List.flatMap_cons, encA_snoc, ByteArray.size_append, encA_op_sz, List.length_cons]
    omega

theorem mem_nLQ (l : List NodeT) (x : NodeT) (h : x ∈ l) : ∃ i, i < l.length ∧ x = nL l i := by
  obtain ⟨i, hi, e⟩ := List.getElem_of_mem h
  refine ⟨i, hi, ?_⟩
  unfold nL
  rw [List.getD_eq_getElem?_getD, List.getElem?_eq_getElem hi, e]; rfl

/-- The test that the code puts to a tree's nodes. -/
def FixT (t : TreeT) : Prop := t.1.length ≤ 512 ∧ RiseN t.1 ∧ (∀ k, k < t.1.length → FixH t.2.2 (nL t.1 k)) ∧ FixC t.1

theorem put_zero (M : OpT → Bool) (D E : Bool) (t : TreeT) (s : ByteArray) (h : putSP M D E t = (s, 0)) : (codeP M D t).2 = 0 ∧ D = true ∧ E = true := by
  have hc : (codeP M D t).2 = 0 ∧ E = true := by
    unfold putSP at h
    by_cases hc : (codeP M D t).2 ≠ 0 ∨ E = false
    · rw [if_pos hc] at h; cases h
    · refine ⟨Classical.byContradiction fun e => hc (.inl e), ?_⟩
      cases E with
      | true => rfl
      | false => exact absurd (.inr rfl) hc
  refine ⟨hc.1, ?_, hc.2⟩
  cases D with
  | true => rfl
  | false =>
    have := hc.1
    unfold codeP at this
    by_cases hb : t.2.2 ≠ (0, 0) ∧ ¬ MayS t.2.2
    · rw [if_pos hb] at this; cases this
    · rw [if_neg hb] at this; simp at this

theorem ofF_may (M : OpT → Bool) : ∀ (q : List OpT) (t T : TreeT), ofF M q t = (T, 0) → ∀ o ∈ q, M o = true := by
  intro q
  induction q with
  | nil => intro t T _ o h; exact absurd h List.not_mem_nil
  | cons o q ih =>
    intro t T h x hx
    rw [ofF_join] at h
    by_cases h0 : (joinP M t o).2 = 0
    · rw [if_neg (by simp [h0])] at h
      rcases List.mem_cons.1 hx with rfl | hx
      · exact (join_inv M t _ h0).2.1
      · exact ih _ _ h x hx
    · rw [if_pos h0] at h
      exact absurd (congrArg Prod.snd h) h0

theorem code_ops (M : OpT → Bool) (D : Bool) (t : TreeT) (h : (codeP M D t).2 = 0) : ∀ o ∈ t.2.1, M o = true := by
  unfold codeP at h
  by_cases hb : t.2.2 ≠ (0, 0) ∧ ¬ MayS t.2.2
  · rw [if_pos hb] at h; cases h
  · rw [if_neg hb] at h
    by_cases h2 : D = false
    · rw [if_pos h2] at h; cases h
    · rw [if_neg h2] at h
      exact ofF_may M t.2.1 (t.1, [], t.2.2) _ (Prod.ext rfl h)

/-- The code and the document take the same. -/
theorem takes_same (M : OpT → Bool) (hM : ∀ o, M o = true ↔ MayO o) (s : ByteArray) (hs : s.size ≤ 2048) (D E Dd Ed : Bool) (hD : D = true ↔ FixT (readSC s)) (hE : E = true ↔ RiseO (readSC s).2.1) (hDd : Dd = true ↔ FixT (readSD s)) (hEd : Ed = true ↔ RiseO (readSD s).2.1) :
    (putSP M D E (readSC s) = (s, 0) ↔ (OkSD s ∧ (codeP M Dd (readSD s)).2 = 0 ∧ Ed = true)) ∧ (putSP M D E (readSC s) = (s, 0) → readSD s = readSC s) := by
  have toD : putSP M D E (readSC s) = (s, 0) → readSD s = readSC s ∧ OkSD s ∧ (codeP M Dd (readSD s)).2 = 0 ∧ Ed = true := fun h => by
    obtain ⟨hok, he⟩ := putS_inv M D E _ s h
    obtain ⟨hc, hDt, hEt⟩ := put_zero M D E _ s h
    have hfix := hD.1 hDt
    have hmo := code_ops M D _ hc
    obtain ⟨t, ht⟩ : ∃ t, readSC s = t := ⟨_, rfl⟩
    rw [ht] at hok he hc hfix hmo hE hD ⊢
    have hlen : t.2.1.length ≤ 513 := by
      have h1 := enc_ops_least t.2.1
      have h2 : (encA (t.2.1.flatMap opPs)).size ≤ s.size := by
        rw [he]
        unfold snPs
        simp only [encA, encA_snoc, List.cons_append, ByteArray.size_append]
        omega
      omega
    obtain ⟨k1, k2⟩ := readSD_back t hok (by have := hfix.1; omega) hlen (fun x hx => by
      obtain ⟨k, hk, rfl⟩ := mem_nLQ _ x hx
      obtain ⟨_, _, q3, q4⟩ := hfix.2.2.1 k hk
      have := name_few _ q3
      omega) (fun o ho => may_few ((hM o).1 (hmo o ho))) s he (by omega)
    have hDD : Dd = D := by
      rw [k1] at hDd
      rw [hDt]; exact hDd.2 hfix
    refine ⟨k1, k2, by rw [k1, hDD]; exact hc, ?_⟩
    rw [k1] at hEd
    exact hEd.2 (hE.1 hEt)
  refine ⟨⟨fun h => (toD h).2, fun h => ?_⟩, fun h => (toD h).1⟩
  obtain ⟨h1, h2, h3⟩ := h
  obtain ⟨k1, k2⟩ := readSD_inv s h1
  obtain ⟨t, ht⟩ : ∃ t, readSD s = t := ⟨_, rfl⟩
  rw [ht] at k1 k2 h2 hDd hEd
  have hr : readSC s = t := by
    have h := (readS_back t ⟨#[]⟩ k2).1
    rw [show encA (snPs t) ++ (⟨#[]⟩ : ByteArray) = encA (snPs t) from ByteArray.append_empty, ← k1] at h
    exact h
  rw [hr] at hD hE ⊢
  have hDD : D = Dd := by
    cases D with
    | true => exact (hDd.2 (hD.1 rfl)).symm
    | false =>
      cases Dd with
      | false => rfl
      | true => exact hD.2 (hDd.1 rfl)
  rw [hDD]
  have hf := putS_fit M Dd E t h2 (hE.2 (hEd.1 h3)) k2 (by rw [← k1]; exact h1.2.2.2)
  rw [← k1] at hf
  exact hf
end Go.Proofs.YtogbkfakihnbdaaGreatDoor
