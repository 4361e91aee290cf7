/- Layer 19 on plain data: records put and taken; frames and records taken by the document. Nothing of the program. -/
import Derived.Test.YtkmdajenbidaaaaDoorWiT
namespace Go.Proofs.YtkmdajenbidaaaaDoor
open Go.RowKit
set_option maxRecDepth 100000
set_option linter.unusedSimpArgs false
set_option linter.unusedVariables false

theorem readRh_back (K F C S : Int) (T : ByteArray) (h1 : okP (1, K, 0, ⟨#[]⟩) = true) (h2 : okP (1, F, 0, ⟨#[]⟩) = true) (h3 : okP (2, C, 0, ⟨#[]⟩) = true) (h4 : okP (2, S, 0, ⟨#[]⟩) = true) :
    readRh (encP (1, K, 0, ⟨#[]⟩) ++ (encP (1, F, 0, ⟨#[]⟩) ++ (encP (2, C, 0, ⟨#[]⟩) ++ (encP (2, S, 0, ⟨#[]⟩) ++ T))), 0) = ((T, 0), (K, F, C, S)) := by
  have k1 := backC1 K 0 ⟨#[]⟩ (encP (1, F, 0, ⟨#[]⟩) ++ (encP (2, C, 0, ⟨#[]⟩) ++ (encP (2, S, 0, ⟨#[]⟩) ++ T))) h1
  have k2 := backC1 F 0 ⟨#[]⟩ (encP (2, C, 0, ⟨#[]⟩) ++ (encP (2, S, 0, ⟨#[]⟩) ++ T)) h2
  have k3 := backC2 C 0 ⟨#[]⟩ (encP (2, S, 0, ⟨#[]⟩) ++ T) h3
  have k4 := backC2 S 0 ⟨#[]⟩ T h4
  unfold readRh
  simp only [k1.1, k1.2, k2.1, k2.2, k3.1, k3.2, k4.1, k4.2]

theorem readWr_back (x : Int × ByteArray) (T : ByteArray) (h : ∀ p ∈ wrPs x, okP p = true) (hb : x.2.size = 48) : readWrC (encA (wrPs x) ++ T, 0) = ((T, 0), x) ∧ readWrP (encA (wrPs x) ++ T, 0) = ((T, 0), x) := by
  obtain ⟨a, s⟩ := x
  have e : encA (wrPs (a, s)) ++ T = encP (1, a, 0, ⟨#[]⟩) ++ (encP (4, 0, 0, s) ++ T) := by
    simp only [wrPs, encA, append_mid, ByteArray.empty_append]
  rw [e]
  simp only [wrPs, List.mem_cons, List.not_mem_nil, or_false, forall_eq_or_imp, forall_eq] at h
  obtain ⟨h1, h2⟩ := h
  have k1 := backC1 a 0 ⟨#[]⟩ (encP (4, 0, 0, s) ++ T) h1
  have hb' : s.size = 48 := hb
  have k3 := backC4 0 0 s T 48 (by omega) (by omega)
  have k4 := backQ4 0 0 s T 48 (by omega) (by omega)
  unfold readWrC readWrP
  simp only [k1.1, k1.2, k3, k4]
  exact ⟨trivial, trivial⟩

theorem rcPs_enc (K F C S : Int) (H b : ByteArray) (q : Int) (o : OpT) (l : List (Int × ByteArray)) : encA (rcPs (K, F, C, S, H, o, q, l) b) = encP (1, K, 0, ⟨#[]⟩) ++ (encP (1, F, 0, ⟨#[]⟩) ++ (encP (2, C, 0, ⟨#[]⟩) ++ (encP (2, S, 0, ⟨#[]⟩) ++ (encP (4, 0, 0, H) ++ (encP (4, 0, 0, b) ++ (encP (1, q, 0, ⟨#[]⟩) ++ (encP (1, (l.length : Int), 0, ⟨#[]⟩) ++ encA (l.flatMap wrPs)))))))) := by
  unfold rcPs
  rw [encA_snoc]
  simp only [rcHd, encA, append_mid, ByteArray.empty_append]

theorem readR_back (M : OpT → Bool) (K F C S : Int) (H b : ByteArray) (q : Int) (o : OpT) (l : List (Int × ByteArray)) (h : ∀ p ∈ rcPs (K, F, C, S, H, o, q, l) b, okP p = true) (hH : H.size = 32) (hb : b.size ≤ 4096) (hl : l.length ≤ 6) (hx : ∀ x ∈ l, x.2.size = 48) :
    readRC M (encA (rcPs (K, F, C, S, H, o, q, l) b), 0) = ((ByteArray.empty, 0), (K, F, C, S, H, (takeOpC M b).1, q, l)) ∧ readRP (encA (rcPs (K, F, C, S, H, o, q, l) b), 0) = (l.length, (ByteArray.empty, 0), b, (K, F, C, S, H, op0, q, l)) := by
  have h0 : ∀ p ∈ rcHd K F C S H b q (l.length : Int), okP p = true := fun p hp => h p (List.mem_append.2 (.inl hp))
  have h2 : ∀ p ∈ l.flatMap wrPs, okP p = true := fun p hp => h p (List.mem_append.2 (.inr hp))
  simp only [rcHd, List.mem_cons, List.not_mem_nil, or_false, forall_eq_or_imp, forall_eq] at h0
  obtain ⟨g1, g2, g3, g4, g5, g6, g7, g8⟩ := h0
  rw [rcPs_enc]
  have kh := readRh_back K F C S (encP (4, 0, 0, H) ++ (encP (4, 0, 0, b) ++ (encP (1, q, 0, ⟨#[]⟩) ++ (encP (1, (l.length : Int), 0, ⟨#[]⟩) ++ encA (l.flatMap wrPs))))) g1 g2 g3 g4
  have t1 := backC4 0 0 H (encP (4, 0, 0, b) ++ (encP (1, q, 0, ⟨#[]⟩) ++ (encP (1, (l.length : Int), 0, ⟨#[]⟩) ++ encA (l.flatMap wrPs)))) 32 (by omega) (by omega)
  have t2 := backQ4 0 0 H (encP (4, 0, 0, b) ++ (encP (1, q, 0, ⟨#[]⟩) ++ (encP (1, (l.length : Int), 0, ⟨#[]⟩) ++ encA (l.flatMap wrPs)))) 32 (by omega) (by omega)
  have u1 := backC4 0 0 b (encP (1, q, 0, ⟨#[]⟩) ++ (encP (1, (l.length : Int), 0, ⟨#[]⟩) ++ encA (l.flatMap wrPs))) 65536 (by omega) (by omega)
  have u2 := backQ4 0 0 b (encP (1, q, 0, ⟨#[]⟩) ++ (encP (1, (l.length : Int), 0, ⟨#[]⟩) ++ encA (l.flatMap wrPs))) 4096 (by omega) (by omega)
  have v := backC1 q 0 ⟨#[]⟩ (encP (1, (l.length : Int), 0, ⟨#[]⟩) ++ encA (l.flatMap wrPs)) g7
  have n := backC1 (l.length : Int) 0 ⟨#[]⟩ (encA (l.flatMap wrPs)) g8
  have n2 : (numberP (encP (1, (l.length : Int), 0, ⟨#[]⟩) ++ encA (l.flatMap wrPs), 0) 1).2 = l.length := by have := n.2; omega
  have hp : ∀ x ∈ l, ∀ p ∈ wrPs x, okP p = true := fun x hx' p hp => h2 p (List.mem_flatMap.2 ⟨x, hx', hp⟩)
  have r1 := readLW_back readWrC wrPs l ByteArray.empty (fun x hx' T => (readWr_back x T (hp x hx') (hx x hx')).1)
  have r2 := readLW_back readWrP wrPs l ByteArray.empty (fun x hx' T => (readWr_back x T (hp x hx') (hx x hx')).2)
  rw [ByteArray.append_empty] at r1 r2
  have hm : min l.length 7 = l.length := by omega
  constructor
  · unfold readRC
    simp only [kh, t1, u1, v.1, v.2, n.1, n2, r1]
  · unfold readRP
    simp only [kh, t2, u2, v.1, v.2, n.1, n2, hm, r2]

/-- Of a record that may be: its parts may be, its operation is taken as it was. -/
theorem mayR_ok (M : OpT → Bool) (hM : ∀ o, M o = true ↔ MayO o) {K F C S : Int} {H : ByteArray} {o : OpT} {q : Int} {l : List (Int × ByteArray)} (h : mayRb M (K, F, C, S, H, o, q, l) = true) :
    (∀ p ∈ rcPs (K, F, C, S, H, o, q, l) (putOpP M o).1, okP p = true) ∧ H.size = 32 ∧ (putOpP M o).1.size ≤ 2074 ∧ l.length ≤ 6 ∧ (∀ x ∈ l, x.2.size = 48) ∧ (takeOpC M (putOpP M o).1).1 = o ∧ (¬ (putOpP M o).1.size = 0 ↔ K = 1) ∧ (K = 1 → takeOpC M (putOpP M o).1 = (o, 0)) ∧ (¬ K = 1 → o = op0) := by
  obtain ⟨⟨h1, h2, h3, h4⟩, h5⟩ := mayR_parts h
  have hk : (1 ≤ K ∧ K ≤ 4) ∧ (0 ≤ q ∧ q ≤ 6) ∧ l.length ≤ 6 ∧ (∀ x ∈ l, (0 ≤ x.1 ∧ x.1 ≤ 255) ∧ x.2.size = 48) := by
    rcases h5 with ⟨k1, _, _, k4, k5⟩ | ⟨k1, k2, k3, _, k5, k6, k7⟩
    · refine ⟨by omega, by omega, by omega, fun x hx => ?_⟩
      rw [List.eq_nil_of_length_eq_zero k5] at hx; cases hx
    · refine ⟨by omega, ⟨k5, k6⟩, k7.2, fun x hx => ?_⟩
      obtain ⟨i, hi, e⟩ := List.mem_iff_getElem.1 hx
      have := k7.1 i hi
      unfold OneW at this
      rw [wrL_get l i hi, e] at this
      exact ⟨by omega, this.2.2.1⟩
  have ho : (putOpP M o).1.size ≤ 2074 ∧ (takeOpC M (putOpP M o).1).1 = o ∧ (¬ (putOpP M o).1.size = 0 ↔ K = 1) ∧ (K = 1 → takeOpC M (putOpP M o).1 = (o, 0)) ∧ (¬ K = 1 → o = op0) := by
    rcases h5 with ⟨k1, k2, _, _, _⟩ | ⟨k1, _, _, k4, _, _, _⟩
    · obtain ⟨j1, j2⟩ := may_put M hM o k2
      have j3 := takeC_put M o _ j1
      have j4 := opPs_size o
      rw [j1]
      simp only
      rw [j3]
      exact ⟨j2, rfl, ⟨fun _ => k1, fun _ => by omega⟩, fun _ => by first | rfl | trivial, fun k => absurd k1 k⟩
    · subst k4
      rw [put_op0 M hM]
      simp only
      rw [take_noB M hM]
      exact ⟨by decide, rfl, ⟨fun k => absurd rfl k, fun k => absurd k k1⟩, fun k => absurd k k1, fun _ => by first | trivial | rfl⟩
  refine ⟨?_, h4, ho.1, hk.2.2.1, fun x hx => (hk.2.2.2 x hx).2, ho.2⟩
  intro p hp
  have hp' : p ∈ rcHd K F C S H (putOpP M o).1 q (l.length : Int) ++ l.flatMap wrPs := hp
  rcases List.mem_append.1 hp' with e | e
  · simp only [rcHd, List.mem_cons, List.not_mem_nil, or_false] at e
    rcases e with rfl | rfl | rfl | rfl | rfl | rfl | rfl | rfl
    · exact byte_okP _ _ _ ((oneOk_iff _ _).2 (by omega))
    · exact byte_okP _ _ _ ((oneOk_iff _ _).2 (by omega))
    · rw [num_okP]; exact (oneOk_iff _ _).2 (by omega)
    · rw [num_okP]; exact (oneOk_iff _ _).2 (by omega)
    · exact text_okP _ _ _ (by omega)
    · exact text_okP _ _ _ (by have := ho.1; omega)
    · exact byte_okP _ _ _ ((oneOk_iff _ _).2 (by omega))
    · exact byte_okP _ _ _ ((oneOk_iff _ _).2 (by omega))
  · obtain ⟨x, hx, e⟩ := List.mem_flatMap.1 e
    have := hk.2.2.2 x hx
    simp only [wrPs, List.mem_cons, List.not_mem_nil, or_false] at e
    rcases e with rfl | rfl
    · exact byte_okP _ _ _ ((oneOk_iff _ _).2 (by omega))
    · exact text_okP _ _ _ (by omega)

theorem wrs_size (l : List (Int × ByteArray)) (h : ∀ x ∈ l, x.2.size = 48) : (encA (l.flatMap wrPs)).size = 51 * l.length := by
  induction l with
  | nil => rfl
  | cons x l ih =>
    rw [show (x :: l).flatMap wrPs = wrPs x ++ l.flatMap wrPs from rfl, encA_snoc, ByteArray.size_append, ih (fun y hy => h y (List.mem_cons_of_mem _ hy))]
    have := h x (List.mem_cons_self ..)
    simp only [wrPs, encA, ByteArray.size_append, encP_size19, kd, ps, ByteArray.size_empty, List.length_cons]
    simp
    omega

theorem rcPs_size (K F C S : Int) (H b : ByteArray) (q : Int) (o : OpT) (l : List (Int × ByteArray)) (hH : H.size = 32) (h : ∀ x ∈ l, x.2.size = 48) : (encA (rcPs (K, F, C, S, H, o, q, l) b)).size = 52 + b.size + 51 * l.length := by
  rw [rcPs_enc]
  simp only [ByteArray.size_append, wrs_size l h, encP_size19, kd, ps]
  simp
  omega

/-- A record that may be is put as its parts. -/
theorem mayR_put (M : OpT → Bool) (hM : ∀ o, M o = true ↔ MayO o) (R : RecT) (h : mayRb M R = true) : putRC M R = (encA (rcPs R (putOpP M R.2.2.2.2.2.1).1), 0) ∧ (encA (rcPs R (putOpP M R.2.2.2.2.2.1).1)).size = 52 + (putOpP M R.2.2.2.2.2.1).1.size + 51 * R.2.2.2.2.2.2.2.length := by
  obtain ⟨K, F, C, S, H, o, q, l⟩ := R
  obtain ⟨h1, h2, h3, h4, h5, _⟩ := mayR_ok M hM h
  have hz := rcPs_size K F C S H (putOpP M o).1 q o l h2 h5
  exact ⟨putB_fit _ _ h h1 (by show (encA (rcPs (K, F, C, S, H, o, q, l) (putOpP M o).1)).size ≤ _; omega), hz⟩

/-- What the code takes is what was put; so does the document. -/
theorem takeR_put (M : OpT → Bool) (hM : ∀ o, M o = true ↔ MayO o) (R : RecT) (s : ByteArray) (h : putRC M R = (s, 0)) : takeRC M s = (R, 0) ∧ takeRP M s = (R, 0) := by
  obtain ⟨h1, h2, h3⟩ := putB_inv _ _ s h
  obtain ⟨K, F, C, S, H, o, q, l⟩ := R
  obtain ⟨k1, k2, k3, k4, k5, k6, k7, k8, k9⟩ := mayR_ok M hM h1
  have hr := readR_back M K F C S H (putOpP M o).1 q o l k1 k2 (by omega) k4 k5
  have h3' : s = encA (rcPs (K, F, C, S, H, o, q, l) (putOpP M o).1) := h3
  rw [← h3', k6] at hr
  constructor
  · unfold takeRC
    rw [hr.1]
    simp only
    rw [h, if_neg (by simp)]
  · have hts : takeOpP M (putOpP M o).1 = takeOpC M (putOpP M o).1 := (take_same M _ (by omega) (fun o' ho' => may_few ((hM o').1 ho'))).symm
    unfold takeRP
    rw [hr.2]
    simp only [hts, withOp]
    by_cases hk : K = 1
    · rw [k8 hk]
      have hb : ¬ (putOpP M o).1.size = 0 := k7.2 hk
      rw [if_neg (fun k => k.2 rfl), if_neg hb, if_neg]
      rintro (e | e | e | e)
      · exact e rfl
      · exact e rfl
      · rw [h1] at e; cases e
      · exact e ⟨fun _ => hk, fun _ => hb⟩
    · have hb : (putOpP M o).1.size = 0 := Classical.byContradiction fun k => hk (k7.1 k)
      rw [if_neg (fun k => k.1 hb), if_pos hb]
      obtain rfl := k9 hk
      rw [if_neg]
      rintro (e | e | e | e)
      · exact e rfl
      · exact e rfl
      · rw [h1] at e; cases e
      · exact e ⟨fun k => absurd hb k, fun k => absurd k hk⟩

theorem takeRC_none (M : OpT → Bool) (s : ByteArray) (h : ∀ R, putRC M R ≠ (s, 0)) : takeRC M s = (rec0, 190) := by
  unfold takeRC
  rw [if_pos]
  by_cases h1 : (putRC M (readRC M (s, 0)).2).2 = 0
  · refine .inr fun h2 => h _ (Prod.ext h2 h1)
  · exact .inl h1

theorem takeRC_inv (M : OpT → Bool) (s : ByteArray) (h : (takeRC M s).2 = 0) : putRC M (takeRC M s).1 = (s, 0) := by
  unfold takeRC at h ⊢
  by_cases hc : (putRC M (readRC M (s, 0)).2).2 ≠ 0 ∨ (putRC M (readRC M (s, 0)).2).1 ≠ s
  · rw [if_pos hc] at h; cases h
  · rw [if_neg hc]
    exact Prod.ext (Classical.byContradiction fun k => hc (.inr k)) (Classical.byContradiction fun k => hc (.inl k))

theorem inDone_zero (i : ByteArray × Int) (h : inDoneP i = 0) : i.2 = 0 ∧ i.1 = ByteArray.empty := by
  unfold inDoneP at h
  by_cases hz : i.2 = 0 ∧ ¬ i.1.size = 0
  · rw [if_pos hz] at h; cases h
  · rw [if_neg hz] at h
    have h0 : i.1.size = 0 := Classical.byContradiction fun k => hz ⟨h, k⟩
    exact ⟨h, bt_ext _ _ (by rw [h0]; rfl) (fun i hi => by omega)⟩

theorem byte_inv (i : ByteArray × Int) (h : (numberP i 1).1.2 = 0) : i.2 = 0 ∧ i.1 = encP (1, ((numberP i 1).2 : Int), 0, ⟨#[]⟩) ++ (numberP i 1).1.1 ∧ okP (1, ((numberP i 1).2 : Int), 0, ⟨#[]⟩) = true := by
  obtain ⟨a1, a2, a3⟩ := number_inv _ 1 h
  refine ⟨a1, by rw [enc1]; exact a2, byte_okP _ _ _ ((oneOk_iff _ _).2 (by omega))⟩

theorem numI_inv (i : ByteArray × Int) (h : (inNumP i).1.2 = 0) : i.2 = 0 ∧ i.1 = encP (2, ((inNumP i).2 : Int), 0, ⟨#[]⟩) ++ (inNumP i).1.1 ∧ okP (2, ((inNumP i).2 : Int), 0, ⟨#[]⟩) = true := by
  obtain ⟨a1, a2, a3⟩ := inNum_inv _ h
  refine ⟨a1, by rw [enc2]; exact a2, by rw [num_okP]; exact (oneOk_iff _ _).2 (by omega)⟩

theorem textI_inv (i : ByteArray × Int) (most : Int) (h : (inTextP i most).1.2 = 0) : i.2 = 0 ∧ i.1 = encP (4, 0, 0, (inTextP i most).2) ++ (inTextP i most).1.1 ∧ okP (4, 0, 0, (inTextP i most).2) = true := by
  obtain ⟨a1, a2, a3, _⟩ := inText_inv _ _ h
  exact ⟨a1, by rw [enc4]; exact a2, text_okP _ _ _ a3⟩

theorem readWr_inv (i : ByteArray × Int) (h : (readWrP i).1.2 = 0) : i.2 = 0 ∧ i.1 = encA (wrPs (readWrP i).2) ++ (readWrP i).1.1 ∧ ∀ p ∈ wrPs (readWrP i).2, okP p = true := by
  unfold readWrP at h ⊢
  simp only at h ⊢
  obtain ⟨a1, a2, a3⟩ := textI_inv _ _ h
  obtain ⟨b1, b2, b3⟩ := byte_inv _ a1
  refine ⟨b1, ?_, ?_⟩
  · rw [b2, a2]
    simp only [wrPs, encA, append_mid, ByteArray.empty_append]
  · intro p hp
    simp only [wrPs, List.mem_cons, List.not_mem_nil, or_false] at hp
    rcases hp with rfl | rfl
    · exact b3
    · exact a3

theorem readIt_inv (i : ByteArray × Int) (h : (readItP i).1.2 = 0) : i.2 = 0 ∧ i.1 = encA (itPs (readItP i).2) ++ (readItP i).1.1 ∧ ∀ p ∈ itPs (readItP i).2, okP p = true := by
  unfold readItP at h ⊢
  simp only at h ⊢
  obtain ⟨a1, a2, a3⟩ := textI_inv _ _ h
  obtain ⟨b1, b2, b3⟩ := numI_inv _ a1
  obtain ⟨c1, c2, c3⟩ := numI_inv _ b1
  refine ⟨c1, ?_, ?_⟩
  · simp only [itPs, encA, append_mid, ByteArray.empty_append]
    rw [← a2, ← b2, ← c2]
  · intro p hp
    simp only [itPs, List.mem_cons, List.not_mem_nil, or_false] at hp
    rcases hp with rfl | rfl | rfl
    · exact c3
    · exact b3
    · exact a3

theorem readHd_inv (i : ByteArray × Int) (h : (readHd i).1.2 = 0) : i.2 = 0 ∧ i.1 = encP (1, (readHd i).2.1, 0, ⟨#[]⟩) ++ (encP (2, (readHd i).2.2.1, 0, ⟨#[]⟩) ++ (encP (2, (readHd i).2.2.2.1, 0, ⟨#[]⟩) ++ (encP (2, (readHd i).2.2.2.2.1, 0, ⟨#[]⟩) ++ (encP (2, (readHd i).2.2.2.2.2.1, 0, ⟨#[]⟩) ++ (encP (2, (readHd i).2.2.2.2.2.2, 0, ⟨#[]⟩) ++ (readHd i).1.1))))) ∧ okP (1, (readHd i).2.1, 0, ⟨#[]⟩) = true ∧ okP (2, (readHd i).2.2.1, 0, ⟨#[]⟩) = true ∧ okP (2, (readHd i).2.2.2.1, 0, ⟨#[]⟩) = true ∧ okP (2, (readHd i).2.2.2.2.1, 0, ⟨#[]⟩) = true ∧ okP (2, (readHd i).2.2.2.2.2.1, 0, ⟨#[]⟩) = true ∧ okP (2, (readHd i).2.2.2.2.2.2, 0, ⟨#[]⟩) = true := by
  unfold readHd at h ⊢
  simp only at h ⊢
  obtain ⟨a1, a2, a3⟩ := numI_inv _ h
  obtain ⟨b1, b2, b3⟩ := numI_inv _ a1
  obtain ⟨c1, c2, c3⟩ := numI_inv _ b1
  obtain ⟨d1, d2, d3⟩ := numI_inv _ c1
  obtain ⟨e1, e2, e3⟩ := numI_inv _ d1
  obtain ⟨f1, f2, f3⟩ := byte_inv _ e1
  exact ⟨f1, by rw [← a2, ← b2, ← c2, ← d2, ← e2, ← f2], f3, e3, d3, c3, b3, a3⟩

theorem readRh_inv (i : ByteArray × Int) (h : (readRh i).1.2 = 0) : i.2 = 0 ∧ i.1 = encP (1, (readRh i).2.1, 0, ⟨#[]⟩) ++ (encP (1, (readRh i).2.2.1, 0, ⟨#[]⟩) ++ (encP (2, (readRh i).2.2.2.1, 0, ⟨#[]⟩) ++ (encP (2, (readRh i).2.2.2.2, 0, ⟨#[]⟩) ++ (readRh i).1.1))) ∧ okP (1, (readRh i).2.1, 0, ⟨#[]⟩) = true ∧ okP (1, (readRh i).2.2.1, 0, ⟨#[]⟩) = true ∧ okP (2, (readRh i).2.2.2.1, 0, ⟨#[]⟩) = true ∧ okP (2, (readRh i).2.2.2.2, 0, ⟨#[]⟩) = true := by
  unfold readRh at h ⊢
  simp only at h ⊢
  obtain ⟨a1, a2, a3⟩ := numI_inv _ h
  obtain ⟨b1, b2, b3⟩ := numI_inv _ a1
  obtain ⟨c1, c2, c3⟩ := byte_inv _ b1
  obtain ⟨d1, d2, d3⟩ := byte_inv _ c1
  exact ⟨d1, by rw [← a2, ← b2, ← c2, ← d2], d3, c3, b3, a3⟩

theorem frPs_enc (K G S E M : Int) (bl : ByteArray) (it : List (Int × Int × ByteArray)) (er : Int) : encA (frPs (K, G, S, E, M, bl, it, er)) = encP (1, K, 0, ⟨#[]⟩) ++ (encP (2, G, 0, ⟨#[]⟩) ++ (encP (2, S, 0, ⟨#[]⟩) ++ (encP (2, E, 0, ⟨#[]⟩) ++ (encP (2, M, 0, ⟨#[]⟩) ++ (encP (2, er, 0, ⟨#[]⟩) ++ (encP (4, 0, 0, bl) ++ (encP (1, (it.length : Int), 0, ⟨#[]⟩) ++ encA (it.flatMap itPs)))))))) := by
  unfold frPs
  rw [encA_snoc]
  simp only [frHd, encA, append_mid, ByteArray.empty_append]

/-- What the document reads stands there, as many items as are told. -/
theorem readFP_inv (s : ByteArray) (h : (readFP (s, 0)).2.1.2 = 0) (hn : (readFP (s, 0)).2.2.2.2.2.2.2.2.1.length = (readFP (s, 0)).1) : s = encA (frPs (readFP (s, 0)).2.2) ++ (readFP (s, 0)).2.1.1 ∧ ∀ p ∈ frPs (readFP (s, 0)).2.2, okP p = true := by
  unfold readFP at h hn ⊢
  simp only at h hn ⊢
  rw [frPs_enc]
  obtain ⟨a1, a2, a3⟩ := readLW_inv readItP itPs readIt_inv _ _ h
  obtain ⟨b1, b2, b3⟩ := byte_inv _ a1
  obtain ⟨c1, c2, c3⟩ := textI_inv _ _ b1
  obtain ⟨d1, d2, d3, d4, d5, d6, d7, d8⟩ := readHd_inv _ c1
  rw [hn]
  refine ⟨?_, ?_⟩
  · simp only [append_mid]
    rw [← a2, ← b2, ← c2, ← d2]
  · intro p hp
    have hp' : p ∈ frHd (_, _, _, _, _, _, _, _) ++ _ := hp
    rcases List.mem_append.1 hp' with e | e
    · simp only [frHd, List.mem_cons, List.not_mem_nil, or_false] at e
      rcases e with rfl | rfl | rfl | rfl | rfl | rfl | rfl | rfl
      · exact d3
      · exact d4
      · exact d5
      · exact d6
      · exact d7
      · exact d8
      · exact c3
      · rw [hn]; exact b3
    · exact a3 p e

/-- The code and the document take the same frames. -/
theorem takeF_same (s : ByteArray) (hs : s.size ≤ 65536) : takeFC s = takeFP s := by
  by_cases h : ∃ F, putFC F = (s, 0)
  · obtain ⟨F, hF⟩ := h
    rw [takeFC_put F s hF]
    obtain ⟨h1, h2, h3⟩ := putB_inv _ _ s hF
    obtain ⟨k1, k2, k3, k4⟩ := mayC_parts h1
    have hr := (readF_back F h2 k2 k3).2
    rw [← h3] at hr
    unfold takeFP
    rw [hr]
    simp only
    rw [if_neg]
    rintro (e | e | e | e)
    · exact e rfl
    · exact e rfl
    · omega
    · unfold mayFb at e
      rw [h1, Bool.true_and, List.all_eq_false] at e
      obtain ⟨p, hp, e⟩ := e
      exact e (h2 p hp)
  · rw [takeFC_none s (fun F hF => h ⟨F, hF⟩)]
    unfold takeFP
    by_cases hc : inDoneP (readFP (s, 0)).2.1 ≠ 0 ∨ (readFP (s, 0)).2.2.2.2.2.2.2.2.1.length ≠ (readFP (s, 0)).1 ∨ 65536 < s.size ∨ mayFb (readFP (s, 0)).2.2 = false
    · rw [if_pos hc]
    · exfalso
      obtain ⟨k1, k2⟩ := inDone_zero (readFP (s, 0)).2.1 (Classical.byContradiction fun k => hc (.inl k))
      obtain ⟨j1, j2⟩ := readFP_inv s k1 (Classical.byContradiction fun k => hc (.inr (.inl k)))
      rw [k2, ByteArray.append_empty] at j1
      have hm : mayCb (readFP (s, 0)).2.2 = true := by
        cases hb : mayFb (readFP (s, 0)).2.2 with
        | false => exact absurd (.inr (.inr (.inr hb))) hc
        | true => unfold mayFb at hb; exact (Bool.and_eq_true _ _ ▸ hb).1
      have hf := putB_fit (mayCb (readFP (s, 0)).2.2) (frPs (readFP (s, 0)).2.2) hm j2 (by rw [← j1]; exact hs)
      rw [← j1] at hf
      exact h ⟨_, hf⟩

/-- What the document reads of a record stands there, as many wraps as are told. -/
theorem readRP_inv (s : ByteArray) (h : (readRP (s, 0)).2.1.2 = 0) (hn : (readRP (s, 0)).2.2.2.2.2.2.2.2.2.2.length = (readRP (s, 0)).1) (o : OpT) : s = encA (rcPs (withOp (readRP (s, 0)).2.2.2 o) (readRP (s, 0)).2.2.1) ++ (readRP (s, 0)).2.1.1 ∧ ∀ p ∈ rcPs (withOp (readRP (s, 0)).2.2.2 o) (readRP (s, 0)).2.2.1, okP p = true := by
  unfold readRP withOp at *
  simp only at h hn ⊢
  rw [rcPs_enc]
  obtain ⟨a1, a2, a3⟩ := readLW_inv readWrP wrPs readWr_inv _ _ h
  obtain ⟨b1, b2, b3⟩ := byte_inv _ a1
  obtain ⟨c1, c2, c3⟩ := byte_inv _ b1
  obtain ⟨d1, d2, d3⟩ := textI_inv _ _ c1
  obtain ⟨e1, e2, e3⟩ := textI_inv _ _ d1
  obtain ⟨f1, f2, f3, f4, f5, f6⟩ := readRh_inv _ e1
  rw [hn]
  refine ⟨?_, ?_⟩
  · simp only [append_mid]
    rw [← a2, ← b2, ← c2, ← d2, ← e2, ← f2]
  · intro p hp
    have hp' : p ∈ rcHd _ _ _ _ _ _ _ _ ++ _ := hp
    rcases List.mem_append.1 hp' with e | e
    · simp only [rcHd, List.mem_cons, List.not_mem_nil, or_false] at e
      rcases e with rfl | rfl | rfl | rfl | rfl | rfl | rfl | rfl
      · exact f3
      · exact f4
      · exact f5
      · exact f6
      · exact e3
      · exact d3
      · exact c3
      · rw [hn]; exact b3
    · exact a3 p e

/-- The code and the document take the same records. -/
theorem takeR_same (M : OpT → Bool) (hM : ∀ o, M o = true ↔ MayO o) (s : ByteArray) (hs : s.size ≤ 65536) : takeRC M s = takeRP M s := by
  by_cases h : ∃ R, putRC M R = (s, 0)
  · obtain ⟨R, hR⟩ := h
    obtain ⟨h1, h2⟩ := takeR_put M hM R s hR
    rw [h1, h2]
  · rw [takeRC_none M s (fun R hR => h ⟨R, hR⟩)]
    unfold takeRP
    by_cases h0 : ¬ (readRP (s, 0)).2.2.1.size = 0 ∧ ¬ (takeOpP M (readRP (s, 0)).2.2.1).2 = 0
    · rw [if_pos h0]
    · rw [if_neg h0]
      obtain ⟨o, ho⟩ : ∃ o, (if (readRP (s, 0)).2.2.1.size = 0 then op0 else (takeOpP M (readRP (s, 0)).2.2.1).1) = o := ⟨_, rfl⟩
      rw [ho]
      by_cases hc : inDoneP (readRP (s, 0)).2.1 ≠ 0 ∨ (readRP (s, 0)).2.2.2.2.2.2.2.2.2.2.length ≠ (readRP (s, 0)).1 ∨ mayRb M (withOp (readRP (s, 0)).2.2.2 o) = false ∨ ¬ (¬ (readRP (s, 0)).2.2.1.size = 0 ↔ (readRP (s, 0)).2.2.2.1 = 1)
      · rw [if_pos hc]
      · exfalso
        obtain ⟨k1, k2⟩ := inDone_zero (readRP (s, 0)).2.1 (Classical.byContradiction fun k => hc (.inl k))
        obtain ⟨j1, j2⟩ := readRP_inv s k1 (Classical.byContradiction fun k => hc (.inr (.inl k))) o
        rw [k2, ByteArray.append_empty] at j1
        have hm : mayRb M (withOp (readRP (s, 0)).2.2.2 o) = true := by
          cases hb : mayRb M (withOp (readRP (s, 0)).2.2.2 o) with
          | false => exact absurd (.inr (.inr (.inl hb))) hc
          | true => rfl
        have hbo : (putOpP M o).1 = (readRP (s, 0)).2.2.1 := by
          by_cases hz : (readRP (s, 0)).2.2.1.size = 0
          · rw [if_pos hz] at ho
            rw [← ho, put_op0 M hM]
            exact (bt_ext _ _ (by rw [hz]; rfl) (fun i hi => absurd hi (Nat.not_lt_zero i)))
          · rw [if_neg hz] at ho
            have hz2 : (takeOpP M (readRP (s, 0)).2.2.1).2 = 0 := Classical.byContradiction fun k => h0 ⟨hz, k⟩
            have hsz : (readRP (s, 0)).2.2.1.size ≤ 65536 := by
              have := j2 (4, 0, 0, (readRP (s, 0)).2.2.1) (List.mem_append.2 (.inl (by simp [rcHd])))
              rw [text_okQ, decide_eq_true_eq] at this
              omega
            have hts : takeOpP M (readRP (s, 0)).2.2.1 = takeOpC M (readRP (s, 0)).2.2.1 := (take_same M _ hsz (fun o' ho' => may_few ((hM o').1 ho'))).symm
            rw [hts] at ho hz2
            have := takeC_inv M _ hz2
            rw [ho] at this
            rw [this]
        have hf := putB_fit (mayRb M (withOp (readRP (s, 0)).2.2.2 o)) (rcPs (withOp (readRP (s, 0)).2.2.2 o) (readRP (s, 0)).2.2.1) hm j2 (by rw [← j1]; exact hs)
        rw [← j1, ← hbo] at hf
        exact h ⟨_, hf⟩

end Go.Proofs.YtkmdajenbidaaaaDoor
