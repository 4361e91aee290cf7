/- Layer 9 on plain data: what was written is read by the code's In, part by part; what is cut is too short. -/
import Derived.Test.YtmpjhflbmngajaaCdL
namespace Go.Proofs.Ytmpjhflbmngajaa
open Go.RowKit
set_option linter.unusedSimpArgs false

theorem back_rest {E T : ByteArray} {n : Nat} (hE : E.size = n) : (E ++ T).extract n (E ++ T).size = T := by
  have h := (PreB.refl (E ++ T)).rest n hE (by rw [ByteArray.size_append]; omega)
  exact h.whole (by rw [ByteArray.size_extract, ByteArray.size_append]; omega)
theorem back1 (p : Int × Int × Int × ByteArray) (T : ByteArray) (h : kd p = 1) (hok : okP p = true) : ∃ N : Nat, numberP (encP p ++ T, 0) 1 = ((T, 0), N) ∧ (N : Int) = pn p := by
  have e1 : encP p = bigB (pn p) 1 := by unfold encP; rw [if_pos h]
  have e2 : oneOk (pn p) 255 = true := by unfold okP at hok; rwa [if_pos h] at hok
  obtain ⟨N, hN, hl⟩ := oneOk_nat _ _ e2
  refine ⟨N, ?_, hN.symm⟩
  rw [e1, hN]
  rcases number_pre (bigB (N : Int) 1 ++ T) T N 1 (by omega) (PreB.refl _) with ⟨h1, _⟩ | ⟨_, h2, _⟩
  · rw [ByteArray.size_append, bigB_size] at h1; omega
  · rw [h2, back_rest (bigB_size _ _)]
theorem back2 (p : Int × Int × Int × ByteArray) (T : ByteArray) (h : kd p = 2) (hok : okP p = true) : ∃ N : Nat, inNumP (encP p ++ T, 0) = ((T, 0), N) ∧ (N : Int) = pn p := by
  have e1 : encP p = bigB (pn p) 6 := by unfold encP; rw [if_neg (by omega), if_pos h]
  have e2 : oneOk (pn p) 1099511627775 = true := by unfold okP at hok; rwa [if_neg (by omega), if_pos h] at hok
  obtain ⟨N, hN, hl⟩ := oneOk_nat _ _ e2
  refine ⟨N, ?_, hN.symm⟩
  rw [e1, hN]
  rcases inNum_pre (bigB (N : Int) 6 ++ T) T N (by omega) (PreB.refl _) with ⟨h1, _⟩ | ⟨_, h2, _⟩
  · rw [ByteArray.size_append, bigB_size] at h1; omega
  · rw [h2, back_rest (bigB_size _ _)]
theorem back3 (p : Int × Int × Int × ByteArray) (T : ByteArray) (h : kd p = 3) (hok : okP p = true) : inStampC (encP p ++ T, 0) = ((T, 0), (pn p, pm p)) := by
  have e1 : encP p = bigB (pn p) 6 ++ bigB (pm p) 1 := by unfold encP; rw [if_neg (by omega), if_neg (by omega), if_pos h]
  have e2 : stampOk (pn p) (pm p) = true := by unfold okP at hok; rwa [if_neg (by omega), if_neg (by omega), if_pos h] at hok
  unfold stampOk at e2
  rw [Bool.and_eq_true] at e2
  obtain ⟨N, hN, hl⟩ := oneOk_nat _ _ e2.1
  obtain ⟨U, hU, hu⟩ := oneOk_nat _ _ e2.2
  have hz : (bigB (N : Int) 6 ++ bigB (U : Int) 1).size = 7 := by rw [ByteArray.size_append, bigB_size, bigB_size]
  rw [stampC_long _ (by rw [e1, hN, hU, ByteArray.size_append, hz]; omega), e1, hN, hU]
  rcases inStamp_pre ((bigB (N : Int) 6 ++ bigB (U : Int) 1) ++ T) T N U (by omega) (by omega) (PreB.refl _) with ⟨h1, _⟩ | ⟨_, h2, _⟩
  · rw [ByteArray.size_append, hz] at h1; omega
  · rw [h2, back_rest hz]
theorem text_sameP (t : ByteArray) (most : Int) : inTextC (t, 0) most = inTextP (t, 0) most := by
  apply text_same
  intro e h
  unfold numberP at h ⊢
  by_cases hc : (t, (0 : Int)).2 ≠ 0 ∨ (t, (0 : Int)).1.size < 2
  · rw [if_pos hc]
    show wrongP (wrongP (t, 0) 90) e = wrongP (t, 0) 90
    unfold wrongP
    rw [if_pos rfl, if_neg (by decide)]
  · rw [if_neg hc] at h
    exact absurd rfl h
theorem back4 (p : Int × Int × Int × ByteArray) (T : ByteArray) (h1 : kd p ≠ 1) (h2 : kd p ≠ 2) (h3 : kd p ≠ 3) (hok : okP p = true) : inTextC (encP p ++ T, 0) 65536 = ((T, 0), ps p) := by
  have e1 : encP p = bigB ((ps p).size : Int) 2 ++ ps p := by unfold encP; rw [if_neg h1, if_neg h2, if_neg h3]
  have e2 : (ps p).size ≤ 65535 := by unfold okP at hok; rw [if_neg h1, if_neg h2, if_neg h3] at hok; exact of_decide_eq_true hok
  have hz : (bigB ((ps p).size : Int) 2 ++ ps p).size = 2 + (ps p).size := by rw [ByteArray.size_append, bigB_size]
  rw [text_sameP, e1]
  rcases inText_pre ((bigB ((ps p).size : Int) 2 ++ ps p) ++ T) T (ps p) 65536 e2 (by omega) (PreB.refl _) with ⟨k1, _⟩ | ⟨_, k2, _⟩
  · rw [ByteArray.size_append, hz] at k1; omega
  · rw [k2, back_rest hz]
theorem encA_drop (l : List (Int × Int × Int × ByteArray)) (k : Nat) (hk : k < l.length) : encA (l.drop k) = encP (ptL l k) ++ encA (l.drop (k + 1)) := by
  rw [List.drop_eq_getElem_cons hk]
  unfold ptL
  rw [List.getD_eq_getElem?_getD, List.getElem?_eq_getElem hk]; rfl

/-- What a part leaves of the code's In. -/
def nextC (i : ByteArray × Int) (p : Int × Int × Int × ByteArray) : ByteArray × Int :=
  if kd p = 1 then (numberP i 1).1 else if kd p = 2 then (inNumP i).1 else if kd p = 3 then (inStampC i).1 else (inTextC i 65536).1
theorem nextC_bad (e : Int) (he : e ≠ 0) (p : Int × Int × Int × ByteArray) : nextC (⟨#[]⟩, e) p = (⟨#[]⟩, e) := by
  have h4 : (inTextC (⟨#[]⟩, e) 65536).1 = (⟨#[]⟩, e) := by
    rw [text_same _ _ (fun x _ => by rw [number_bad e he]; unfold wrongP; rw [if_neg he]), inText_bad e he]
  unfold nextC
  rw [number_bad e he, inNum_bad e he, stampC_bad e he, h4]
  split
  · rfl
  · split
    · rfl
    · split <;> rfl
theorem nextC_pre (t T : ByteArray) (p : Int × Int × Int × ByteArray) (hok : okP p = true) (h : PreB t (encP p ++ T)) : nextC (t, 0) p = nextP (t, 0) p := by
  unfold nextC nextP
  split
  · rfl
  · next h1 =>
    split
    · rfl
    · next h2 =>
      split
      · next h3 =>
        have e1 : encP p = bigB (pn p) 6 ++ bigB (pm p) 1 := by unfold encP; rw [if_neg h1, if_neg h2, if_pos h3]
        have e2 : stampOk (pn p) (pm p) = true := by unfold okP at hok; rwa [if_neg h1, if_neg h2, if_pos h3] at hok
        unfold stampOk at e2
        rw [Bool.and_eq_true] at e2
        obtain ⟨N, hN, hl⟩ := oneOk_nat _ _ e2.1
        rw [stampC_same t (by
          by_cases h6 : t.size = 6
          · right
            rw [e1, append_mid, hN] at h
            rw [accB_congr t (bigB (N : Int) 6) 6 (fun j hj => h.left j (by omega) (by rw [bigB_size]; exact hj)), accB_big N 6 (by omega)]
            omega
          · exact Or.inl h6)]
      · rw [text_sameP]
def nextCA (i : ByteArray × Int) (l : List (Int × Int × Int × ByteArray)) : ByteArray × Int := l.foldl nextC i
theorem nextCA_bad (e : Int) (he : e ≠ 0) (l : List (Int × Int × Int × ByteArray)) : nextCA (⟨#[]⟩, e) l = (⟨#[]⟩, e) := by
  induction l with
  | nil => rfl
  | cons p l ih =>
    show nextCA (nextC (⟨#[]⟩, e) p) l = _
    rw [nextC_bad e he]; exact ih
theorem nextCA_same (l : List (Int × Int × Int × ByteArray)) (t T : ByteArray) (hok : ∀ p ∈ l, okP p = true) (h : PreB t (encA l ++ T)) : nextCA (t, 0) l = nextA (t, 0) l := by
  induction l generalizing t with
  | nil => rfl
  | cons p l ih =>
    have h' : PreB t (encP p ++ (encA l ++ T)) := by
      have : encA (p :: l) ++ T = encP p ++ (encA l ++ T) := append_mid _ _ _
      rw [← this]; exact h
    show nextCA (nextC (t, 0) p) l = nextA (nextP (t, 0) p) l
    rw [nextC_pre t _ p (hok p (List.mem_cons_self ..)) h']
    rcases next_pre t _ p (hok p (List.mem_cons_self ..)) h' with ⟨k1, k2⟩ | ⟨k1, k2, k3⟩
    · rw [k2, nextCA_bad 90 (by decide), nextA_bad 90 (by decide)]
    · rw [k2]
      exact ih _ (fun q hq => hok q (List.mem_cons_of_mem _ hq)) k3
theorem nextCA_cut (l : List (Int × Int × Int × ByteArray)) (t : ByteArray) (hok : ∀ p ∈ l, okP p = true) (h : PreB t (encA l)) (hlt : t.size < (encA l).size) : nextCA (t, 0) l = (⟨#[]⟩, 90) := by
  rw [nextCA_same l t ByteArray.empty hok (by
    have : encA l ++ ByteArray.empty = encA l := by
      apply bytes_ext
      rw [ByteArray.data_append, Array.toList_append]
      exact List.append_nil _
    rw [this]; exact h)]
  exact nextA_cut l t hok h hlt
end Go.Proofs.Ytmpjhflbmngajaa
