/- WireKinds on plain data: the names of a kind, the frame that is made of them and of one more. -/
import Derived.Test.YtmjjpfinkpfifaaDoorWiU
namespace Go.Proofs.YtmjjpfinkpfifaaDoor
open Go.RowKit
set_option maxRecDepth 100000
set_option linter.unusedSimpArgs false
set_option linter.unusedVariables false

def nmI (k : Nat) : List Nat := match k with
  | 0 => [2, 4]
  | 1 => [1]
  | 2 => [1, 3]
  | 3 => [5]
  | 4 => [1, 2, 4]
  | 5 => [1]
  | 6 => []
  | 7 => [1, 2, 4]
  | _ => [6]

def nmK (k j : Nat) : Bool := decide (j ∈ nmI k)

theorem nmK_own : ∀ k : Nat, k < 9 → ∀ j, j < 6 → nmB (1 + (k : Int)) j = nmK k (j + 1) := by decide

def hasL (l : List Nat) : Array Value := l.foldl (fun A i => A.setIfInBounds i (.bool true)) #[.bool false, .bool false, .bool false, .bool false, .bool false, .bool false, .bool false]

theorem hasL_snoc (l : List Nat) (i : Nat) : hasL (l ++ [i]) = (hasL l).setIfInBounds i (.bool true) := by
  unfold hasL; rw [List.foldl_append]; rfl

theorem hasL_size (l : List Nat) : (hasL l).size = 7 := by
  unfold hasL
  have : ∀ (l : List Nat) (A : Array Value), (l.foldl (fun A i => A.setIfInBounds i (.bool true)) A).size = A.size := by
    intro l
    induction l with
    | nil => intro A; rfl
    | cons a l ih => intro A; rw [List.foldl_cons, ih, Array.size_setIfInBounds]
  rw [this]; rfl

theorem hasL_end (k : Nat) (hk : k < 9) : hasL (nmI k) = #[.bool false, .bool (nmK k 1), .bool (nmK k 2), .bool (nmK k 3), .bool (nmK k 4), .bool (nmK k 5), .bool (nmK k 6)] := by
  rcases (by omega : k = 0 ∨ k = 1 ∨ k = 2 ∨ k = 3 ∨ k = 4 ∨ k = 5 ∨ k = 6 ∨ k = 7 ∨ k = 8) with rfl | rfl | rfl | rfl | rfl | rfl | rfl | rfl | rfl <;> rfl

theorem nmI_snoc : ∀ k, k < 9 → ∀ j, j < (nmI k).length → (nmI k).take (j + 1) = (nmI k).take j ++ [(nmI k).getD j 0] := by decide

theorem nmI_len : ∀ k, k < 9 → (nmI k).length ≤ 3 := by decide

theorem nmI_at : ∀ k, k < 9 → ∀ j, j < (nmI k).length → 1 ≤ (nmI k).getD j 0 ∧ (nmI k).getD j 0 ≤ 6 := by decide

/-- Is field j of the frame filled, ahead of the round c? -/
def onK (k m c j : Nat) : Bool := decide (j < c) && (nmK k j || decide (j = m))

def itK (k m c : Nat) : List (Int × Int × ByteArray) := if onK k m c 5 = true then [(1, 2, ⟨#[98]⟩)] else []

def arrK (k : Nat) (g s e M : Int) (m c : Nat) (v : Value) : Array Value := #[.int .i64 (1 + (k : Int)), .int .i64 g, .int .i64 (if onK k m c 1 = true then s else 0), .int .i64 (if onK k m c 2 = true then e else 0), .int .i64 (if onK k m c 3 = true then M else 0), .string (if onK k m c 4 = true then ⟨#[98, 108, 111, 98]⟩ else ⟨#[]⟩), v, .int .i64 (if onK k m c 6 = true then 210 else 0)]

theorem arrK_set1 (k : Nat) (g s e M : Int) (m : Nat) (v : Value) (h : nmK k 1 = true ∨ m = 1) : (arrK k g s e M m 1 v).setIfInBounds 2 (.int .i64 s) = arrK k g s e M m 2 v := by
  have h' : (nmK k 1 || decide (1 = m)) = true := by rcases h with h | h <;> simp [h]
  unfold arrK
  simp [onK, h']

theorem arrK_skip1 (k : Nat) (g s e M : Int) (m : Nat) (v : Value) (h : nmK k 1 = false) (hm : m ≠ 1) : arrK k g s e M m 1 v = arrK k g s e M m 2 v := by
  have h' : (nmK k 1 || decide (1 = m)) = false := by simp [h]; omega
  unfold arrK
  simp [onK, h']

theorem arrK_set2 (k : Nat) (g s e M : Int) (m : Nat) (v : Value) (h : nmK k 2 = true ∨ m = 2) : (arrK k g s e M m 2 v).setIfInBounds 3 (.int .i64 e) = arrK k g s e M m 3 v := by
  have h' : (nmK k 2 || decide (2 = m)) = true := by rcases h with h | h <;> simp [h]
  unfold arrK
  simp [onK, h']

theorem arrK_skip2 (k : Nat) (g s e M : Int) (m : Nat) (v : Value) (h : nmK k 2 = false) (hm : m ≠ 2) : arrK k g s e M m 2 v = arrK k g s e M m 3 v := by
  have h' : (nmK k 2 || decide (2 = m)) = false := by simp [h]; omega
  unfold arrK
  simp [onK, h']

theorem arrK_set3 (k : Nat) (g s e M : Int) (m : Nat) (v : Value) (h : nmK k 3 = true ∨ m = 3) : (arrK k g s e M m 3 v).setIfInBounds 4 (.int .i64 M) = arrK k g s e M m 4 v := by
  have h' : (nmK k 3 || decide (3 = m)) = true := by rcases h with h | h <;> simp [h]
  unfold arrK
  simp [onK, h']

theorem arrK_skip3 (k : Nat) (g s e M : Int) (m : Nat) (v : Value) (h : nmK k 3 = false) (hm : m ≠ 3) : arrK k g s e M m 3 v = arrK k g s e M m 4 v := by
  have h' : (nmK k 3 || decide (3 = m)) = false := by simp [h]; omega
  unfold arrK
  simp [onK, h']

theorem arrK_set4 (k : Nat) (g s e M : Int) (m : Nat) (v : Value) (h : nmK k 4 = true ∨ m = 4) : (arrK k g s e M m 4 v).setIfInBounds 5 (.string ⟨#[98, 108, 111, 98]⟩) = arrK k g s e M m 5 v := by
  have h' : (nmK k 4 || decide (4 = m)) = true := by rcases h with h | h <;> simp [h]
  unfold arrK
  simp [onK, h']

theorem arrK_skip4 (k : Nat) (g s e M : Int) (m : Nat) (v : Value) (h : nmK k 4 = false) (hm : m ≠ 4) : arrK k g s e M m 4 v = arrK k g s e M m 5 v := by
  have h' : (nmK k 4 || decide (4 = m)) = false := by simp [h]; omega
  unfold arrK
  simp [onK, h']

theorem arrK_set5 (k : Nat) (g s e M : Int) (m : Nat) (v v' : Value) : (arrK k g s e M m 5 v).setIfInBounds 6 v' = arrK k g s e M m 6 v' := by
  unfold arrK
  simp [onK]

theorem arrK_skip5 (k : Nat) (g s e M : Int) (m : Nat) (v : Value) (h : nmK k 5 = false) (hm : m ≠ 5) : arrK k g s e M m 5 v = arrK k g s e M m 6 v := by
  have h' : (nmK k 5 || decide (5 = m)) = false := by simp [h]; omega
  unfold arrK
  simp [onK, h']

theorem arrK_set6 (k : Nat) (g s e M : Int) (m : Nat) (v : Value) (h : nmK k 6 = true ∨ m = 6) : (arrK k g s e M m 6 v).setIfInBounds 7 (.int .i64 210) = arrK k g s e M m 7 v := by
  have h' : (nmK k 6 || decide (6 = m)) = true := by rcases h with h | h <;> simp [h]
  unfold arrK
  simp [onK, h']

theorem arrK_skip6 (k : Nat) (g s e M : Int) (m : Nat) (v : Value) (h : nmK k 6 = false) (hm : m ≠ 6) : arrK k g s e M m 6 v = arrK k g s e M m 7 v := by
  have h' : (nmK k 6 || decide (6 = m)) = false := by simp [h]; omega
  unfold arrK
  simp [onK, h']

theorem itK_other (k m c : Nat) (h : c ≠ 5) : itK k m c = itK k m (c + 1) := by
  have e : decide (5 < c) = decide (5 < c + 1) := by
    by_cases h' : 5 < c
    · rw [decide_eq_true h', decide_eq_true (by omega)]
    · rw [decide_eq_false h', decide_eq_false (by omega)]
  unfold itK onK
  rw [e]

theorem itK_set (k m : Nat) (h : nmK k 5 = true ∨ m = 5) : itK k m 6 = [(1, 2, ⟨#[98]⟩)] := by
  have h' : (nmK k 5 || decide (5 = m)) = true := by rcases h with h | h <;> simp [h]
  unfold itK
  simp [onK, h']

theorem itK_skip (k m : Nat) (h : nmK k 5 = false) (hm : m ≠ 5) : itK k m 6 = [] := by
  have h' : (nmK k 5 || decide (5 = m)) = false := by simp [h]; omega
  unfold itK
  simp [onK, h']

theorem itK_none (k m : Nat) : itK k m 5 = [] := by
  unfold itK; simp [onK]

theorem on7 (k m j : Nat) (hj : j < 7) : onK k m 7 j = (nmK k j || decide (j = m)) := by
  unfold onK
  rw [decide_eq_true hj, Bool.true_and]

/-- What Put says of the frame. -/
theorem kinds_any (k m : Nat) (g s e M : Int) (hk : k < 9) (hm : 1 ≤ m ∧ m ≤ 6) (hg : 0 ≤ g ∧ g ≤ 65536) (hs : 1 ≤ s ∧ s ≤ 65536) (he : 1 ≤ e ∧ e ≤ 65536) (hM : 1 ≤ M ∧ M ≤ 65536) :
    ∃ (Sv Ev Mv er : Int) (bl : ByteArray), (∀ v, arrK k g s e M m 7 v = #[.int .i64 (1 + (k : Int)), .int .i64 g, .int .i64 Sv, .int .i64 Ev, .int .i64 Mv, .string bl, v, .int .i64 er]) ∧ bl.size ≤ 4 ∧
      (nmK k m = true → ∃ S : ByteArray, putFC (1 + (k : Int), g, Sv, Ev, Mv, bl, itK k m 7, er) = (S, 0) ∧ S.size ≤ 65536) ∧ (nmK k m = false → putFC (1 + (k : Int), g, Sv, Ev, Mv, bl, itK k m 7, er) = (⟨#[]⟩, 1)) := by
  obtain ⟨Sv, hSv⟩ : ∃ z, (if onK k m 7 1 = true then s else 0) = z := ⟨_, rfl⟩
  obtain ⟨Ev, hEv⟩ : ∃ z, (if onK k m 7 2 = true then e else 0) = z := ⟨_, rfl⟩
  obtain ⟨Mv, hMv⟩ : ∃ z, (if onK k m 7 3 = true then M else 0) = z := ⟨_, rfl⟩
  obtain ⟨bl, hbl⟩ : ∃ z : ByteArray, (if onK k m 7 4 = true then ⟨#[98, 108, 111, 98]⟩ else ⟨#[]⟩) = z := ⟨_, rfl⟩
  obtain ⟨er, her⟩ : ∃ z : Int, (if onK k m 7 6 = true then 210 else 0) = z := ⟨_, rfl⟩
  obtain ⟨it, hit⟩ : ∃ z, itK k m 7 = z := ⟨_, rfl⟩
  have hb4 : bl.size ≤ 4 := by
    rw [← hbl]; split
    · exact Nat.le_refl 4
    · exact Nat.zero_le _
  have hi1 : it = [(1, 2, ⟨#[98]⟩)] ∨ it = [] := by
    rw [← hit]; unfold itK; split
    · exact .inl rfl
    · exact .inr rfl
  have n0 : nmB (1 + (k : Int)) 0 = nmK k 1 := nmK_own k hk 0 (by decide)
  have n1 : nmB (1 + (k : Int)) 1 = nmK k 2 := nmK_own k hk 1 (by decide)
  have n2 : nmB (1 + (k : Int)) 2 = nmK k 3 := nmK_own k hk 2 (by decide)
  have n3 : nmB (1 + (k : Int)) 3 = nmK k 4 := nmK_own k hk 3 (by decide)
  have n4 : nmB (1 + (k : Int)) 4 = nmK k 5 := nmK_own k hk 4 (by decide)
  have n5 : nmB (1 + (k : Int)) 5 = nmK k 6 := nmK_own k hk 5 (by decide)
  refine ⟨Sv, Ev, Mv, er, bl, fun v => by unfold arrK; rw [hSv, hEv, hMv, hbl, her], hb4, fun hy => ?_, fun hn => ?_⟩
  · rw [hit]
    -- each one that is filled is named
    have on : ∀ j, j < 7 → onK k m 7 j = nmK k j := by
      intro j hj
      rw [on7 k m j hj]
      by_cases e : j = m
      · subst e; rw [hy]; rfl
      · rw [decide_eq_false e, Bool.or_false]
    have s0 : Sv = 0 ∨ (1 ≤ Sv ∧ Sv ≤ 65536) := by rw [← hSv]; split; exact .inr hs; exact .inl rfl
    have s1 : Ev = 0 ∨ (1 ≤ Ev ∧ Ev ≤ 65536) := by rw [← hEv]; split; exact .inr he; exact .inl rfl
    have s2 : Mv = 0 ∨ (1 ≤ Mv ∧ Mv ≤ 65536) := by rw [← hMv]; split; exact .inr hM; exact .inl rfl
    have s3 : er = 0 ∨ er = 210 := by rw [← her]; split; exact .inr rfl; exact .inl rfl
    have hown : OwnFr (1 + (k : Int), g, Sv, Ev, Mv, bl, it, er) := by
      unfold OwnFr
      refine ⟨⟨by show (1 : Int) ≤ 1 + (k : Int); omega, by show 1 + (k : Int) ≤ 9; omega⟩, ?_, ?_, ?_, ?_, ?_, ?_⟩
      · show nmB (1 + (k : Int)) 0 = true ∨ Sv = 0
        rw [n0, ← hSv, on 1 (by decide)]; cases nmK k 1 <;> simp
      · show nmB (1 + (k : Int)) 1 = true ∨ Ev = 0
        rw [n1, ← hEv, on 2 (by decide)]; cases nmK k 2 <;> simp
      · show nmB (1 + (k : Int)) 2 = true ∨ Mv = 0
        rw [n2, ← hMv, on 3 (by decide)]; cases nmK k 3 <;> simp
      · show nmB (1 + (k : Int)) 3 = true ∨ bl.size = 0
        rw [n3, ← hbl, on 4 (by decide)]; cases nmK k 4
        · exact .inr rfl
        · exact .inl rfl
      · show nmB (1 + (k : Int)) 4 = true ∨ it.length = 0
        rw [n4, ← hit]; unfold itK; rw [on 5 (by decide)]; cases nmK k 5 <;> simp
      · show nmB (1 + (k : Int)) 5 = true ∨ er = 0
        rw [n5, ← her, on 6 (by decide)]; cases nmK k 6 <;> simp
    have hl : it.length ≤ 1 := by rcases hi1 with h | h <;> rw [h] <;> decide
    have hmi : mayIb it = true := by rcases hi1 with h | h <;> rw [h] <;> rfl
    have hmay : mayCb (1 + (k : Int), g, Sv, Ev, Mv, bl, it, er) = true := by
      unfold mayCb
      rw [(ownB_iff _).2 hown]
      show (decide (er ≤ 999) && decide (bl.size ≤ 20000) && mayIb it && true) = true
      rw [hmi, decide_eq_true (show er ≤ 999 by omega), decide_eq_true (show bl.size ≤ 20000 by omega)]; rfl
    have hok : ∀ p ∈ frPs (1 + (k : Int), g, Sv, Ev, Mv, bl, it, er), okP p = true := by
      intro p hp
      have hp' : p ∈ frHd (1 + (k : Int), g, Sv, Ev, Mv, bl, it, er) ++ it.flatMap itPs := hp
      rcases List.mem_append.1 hp' with e' | e'
      · simp only [frHd, List.mem_cons, List.not_mem_nil, or_false] at e'
        rcases e' with rfl | rfl | rfl | rfl | rfl | rfl | rfl | rfl
        · exact byte_okP _ _ _ ((oneOk_iff _ _).2 (by omega))
        · rw [num_okP]; exact (oneOk_iff _ _).2 (by omega)
        · rw [num_okP]; exact (oneOk_iff _ _).2 (by omega)
        · rw [num_okP]; exact (oneOk_iff _ _).2 (by omega)
        · rw [num_okP]; exact (oneOk_iff _ _).2 (by omega)
        · rw [num_okP]; exact (oneOk_iff _ _).2 (by omega)
        · exact text_okP _ _ _ (by omega)
        · exact byte_okP _ _ _ ((oneOk_iff _ _).2 (by omega))
      · rcases hi1 with h | h
        · rw [h] at e'
          have all : ∀ p ∈ List.flatMap itPs [(1, 2, (⟨#[98]⟩ : ByteArray))], okP p = true := by decide
          exact all p e'
        · rw [h] at e'; simp at e'
    have hsz : (encA (frPs (1 + (k : Int), g, Sv, Ev, Mv, bl, it, er))).size ≤ 65536 := by
      rw [frPs_enc]
      have h15 : (encA (it.flatMap itPs)).size ≤ 15 := by rcases hi1 with h | h <;> rw [h] <;> decide
      simp only [ByteArray.size_append, encP_size19, kd, ps]
      simp
      omega
    exact ⟨_, putB_fit _ _ hmay hok hsz, hsz⟩
  · rw [hit]
    unfold putFC putB
    rw [if_neg]
    intro e'
    have ho := (mayC_parts e').2.2.2
    unfold OwnFr at ho
    obtain ⟨_, o0, o1, o2, o3, o4, o5⟩ := ho
    have on : onK k m 7 m = true := by rw [on7 k m m (by omega), decide_eq_true rfl, Bool.or_true]
    rcases (by omega : m = 1 ∨ m = 2 ∨ m = 3 ∨ m = 4 ∨ m = 5 ∨ m = 6) with rfl | rfl | rfl | rfl | rfl | rfl
    · have : Sv = s := by rw [← hSv, if_pos on]
      rcases o0 with o | o
      · rw [n0, hn] at o; cases o
      · have o' : Sv = 0 := o
        omega
    · have : Ev = e := by rw [← hEv, if_pos on]
      rcases o1 with o | o
      · rw [n1, hn] at o; cases o
      · have o' : Ev = 0 := o
        omega
    · have : Mv = M := by rw [← hMv, if_pos on]
      rcases o2 with o | o
      · rw [n2, hn] at o; cases o
      · have o' : Mv = 0 := o
        omega
    · rcases o3 with o | o
      · rw [n3, hn] at o; cases o
      · have o' : bl.size = 0 := o
        rw [← hbl, if_pos on] at o'
        exact absurd o' (by decide)
    · rcases o4 with o | o
      · rw [n4, hn] at o; cases o
      · have o' : it.length = 0 := o
        rw [← hit] at o'
        unfold itK at o'
        rw [if_pos on] at o'
        exact absurd o' (by decide)
    · rcases o5 with o | o
      · rw [n5, hn] at o; cases o
      · have o' : er = 0 := o
        rw [← her, if_pos on] at o'
        exact absurd o' (by decide)

end Go.Proofs.YtmjjpfinkpfifaaDoor
