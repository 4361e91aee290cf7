/- Layer 18, the code's: texts. -/
import Derived.Test.YtaakmcihpdbilaaDoorSmA
namespace Go.Proofs.YtaakmcihpdbilaaDoor
open Go.RowKit
set_option maxRecDepth 100000
set_option linter.unusedSimpArgs false
set_option linter.unusedVariables false
set_option maxRecDepth 100000

theorem text_same18 (S : ByteArray) (most : Int) : inTextC (S, 0) most = inTextP (S, 0) most := by
  refine text_same _ _ (fun e h => ?_)
  by_cases hc : (S, (0 : Int)).2 ≠ 0 ∨ (S, (0 : Int)).1.size < 2
  · unfold numberP at h ⊢
    rw [if_pos hc] at h ⊢
    unfold wrongP at h ⊢
    simp only at h ⊢
    rw [if_neg h]
  · unfold numberP at h
    rw [if_neg hc] at h
    exact absurd rfl h
theorem inText_bad18 (S : ByteArray) (most : Int) (h : (inTextP (S, 0) most).1.2 ≠ 0) : (inTextP (S, 0) most).1.1 = ⟨#[]⟩ := by
  unfold inTextP at h ⊢
  by_cases h1 : (numberP (S, 0) 2).1.2 ≠ 0
  · rw [if_pos h1]
    unfold numberP at h1 ⊢
    by_cases hc : (S, (0 : Int)).2 ≠ 0 ∨ (S, (0 : Int)).1.size < 2
    · rw [if_pos hc]; rfl
    · rw [if_neg hc] at h1; exact absurd rfl h1
  · rw [if_neg h1] at h ⊢
    split
    · rfl
    · rename_i h2
      rw [if_neg h2] at h
      split
      · rfl
      · rename_i h3
        rw [if_neg h3] at h
        exact absurd h h1

set_option maxHeartbeats 4000000 in
theorem texts18_any (s : ByteArray) (w : World) (hs : s.size ≤ 1048576) :
    Calls Tryd.prog 25 #[.string s] w fun e w' => ∃ v, e = .returned v ∧ Below w.heap.size w w' ∧
      ((txsP s = none ∧ v = .slice none 0 0) ∨ ∃ l, txsP s = some l ∧ OwnTx w' (w.heap.size + 1) v l.length l) := by
  obtain ⟨i0, hi, hz0, hz1, hz2⟩ := info_parts Tryd.infoStr18
  go_enter Tryd.func25, Tryd.ntmps25
  go_wp2_with fail
  refine (newIn_any s w hs).mono ?_
  rintro e w1 ⟨rfl, hI, hb⟩
  have HI0 : Hid (InAt w1 w.heap.size (s, 0)) := hI
  have HB0 : Hid (Below w.heap.size w w1) := hb
  clear hI hb
  go_wp2_with fail
  go_loopw [3] (fun v wr => ∃ (lk : List ByteArray) (S : ByteArray) (c : Int), Hid (c = 0 → txsP s = (txsP S).map (lk ++ ·)) ∧ Hid (c ≠ 0 → txsP s = none ∧ S.size = 0) ∧ S.size + lk.length ≤ s.size ∧ Hid (OwnTx wr (w.heap.size + 1) v lk.length lk) ∧ Hid (InAt wr w.heap.size (S, c)) ∧ Hid (Below w.heap.size w wr)) (fun v _ => s.size - lnV v)
  case atStart => exact ⟨[], s, 0, fun _ => by simp, fun h => absurd rfl h, by simp, OwnTx.nil _ _, HI0, HB0⟩
  case round =>
    clear HI0 HB0
    obtain ⟨lk, S, c, HT, HN, hz, HO, HI, HB⟩ := hrel
    obtain ⟨a4, c4, rfl, _⟩ := HO.out.strs
    have CR : Hid (∀ W, W = wr → Calls Tryd.prog 39 #[.pointer (some ⟨w.heap.size, 0, none⟩)] W fun e w' => e = .returned (.int .i64 (S.size : Int)) ∧ w' = W) := fun W e => by subst e; exact irest_any _ _ _ HI.out
    by_cases h0 : S.size = 0
    · have q0 : ¬ ((0 : Int) < (S.size : Int)) := by omega
      have CD : Hid (∀ W, W = wr → Calls Tryd.prog 40 #[.pointer (some ⟨w.heap.size, 0, none⟩)] W fun e w' => e = .returned (.int .i64 c) ∧ w' = W) := fun W e => by
        subst e
        have h := idone_any _ _ _ HI.out
        rw [show inDoneP (S, c) = c from by unfold inDoneP; rw [if_neg (fun h => h.2 h0)]] at h
        exact h
      go_wp2_with fail
      refine (CR.out _ rfl).mono ?_
      rintro e W0 ⟨rfl, hW0⟩
      subst hW0
      go_wp2_with fail
      refine (CD.out _ rfl).mono ?_
      rintro e W0 ⟨rfl, hW0⟩
      subst hW0
      by_cases hc : c = 0
      · have HR : Hid (txsP s = some lk) := by show _ = _; rw [HT.out hc, txsP_none S h0]; simp
        have q1 : (c != 0) = false := by rw [hc]; rfl
        clear HT HN CR CD
        go_wp2_with fail
        go_ret
        exact ⟨_, rfl, HB.out, .inr ⟨lk, HR.out, HO.out⟩⟩
      · have HR : Hid (txsP s = none) := (HN.out hc).1
        have q1 : (c != 0) = true := by rw [bne_iff_ne]; exact hc
        clear HT HN CR CD
        go_wp2_with fail
        go_ret
        exact ⟨_, rfl, HB.out, .inl ⟨HR.out, rfl⟩⟩
    · have q0 : (0 : Int) < (S.size : Int) := by omega
      have hc : c = 0 := by
        by_cases hc : c = 0
        · exact hc
        · exact absurd (HN.out hc).2 h0
      subst hc
      have HT' : Hid (txsP s = (txsP S).map (lk ++ ·)) := HT.out rfl
      clear HT HN
      obtain ⟨⟨⟨S1, e1⟩, T⟩, r1⟩ : ∃ p, inTextP (S, 0) 32768 = p := ⟨_, rfl⟩
      have CX : Hid (∀ W, W = wr → Calls Tryd.prog 24 #[.pointer (some ⟨w.heap.size, 0, none⟩), .int .i64 32768] W fun e w' => e = .returned (.string T) ∧ InTo W w.heap.size (S1, e1) w') := fun W e => by
        subst e
        have h := itext_any w.heap.size (S, 0) 32768 _ HI.out
        rw [text_same18, r1] at h
        exact h
      have HR1 : Hid (inTextP (S, 0) 32768 = ((S1, e1), T)) := r1
      clear r1
      go_wp2_with fail
      refine (CR.out _ rfl).mono ?_
      rintro e W0 ⟨rfl, hW0⟩
      subst hW0
      go_wp2_with fail
      refine (CX.out _ rfl).mono ?_
      rintro e W1 ⟨rfl, h1, h1k⟩
      have HI1 : Hid (InAt W1 w.heap.size (S1, e1)) := h1
      have hw1 := HB.out.size
      have HO1 : Hid (OwnTx W1 (w.heap.size + 1) (.slice a4 lk.length c4) lk.length lk) := owns_same HO.out (fun j hj => by
        have hl := World.ownsRow.lt HO.out j hj
        exact h1k.block j hl.2 (by omega) (fun e => by cases e))
      have HB1 : Hid (Below w.heap.size w W1) := HB.out.trans (h1k.below _ HB.out.size (Nat.le_refl _) (fun k hk => by cases hk))
      have hs1 := HB1.out.size
      have hI1 := HI1.out.1.lt
      clear h1 h1k HI HO HB CR CX hw1
      have hll : lk.length ≤ 1048576 := by omega
      go_wp2_with (at_builtin; refine wpList_appR2 rfl (.tmp 10) (.tmp 13) 22 rfl (w.heap.size + 1) 9 i0 _ 1 16 Tryd.underlying22 hi hz0 hz1 hz2 rfl (by decide) W1 (.slice a4 lk.length c4) lk.length (lk.map Value.string) rfl HO1.out #[.string T] rfl (by simp [Value.oneCell']) rfl (by omega) (by unfold maxLen; omega) (by omega) ?_)
      intro v4 w4 hown4 hg4
      have HO4 : Hid (OwnTx w4 (w.heap.size + 1) v4 (lk.length + 1) (lk ++ [T])) := by
        show World.ownsRow _ _ _ _ _ _ _
        rw [List.map_append]; exact hown4
      have bx := below_new W1 (.cells #[.string T] 9)
      have HI4 : Hid (InAt w4 w.heap.size (S1, e1)) := ⟨(HI1.out.1.on bx).grown hg4 (fun e => by have := (World.ownsRow.lt HO1.out _ e.symm).1; omega), HI1.out.2⟩
      have HB4 : Hid (Below w.heap.size w w4) := (below_step HB1.out (Nat.le_refl _) bx).grown hg4 (by have := bx.size; omega) (fun j hj => by have := (World.ownsRow.lt HO1.out _ hj).1; omega)
      obtain ⟨a5, c5, rfl, _⟩ := HO4.out.strs
      clear hown4 hg4 bx HO1 HI1 HB1
      go_wp2_with fail
      have hl1 : (lk ++ [T]).length = lk.length + 1 := by simp
      refine ⟨⟨lk ++ [T], S1, e1, ?_, ?_, ?_, by rw [hl1]; exact HO4, HI4, HB4⟩, ?_⟩
      · intro he
        subst he
        show _ = _
        rw [HT'.out, txsP_next S S1 T h0 HR1.out]
        cases txsP S1 with
        | none => rfl
        | some l => simp
      · intro he
        refine ⟨?_, ?_⟩
        · rw [HT'.out, txsP_bad S h0 (by rw [HR1.out]; exact he)]; rfl
        · have h := inText_bad18 S 32768 (by rw [HR1.out]; exact he)
          rw [HR1.out] at h
          have h' : S1 = ⟨#[]⟩ := h
          rw [h']; rfl
      · rw [hl1]
        by_cases he : e1 = 0
        · have h := inTextP_less S 32768 (by rw [HR1.out]; exact he)
          rw [HR1.out] at h
          have h' : S1.size + 2 ≤ S.size := h
          omega
        · have h := inText_bad18 S 32768 (by rw [HR1.out]; exact he)
          rw [HR1.out] at h
          have h' : S1 = ⟨#[]⟩ := h
          have h'' : S1.size = 0 := by rw [h']; rfl
          omega
      · show s.size - (lk.length + 1) < s.size - lk.length
        omega

end Go.Proofs.YtaakmcihpdbilaaDoor
