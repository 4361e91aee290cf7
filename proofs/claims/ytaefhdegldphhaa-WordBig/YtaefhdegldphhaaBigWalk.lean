import Derived.Test.YtaefhdegldphhaaTurned
namespace Go.Proofs.Ytaefhdegldphhaa
open Go.RowKit

theorem ints_none (w : World) (K : IntKind) : IntsAt w K none 0 [] := ⟨rfl, .inl rfl⟩

set_option maxHeartbeats 400000 in
theorem wordBig_long (s : ByteArray) (a : Option Addr) (n c : Nat) (w : World) (ws : s.size ≤ maxLen) (wn : n ≤ maxLen) (h : 1024 < s.size ∨ 1024 < n) :
    Calls Try.prog 4 #[.string s, .slice a n c] w fun e w' => e = .returned (.bool true) ∧ Below w.heap.size w w' := by
  unfold maxLen at ws wn
  by_cases h1 : 1024 < s.size
  all_goals
    go_enter Try.func4, Try.ntmps4
    go_wp2_with fail
    refine (words_any _).mono ?_
    rintro e w1 ⟨rfl, hb1⟩
    go_wp2_with fail
    go_ret
    exact ⟨rfl, hb1⟩

set_option maxHeartbeats 400000 in
theorem wordBig_odd (s : ByteArray) (a : Option Addr) (n c : Nat) (l : List Int) (w : World) (hs : s.size ≤ 1024) (hn : n ≤ 1024) (hI : IntsAt w .i64 a n l) (h : ¬ s.size % 4 = 0) :
    Calls Try.prog 4 #[.string s, .slice a n c] w fun e w' => e = .returned (.bool true) ∧ Below w.heap.size w w' := by
  have HI : Hid (IntsAt w .i64 a n l) := hI
  have H : Hid (¬ s.size % 4 = 0) := h
  clear hI h
  go_enter Try.func4, Try.ntmps4
  go_wp2_with fail
  refine (big_odd s _ (by omega) H.out).mono ?_
  rintro e w1 ⟨rfl, hb1⟩
  go_wp2_with fail
  refine (rbig_odd s _ (by omega) H.out).mono ?_
  rintro e w2 ⟨rfl, hb2⟩
  go_wp2_with fail
  refine (sameInts_any none none 0 0 0 [] _ (by omega) (ints_none _ _) (ints_none _ _)).mono ?_
  rintro e w3 ⟨rfl, hb3⟩
  have hb3' := below_step (below_step hb1 (Nat.le_refl _) hb2) (Nat.le_refl _) hb3
  go_wp2_with fail
  refine (putBig_any a n c l _ (by omega) (HI.out.below hb3')).mono ?_
  rintro e w4 ⟨rfl, hb4⟩
  have hb4' := below_step hb3' (Nat.le_refl _) hb4
  go_wp2_with fail
  refine (rputBig_any a n c l _ (by omega) (HI.out.below hb4')).mono ?_
  rintro e w5 ⟨rfl, hb5⟩
  go_wp2_with fail
  refine (words_any _).mono ?_
  rintro e w6 ⟨rfl, hb6⟩
  go_wp2_with fail
  go_ret
  exact ⟨rfl, below_step (below_step hb4' (Nat.le_refl _) hb5) (Nat.le_refl _) hb6⟩

set_option maxHeartbeats 400000 in
theorem wordBig_even (s : ByteArray) (a : Option Addr) (n c : Nat) (l : List Int) (w : World) (hs : s.size ≤ 1024) (hn : n ≤ 1024) (hI : IntsAt w .i64 a n l) (h : s.size % 4 = 0) :
    Calls Try.prog 4 #[.string s, .slice a n c] w fun e w' => e = .returned (.bool true) ∧ Below w.heap.size w w' := by
  have HI : Hid (IntsAt w .i64 a n l) := hI
  have H : Hid (s.size % 4 = 0) := h
  have c5 := fun (a : Option Addr) (c : Nat) (w : World) (h : IntsAt w .i64 a (s.size / 4) (wordsL s bsh)) => putBig_any a (s.size / 4) c (wordsL s bsh) w (by omega) h
  rw [put_words_big s h] at c5
  have C5 : Hid (∀ a, _) := c5
  clear hI h c5
  go_enter Try.func4, Try.ntmps4
  go_wp2_with fail
  refine (big_even s _ (by omega) H.out).mono ?_
  rintro e w1 ⟨rfl, ho1, hb1⟩
  have HA : Hid (IntsAt w1 _ _ _ _) := ho1.ints
  clear ho1
  go_wp2_with fail
  refine (rbig_even s _ (by omega) H.out).mono ?_
  rintro e w2 ⟨a2, c2, rfl, hi2, hb2⟩
  have HA2 : Hid (IntsAt w2 _ _ _ _) := hi2
  clear hi2
  go_wp2_with fail
  refine (sameInts_any _ _ (s.size / 4) _ _ (wordsL s bsh) _ (by omega) (HA.out.below hb2) HA2.out).mono ?_
  rintro e w3 ⟨rfl, hb3⟩
  have hb3' := below_step (below_step hb1 (Nat.le_refl _) hb2) (Nat.le_refl _) hb3
  go_wp2_with fail
  refine (putBig_any a n c l _ (by omega) (HI.out.below hb3')).mono ?_
  rintro e w4 ⟨rfl, hb4⟩
  have hb4' := below_step hb3' (Nat.le_refl _) hb4
  go_wp2_with fail
  refine (rputBig_any a n c l _ (by omega) (HI.out.below hb4')).mono ?_
  rintro e w5 ⟨rfl, hb5⟩
  go_wp2_with fail
  refine (C5.out _ _ _ ((((HA.out.below hb2).below hb3).below hb4).below hb5)).mono ?_
  rintro e w6 ⟨rfl, hb6⟩
  go_wp2_with fail
  refine (words_any _).mono ?_
  rintro e w7 ⟨rfl, hb7⟩
  go_wp2_with fail
  go_ret
  exact ⟨rfl, below_step (below_step (below_step hb4' (Nat.le_refl _) hb5) (Nat.le_refl _) hb6) (Nat.le_refl _) hb7⟩

theorem wordBig_walk (s : ByteArray) (a : Option Addr) (n c : Nat) (l : List Int) (w : World) (ws : s.size ≤ maxLen) (wn : n ≤ maxLen) (hI : IntsAt w .i64 a n l) :
    Calls Try.prog 4 #[.string s, .slice a n c] w fun e w' => e = .returned (.bool true) ∧ Below w.heap.size w w' := by
  by_cases h1 : s.size ≤ 1024
  · by_cases h2 : n ≤ 1024
    · by_cases h : s.size % 4 = 0
      · exact wordBig_even s a n c l w h1 h2 hI h
      · exact wordBig_odd s a n c l w h1 h2 hI h
    · exact wordBig_long s a n c w ws wn (by omega)
  · exact wordBig_long s a n c w ws wn (by omega)
end Go.Proofs.Ytaefhdegldphhaa
