/- The walk of NameJoins. -/
import Derived.Test.YtpabafkgcofhdaaDoorNmChecksWalk
namespace Go.Proofs.YtpabafkgcofhdaaDoor
open Go.RowKit
set_option linter.unusedSimpArgs false

set_option maxRecDepth 100000 in
set_option maxHeartbeats 4000000 in
theorem nameJoins_yes (a b : ByteArray) (w : World) (hG : Glob8 w) (ha : a.size ≤ 200) (hb : b.size ≤ 200) (na : NameP a) (nb : NameP b) :
    Calls Tryd.prog 8 #[.string a, .string b] w fun e w' => e = .returned (.bool true) ∧ Below w.heap.size w w' := by
  have C : Hid (∀ w', Below w.heap.size w w' → _) := fun w' hb => awake8_on w w' hG hb
  have g0 : decide ((200 : Int) < (a.size : Int)) = false := by simp; omega
  have g1 : decide ((200 : Int) < (b.size : Int)) = false := by simp; omega
  obtain ⟨s, hs⟩ : ∃ s, a ++ b = s := ⟨_, rfl⟩
  have hss : s.size = a.size + b.size := by rw [← hs, ByteArray.size_append]
  have hsum : ¬ (9223372036854775807 < a.size + b.size) := by omega
  obtain ⟨n, hn⟩ : ∃ n, countR a = n := ⟨_, rfl⟩
  obtain ⟨m, hm⟩ : ∃ m, countR b = m := ⟨_, rfl⟩
  have hk : countR s = n + m := by rw [← hs, count_two a b na.all, hn, hm]
  have hnl : n ≤ 200 := by rw [← hn]; have := count_le a; omega
  have hml : m ≤ 200 := by rw [← hm]; have := count_le b; omega
  obtain ⟨fa, hfa⟩ : ∃ f, foldB a = f := ⟨_, rfl⟩
  obtain ⟨fb, hfb⟩ : ∃ f, foldB b = f := ⟨_, rfl⟩
  obtain ⟨fs, hfs⟩ : ∃ f, foldB s = f := ⟨_, rfl⟩
  have hff : fa ++ fb = fs := by rw [← hfa, ← hfb, ← hfs, ← hs, foldB_two]
  have hfas : fa.size = a.size := by rw [← hfa]; exact foldB_size _
  have hfbs : fb.size = b.size := by rw [← hfb]; exact foldB_size _
  have hfsum : ¬ (9223372036854775807 < a.size + b.size) := hsum
  have A1 : Hid (∀ w', Below w.heap.size w w' → _) := fun w' hbl => ncheck_on a 0 (.inl ⟨rfl, na⟩) w w' hG hbl (by omega)
  have A2 : Hid (∀ w', Below w.heap.size w w' → _) := fun w' hbl => ncheck_on b 0 (.inl ⟨rfl, nb⟩) w w' hG hbl (by omega)
  have A3 : Hid (∀ w', Below w.heap.size w w' → _) := fun w' hbl => ncount_on a n hn w w' hbl (by omega)
  have A4' := fun (w' : World) (hbl : Below w.heap.size w w') => ncount_on s (n + m) hk w w' hbl (by omega)
  rw [Int.natCast_add] at A4'
  have A4 : Hid (∀ w', Below w.heap.size w w' → _) := A4'
  have A5 : Hid (∀ w', Below w.heap.size w w' → _) := fun w' hbl => ncount_on b m hm w w' hbl (by omega)
  have A6 : Hid (∀ w', Below w.heap.size w w' → _) := fun w' hbl => ncut_on s (n : Int) a (by rw [Int.toNat_natCast, ← hs, ← hn]; exact cut_two a b na.all) w w' hbl (by omega) (by omega)
  have A7 : Hid (∀ w', Below w.heap.size w w' → _) := fun w' hbl => nfold_on s fs hfs w w' hbl (by omega)
  have A8 : Hid (∀ w', Below w.heap.size w w' → _) := fun w' hbl => nfold_on a fa hfa w w' hbl (by omega)
  have A9 : Hid (∀ w', Below w.heap.size w w' → _) := fun w' hbl => nfold_on b fb hfb w w' hbl (by omega)
  have hnt := name_two a b na nb
  rw [hs, hk] at hnt
  by_cases h32 : n + m ≤ 32
  · have g2 : decide ((n : Int) + (m : Int) ≤ 32) = true := by simp; omega
    by_cases hdd : s.toList = [46, 46]
    · have A10 : Hid (∀ w', Below w.heap.size w w' → _) := fun w' hbl => ncheck_on s 80 (.inr ⟨rfl, fun h => (hnt.1 h).2 hdd⟩) w w' hG hbl (by omega)
      clear na nb hn hm hk hfa hfb hfs A4' hnt h32
      go_enter Tryd.func8, Tryd.ntmps8
      go_wp2_with fail
      refine (A1.out _ (Below.refl _ _)).mono ?_
      rintro e w1 ⟨rfl, hb1⟩
      clear A1
      go_wp2_with fail
      refine (A2.out _ hb1).mono ?_
      rintro e w2 ⟨rfl, hb2⟩
      clear A2 hb1
      go_wp2_with fail
      refine (A3.out _ hb2).mono ?_
      rintro e w3 ⟨rfl, hb3⟩
      clear hb2
      go_wp2_with fail
      refine (A4.out _ hb3).mono ?_
      rintro e w4 ⟨rfl, hb4⟩
      clear hb3
      go_wp2_with fail
      refine (A5.out _ hb4).mono ?_
      rintro e w5 ⟨rfl, hb5⟩
      clear A5 hb4
      go_wp2_with fail
      refine (A6.out _ hb5).mono ?_
      rintro e w6 ⟨rfl, hb6⟩
      clear A6 hb5
      go_wp2_with fail
      refine (A7.out _ hb6).mono ?_
      rintro e w7 ⟨rfl, hb7⟩
      clear A7 hb6
      go_wp2_with fail
      refine (A8.out _ hb7).mono ?_
      rintro e w8 ⟨rfl, hb8⟩
      clear A8 hb7
      go_wp2_with fail
      refine (A9.out _ hb8).mono ?_
      rintro e w9 ⟨rfl, hb9⟩
      clear A9 hb8
      go_wp2_with fail
      refine (A10.out _ hb9).mono ?_
      rintro e w10 ⟨rfl, hb10⟩
      clear A10 hb9
      go_wp2_with fail
      refine (A4.out _ hb10).mono ?_
      rintro e w11 ⟨rfl, hb11⟩
      clear hb10
      go_wp2_with fail
      refine (C.out _ hb11).mono ?_
      rintro e w12 ⟨rfl, hb12⟩
      go_wp2_with fail
      go_ret
      exact ⟨rfl, hb12⟩
    · have q0 : (s.toList == [46, 46]) = false := by rw [beq_eq_false_iff_ne]; exact hdd
      have A10 : Hid (∀ w', Below w.heap.size w w' → _) := fun w' hbl => ncheck_on s 0 (.inl ⟨rfl, hnt.2 ⟨h32, hdd⟩⟩) w w' hG hbl (by omega)
      clear na nb hn hm hk hfa hfb hfs A4' hnt h32
      go_enter Tryd.func8, Tryd.ntmps8
      go_wp2_with fail
      refine (A1.out _ (Below.refl _ _)).mono ?_
      rintro e w1 ⟨rfl, hb1⟩
      clear A1
      go_wp2_with fail
      refine (A2.out _ hb1).mono ?_
      rintro e w2 ⟨rfl, hb2⟩
      clear A2 hb1
      go_wp2_with fail
      refine (A3.out _ hb2).mono ?_
      rintro e w3 ⟨rfl, hb3⟩
      clear hb2
      go_wp2_with fail
      refine (A4.out _ hb3).mono ?_
      rintro e w4 ⟨rfl, hb4⟩
      clear hb3
      go_wp2_with fail
      refine (A5.out _ hb4).mono ?_
      rintro e w5 ⟨rfl, hb5⟩
      clear A5 hb4
      go_wp2_with fail
      refine (A6.out _ hb5).mono ?_
      rintro e w6 ⟨rfl, hb6⟩
      clear A6 hb5
      go_wp2_with fail
      refine (A7.out _ hb6).mono ?_
      rintro e w7 ⟨rfl, hb7⟩
      clear A7 hb6
      go_wp2_with fail
      refine (A8.out _ hb7).mono ?_
      rintro e w8 ⟨rfl, hb8⟩
      clear A8 hb7
      go_wp2_with fail
      refine (A9.out _ hb8).mono ?_
      rintro e w9 ⟨rfl, hb9⟩
      clear A9 hb8
      go_wp2_with fail
      refine (A10.out _ hb9).mono ?_
      rintro e w10 ⟨rfl, hb10⟩
      clear A10 hb9
      go_wp2_with fail
      refine (A4.out _ hb10).mono ?_
      rintro e w11 ⟨rfl, hb11⟩
      clear hb10
      go_wp2_with fail
      refine (C.out _ hb11).mono ?_
      rintro e w12 ⟨rfl, hb12⟩
      go_wp2_with fail
      go_ret
      exact ⟨rfl, hb12⟩
  · have g2 : decide ((n : Int) + (m : Int) ≤ 32) = false := by simp; omega
    have A10 : Hid (∀ w', Below w.heap.size w w' → _) := fun w' hbl => ncheck_on s 80 (.inr ⟨rfl, fun h => h32 (hnt.1 h).1⟩) w w' hG hbl (by omega)
    clear na nb hn hm hk hfa hfb hfs A4' hnt h32
    go_enter Tryd.func8, Tryd.ntmps8
    go_wp2_with fail
    refine (A1.out _ (Below.refl _ _)).mono ?_
    rintro e w1 ⟨rfl, hb1⟩
    clear A1
    go_wp2_with fail
    refine (A2.out _ hb1).mono ?_
    rintro e w2 ⟨rfl, hb2⟩
    clear A2 hb1
    go_wp2_with fail
    refine (A3.out _ hb2).mono ?_
    rintro e w3 ⟨rfl, hb3⟩
    clear hb2
    go_wp2_with fail
    refine (A4.out _ hb3).mono ?_
    rintro e w4 ⟨rfl, hb4⟩
    clear hb3
    go_wp2_with fail
    refine (A5.out _ hb4).mono ?_
    rintro e w5 ⟨rfl, hb5⟩
    clear A5 hb4
    go_wp2_with fail
    refine (A6.out _ hb5).mono ?_
    rintro e w6 ⟨rfl, hb6⟩
    clear A6 hb5
    go_wp2_with fail
    refine (A7.out _ hb6).mono ?_
    rintro e w7 ⟨rfl, hb7⟩
    clear A7 hb6
    go_wp2_with fail
    refine (A8.out _ hb7).mono ?_
    rintro e w8 ⟨rfl, hb8⟩
    clear A8 hb7
    go_wp2_with fail
    refine (A9.out _ hb8).mono ?_
    rintro e w9 ⟨rfl, hb9⟩
    clear A9 hb8
    go_wp2_with fail
    refine (A10.out _ hb9).mono ?_
    rintro e w10 ⟨rfl, hb10⟩
    clear A10 hb9
    go_wp2_with fail
    refine (A4.out _ hb10).mono ?_
    rintro e w11 ⟨rfl, hb11⟩
    clear hb10
    go_wp2_with fail
    refine (C.out _ hb11).mono ?_
    rintro e w12 ⟨rfl, hb12⟩
    go_wp2_with fail
    go_ret
    exact ⟨rfl, hb12⟩

set_option maxHeartbeats 2000000 in
theorem nameJoins_walk (a b : ByteArray) (w : World) (hG : Glob8 w) :
    Calls Tryd.prog 8 #[.string a, .string b] w fun e w' => e = .returned (.bool true) ∧ Below w.heap.size w w' := by
  have C : Hid (∀ w', Below w.heap.size w w' → _) := fun w' hb => awake8_on w w' hG hb
  have hb0 : Below w.heap.size w w := Below.refl _ _
  by_cases ha : a.size ≤ 200
  · have g0 : decide ((200 : Int) < (a.size : Int)) = false := by simp; omega
    by_cases hb : b.size ≤ 200
    · have g1 : decide ((200 : Int) < (b.size : Int)) = false := by simp; omega
      by_cases na : NameP a
      · by_cases nb : NameP b
        · exact nameJoins_yes a b w hG ha hb na nb
        · have A1 : Hid (∀ w', Below w.heap.size w w' → _) := fun w' hbl => ncheck_on a 0 (.inl ⟨rfl, na⟩) w w' hG hbl (by omega)
          have A2 : Hid (∀ w', Below w.heap.size w w' → _) := fun w' hbl => ncheck_on b 80 (.inr ⟨rfl, nb⟩) w w' hG hbl (by omega)
          clear na nb
          go_enter Tryd.func8, Tryd.ntmps8
          go_wp2_with fail
          refine (A1.out _ hb0).mono ?_
          rintro e w1 ⟨rfl, hb1⟩
          clear A1 hb0
          go_wp2_with fail
          refine (A2.out _ hb1).mono ?_
          rintro e w2 ⟨rfl, hb2⟩
          clear A2 hb1
          go_wp2_with fail
          refine (C.out _ (by assumption)).mono ?_
          rintro e w12 ⟨rfl, hb12⟩
          go_wp2_with fail
          go_ret
          exact ⟨rfl, hb12⟩
      · have A1 : Hid (∀ w', Below w.heap.size w w' → _) := fun w' hbl => ncheck_on a 80 (.inr ⟨rfl, na⟩) w w' hG hbl (by omega)
        clear na
        go_enter Tryd.func8, Tryd.ntmps8
        go_wp2_with fail
        refine (A1.out _ hb0).mono ?_
        rintro e w1 ⟨rfl, hb1⟩
        clear A1 hb0
        go_wp2_with fail
        refine (C.out _ (by assumption)).mono ?_
        rintro e w12 ⟨rfl, hb12⟩
        go_wp2_with fail
        go_ret
        exact ⟨rfl, hb12⟩
    · have g1 : decide ((200 : Int) < (b.size : Int)) = true := by simp; omega
      go_enter Tryd.func8, Tryd.ntmps8
      go_wp2_with fail
      refine (C.out _ (by assumption)).mono ?_
      rintro e w12 ⟨rfl, hb12⟩
      go_wp2_with fail
      go_ret
      exact ⟨rfl, hb12⟩
  · have g0 : decide ((200 : Int) < (a.size : Int)) = true := by simp; omega
    go_enter Tryd.func8, Tryd.ntmps8
    go_wp2_with fail
    refine (C.out _ (by assumption)).mono ?_
    rintro e w12 ⟨rfl, hb12⟩
    go_wp2_with fail
    go_ret
    exact ⟨rfl, hb12⟩
end Go.Proofs.YtpabafkgcofhdaaDoor
