/- The walk of NameFolds. -/
import Derived.Test.YtpabafkgcofhdaaDoorNmChecksWalk
namespace Go.Proofs.YtpabafkgcofhdaaDoor
open Go.RowKit
set_option linter.unusedSimpArgs false

set_option maxHeartbeats 2000000 in
theorem nameFolds_walk (s : ByteArray) (w : World) (hG : Glob8 w) :
    Calls Tryd.prog 5 #[.string s] w fun e w' => e = .returned (.bool true) ∧ Below w.heap.size w w' := by
  have C : Hid (∀ w', Below w.heap.size w w' → _) := fun w' hb => awake8_on w w' hG hb
  by_cases hs : s.size ≤ 1024
  · have g0 : decide ((1024 : Int) < (s.size : Int)) = false := by simp; omega
    obtain ⟨t, ht⟩ : ∃ t, foldB s = t := ⟨_, rfl⟩
    have hts : t.size = s.size := by rw [← ht]; exact foldB_size _
    obtain ⟨x, hx⟩ := nameE_is s
    have hx2 : NameE t x := by
      rw [← ht]
      rcases hx with ⟨h1, h2⟩ | ⟨h1, h2⟩
      · exact .inl ⟨h1, (name_fold s).2 h2⟩
      · exact .inr ⟨h1, fun h => h2 ((name_fold s).1 h)⟩
    obtain ⟨n, hn⟩ : ∃ n, countR s = n := ⟨_, rfl⟩
    have C1 : Hid (∀ w', Below w.heap.size w w' → _) := fun w' hb => nfold_on s t ht w w' hb (by omega)
    have C2' := fun w => rfold_any s w (by omega)
    rw [ht] at C2'
    have C2 : Hid (∀ w, _) := C2'
    have C3 : Hid (∀ w', Below w.heap.size w w' → _) := fun w' hb => nfold_on t t (by rw [← ht]; exact foldB_twice s) w w' hb (by omega)
    have C4 : Hid (∀ w', Below w.heap.size w w' → _) := fun w' hb => ncount_on t n (by rw [← ht, count_fold, hn]) w w' hb (by omega)
    have C5 : Hid (∀ w', Below w.heap.size w w' → _) := fun w' hb => ncount_on s n hn w w' hb (by omega)
    have C6 : Hid (∀ w', Below w.heap.size w w' → _) := fun w' hb => ncheck_on t x hx2 w w' hG hb (by omega)
    have C7 : Hid (∀ w', Below w.heap.size w w' → _) := fun w' hb => ncheck_on s x hx w w' hG hb (by omega)
    clear ht hx hx2 hn C2' hs hG
    go_enter Tryd.func5, Tryd.ntmps5
    go_wp2_with fail
    refine (C1.out _ (Below.refl _ _)).mono ?_
    rintro e w1 ⟨rfl, hb1⟩
    clear C1
    go_wp2_with fail
    refine (C2.out _).mono ?_
    rintro e w2 ⟨rfl, hb2'⟩
    have hb2 := below_step hb1 (Nat.le_refl _) hb2'
    clear C2 hb1 hb2'
    go_wp2_with fail
    refine (C3.out _ hb2).mono ?_
    rintro e w3 ⟨rfl, hb3⟩
    clear C3 hb2
    go_wp2_with fail
    refine (C4.out _ hb3).mono ?_
    rintro e w4 ⟨rfl, hb4⟩
    clear C4 hb3
    go_wp2_with fail
    refine (C5.out _ hb4).mono ?_
    rintro e w5 ⟨rfl, hb5⟩
    clear C5 hb4
    go_wp2_with fail
    refine (C6.out _ hb5).mono ?_
    rintro e w6 ⟨rfl, hb6⟩
    clear C6 hb5
    go_wp2_with fail
    refine (C7.out _ hb6).mono ?_
    rintro e w7 ⟨rfl, hb7⟩
    clear C7 hb6
    go_wp2_with fail
    refine (C.out _ hb7).mono ?_
    rintro e w8 ⟨rfl, hb8⟩
    go_wp2_with fail
    go_ret
    exact ⟨rfl, hb8⟩
  · have g0 : decide ((1024 : Int) < (s.size : Int)) = true := by simp; omega
    clear hs hG
    go_enter Tryd.func5, Tryd.ntmps5
    go_wp2_with fail
    refine (C.out _ (Below.refl _ _)).mono ?_
    rintro e w5 ⟨rfl, hb5⟩
    go_wp2_with fail
    go_ret
    exact ⟨rfl, hb5⟩
end Go.Proofs.YtpabafkgcofhdaaDoor
