/- The walk of NameCuts. -/
import Derived.Test.YtpabafkgcofhdaaDoorNmChecksWalk
namespace Go.Proofs.YtpabafkgcofhdaaDoor
open Go.RowKit
set_option linter.unusedSimpArgs false

theorem cut_front (s : ByteArray) (n : Nat) : s.extract 0 (cutR s n).size = cutR s n := by
  have h := posR_le s n
  have e : (cutR s n).size = posR s n := by unfold cutR; rw [ByteArray.size_extract]; omega
  rw [e]; rfl

set_option maxHeartbeats 2000000 in
theorem nameCuts_walk (s : ByteArray) (n : Int) (w : World) (hn : n ≤ 9223372036854775807) (hG : Glob8 w) :
    Calls Tryd.prog 4 #[.string s, .int .i64 n] w fun e w' => e = .returned (.bool true) ∧ Below w.heap.size w w' := by
  have C : Hid (∀ w', Below w.heap.size w w' → _) := fun w' hb => awake8_on w w' hG hb
  by_cases hs : s.size ≤ 1024
  · have g0 : decide ((1024 : Int) < (s.size : Int)) = false := by simp; omega
    obtain ⟨t, ht⟩ : ∃ t, cutR s n.toNat = t := ⟨_, rfl⟩
    have hts : t.size ≤ s.size := by rw [← ht]; exact cutR_size _ _
    have hfr : s.extract 0 t.size = t := by rw [← ht]; exact cut_front s _
    obtain ⟨a, ha⟩ : ∃ a, countR s = a := ⟨_, rfl⟩
    obtain ⟨b, hb⟩ : ∃ b, countR t = b := ⟨_, rfl⟩
    have hab : b = min n.toNat a := by rw [← hb, ← ht, count_cut, ha]
    have C1 : Hid (∀ w', Below w.heap.size w w' → _) := fun w' hb => ncut_on s n t ht w w' hb (by omega) hn
    have C2' := fun w => rcut_any s n w (by omega)
    rw [ht] at C2'
    have C2 : Hid (∀ w, _) := C2'
    have C3 : Hid (∀ w', Below w.heap.size w w' → _) := fun w' hbl => ncount_on t b hb w w' hbl (by omega)
    have C4 : Hid (∀ w', Below w.heap.size w w' → _) := fun w' hbl => ncount_on s a ha w w' hbl (by omega)
    have g1 : decide ((s.size : Int) < (t.size : Int)) = false := by simp; omega
    have i0 : (t.size : Int) ≤ (s.size : Int) := by omega
    have hmm : max (0 : Int) (min n (a : Int)) = (b : Int) := by omega
    clear ht ha hb hab C2' hs hG
    go_enter Tryd.func4, Tryd.ntmps4
    go_wp2_with fail
    refine (C1.out _ (Below.refl _ _)).mono ?_
    rintro e w1 ⟨rfl, hb1⟩
    clear C1
    go_wp2_with fail
    refine (C2.out _).mono ?_
    rintro e w2 ⟨rfl, rfl⟩
    clear C2
    go_wp2_with fail
    refine (C3.out _ hb1).mono ?_
    rintro e w3 ⟨rfl, hb3⟩
    clear C3 hb1
    go_wp2_with fail
    refine (C4.out _ hb3).mono ?_
    rintro e w4 ⟨rfl, hb4⟩
    clear C4 hb3
    go_wp2_with fail
    all_goals first
      | (refine (C.out _ hb4).mono ?_
         rintro e w5 ⟨rfl, hb5⟩
         go_wp2_with fail
         go_ret
         exact ⟨rfl, hb5⟩)
      | (exfalso; omega)
  · have g0 : decide ((1024 : Int) < (s.size : Int)) = true := by simp; omega
    clear hs hG
    go_enter Tryd.func4, Tryd.ntmps4
    go_wp2_with fail
    refine (C.out _ (Below.refl _ _)).mono ?_
    rintro e w5 ⟨rfl, hb5⟩
    go_wp2_with fail
    go_ret
    exact ⟨rfl, hb5⟩
end Go.Proofs.YtpabafkgcofhdaaDoor
