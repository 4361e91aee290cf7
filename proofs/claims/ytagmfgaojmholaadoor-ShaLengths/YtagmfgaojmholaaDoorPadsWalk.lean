import Derived.Test.YtagmfgaojmholaaDoorRPad
namespace Go.Proofs.YtagmfgaojmholaaDoor
open Go.RowKit
set_option linter.unusedSimpArgs false

theorem padB_size (n : Nat) : (padB n).size = 9 + zerosN n := by
  show (padL n).toArray.size = _
  rw [List.size_toArray]
  simp [padL, lenL_length]
  omega
theorem zerosN_mod (n : Nat) : (n + (9 + zerosN n)) % 64 = 0 := by unfold zerosN; omega
theorem zerosN_le (n : Nat) : zerosN n ≤ 63 := by unfold zerosN; omega

set_option maxHeartbeats 2000000 in
theorem pads_bad (n : Int) (w : World) (hB : GlobB w)
    (cl : ∀ w, Calls Tryd.prog 12 #[.int .i64 n] w fun e w' => e = .returned (.tuple #[.string ⟨#[]⟩, .int .i64 1]) ∧ Below w.heap.size w w')
    (cr : ∀ w, Calls Tryd.prog 13 #[.int .i64 n] w fun e w' => e = .returned (.tuple #[.string ⟨#[]⟩, .int .i64 1]) ∧ Below w.heap.size w w') :
    Calls Tryd.prog 4 #[.int .i64 n] w fun e w' => e = .returned (.bool true) ∧ Below w.heap.size w w' := by
  have HB : Hid (GlobB w) := hB
  have CL : Hid (∀ w, _) := cl
  have CR : Hid (∀ w, _) := cr
  clear hB cl cr
  go_enter Tryd.func4, Tryd.ntmps4
  go_wp2_with fail
  refine (CL.out _).mono ?_
  rintro e w1 ⟨rfl, hb1⟩
  go_wp2_with fail
  refine (CR.out _).mono ?_
  rintro e w2 ⟨rfl, hb2⟩
  have hb12 := below_step hb1 (Nat.le_refl _) hb2
  go_wp2_with fail
  refine (begin_any _ (HB.out.below hb12)).mono ?_
  rintro e w3 ⟨rfl, hb3⟩
  go_wp2_with fail
  refine (rbegin_any _).mono ?_
  rintro e w4 ⟨rfl, hb4⟩
  go_wp2_with fail
  go_ret
  exact ⟨rfl, below_step (below_step hb12 (Nat.le_refl _) hb3) (Nat.le_refl _) hb4⟩

set_option maxHeartbeats 2000000 in
theorem pads_ok (n : Nat) (w : World) (hn : n ≤ 1125899906842624) :
    Calls Tryd.prog 4 #[.int .i64 (n : Int)] w fun e w' => e = .returned (.bool true) ∧ Below w.heap.size w w' := by
  have CL : Hid (∀ w, _) := fun w => pad_ok n w hn
  have CR : Hid (∀ w, _) := fun w => rpad_ok n w hn
  have hz := zerosN_le n
  have hm := zerosN_mod n
  have hs := padB_size n
  have hb : bt (padB n) 0 = 128 := rfl
  generalize padB n = P at *
  generalize zerosN n = z at *
  have g9 : (9 : Int) ≤ (P.size : Int) := by omega
  have g72 : (P.size : Int) ≤ 72 := by omega
  have gm : (((n : Int) + (P.size : Int)) % 64 == 0) = true := by rw [beq_iff_eq]; omega
  have g0 : 0 < P.size := by omega
  have gb : ((P[0].toNat : Int)) = 128 := by rw [bt_get, hb]; rfl
  clear hz hm hs hb
  go_enter Tryd.func4, Tryd.ntmps4
  go_wp2_with fail
  refine (CL.out _).mono ?_
  rintro e w1 ⟨rfl, hb1⟩
  go_wp2_with fail
  refine (CR.out _).mono ?_
  rintro e w2 ⟨rfl, hb2⟩
  go_wp2_with fail
  go_ret
  exact ⟨rfl, below_step hb1 (Nat.le_refl _) hb2⟩

theorem shaPads_walk (n : Int) (w : World) (hB : GlobB w) :
    Calls Tryd.prog 4 #[.int .i64 n] w fun e w' => e = .returned (.bool true) ∧ Below w.heap.size w w' := by
  by_cases h1 : n < 0
  · exact pads_bad n w hB (fun w => pad_low n w h1) (fun w => rpad_low n w h1)
  · by_cases h2 : 1125899906842624 < n
    · exact pads_bad n w hB (fun w => pad_high n w h2) (fun w => rpad_high n w h2)
    · obtain ⟨m, rfl⟩ : ∃ m : Nat, n = (m : Int) := ⟨n.toNat, by omega⟩
      exact pads_ok m w (by omega)
end Go.Proofs.YtagmfgaojmholaaDoor
