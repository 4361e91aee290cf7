/- The walk of PolyMacs. -/
import Derived.Test.YtmegllddjlippaaDoorPyJ
namespace Go.Proofs.YtmegllddjlippaaDoor
open Go.RowKit
set_option linter.unusedSimpArgs false

/-- What the four calls answer. -/
theorem four_calls (key s t : ByteArray) (w : World) (hY : GlobY w) : ∃ (T : ByteArray) (x : Int) (b : Bool),
    (∀ w', Below w.heap.size w w' → Calls Tryd.prog 9 #[.string key, .string s] w' fun e w'' => e = .returned (.tuple #[.string T, .int .i64 x]) ∧ Below w.heap.size w w'') ∧
    (∀ w', Below w.heap.size w w' → Calls Tryd.prog 10 #[.string key, .string s] w' fun e w'' => e = .returned (.tuple #[.string T, .int .i64 x]) ∧ Below w.heap.size w w'') ∧
    (∀ w', Below w.heap.size w w' → Calls Tryd.prog 11 #[.string key, .string s, .string t] w' fun e w'' => e = .returned (.bool b) ∧ Below w.heap.size w w'') ∧
    (∀ w', Below w.heap.size w w' → Calls Tryd.prog 12 #[.string key, .string s, .string t] w' fun e w'' => e = .returned (.bool b) ∧ Below w.heap.size w w'') := by
  by_cases h : key.size = 32 ∧ s.size ≤ 65536
  · refine ⟨tagB key s, 0, ((tagB key s).toList == t.toList), fun w' hb => (mac_yes key s w' h.1 h.2 (hY.below hb)).mono ?_, fun w' hb => (rmac_yes key s w' h.1 h.2).mono ?_, fun w' hb => (check_yes key s t w' h.1 h.2 (hY.below hb)).mono ?_, fun w' hb => (rcheck_yes key s t w' h.1 h.2).mono ?_⟩
    all_goals
      rintro e w'' ⟨rfl, hb2⟩
      exact ⟨rfl, below_step hb (Nat.le_refl _) hb2⟩
  · refine ⟨⟨#[]⟩, 1, false, fun w' hb => (mac_no key s w' h).mono ?_, fun w' hb => (rmac_no key s w' h).mono ?_, fun w' hb => (check_no key s t w' h).mono ?_, fun w' hb => (rcheck_no key s t w' h).mono ?_⟩
    all_goals
      rintro e w'' ⟨rfl, hb2⟩
      exact ⟨rfl, below_step hb (Nat.le_refl _) hb2⟩

set_option maxRecDepth 100000 in
set_option maxHeartbeats 4000000 in
theorem polyMacs_walk (key s t : ByteArray) (w : World) (hY : GlobY w) :
    Calls Tryd.prog 3 #[.string key, .string s, .string t] w fun e w' => e = .returned (.bool true) ∧ Below w.heap.size w w' := by
  have CA : Hid (∀ w', Below w.heap.size w w' → _) := fun w' hb => awake_on w w' hY hb
  obtain ⟨T, x, b, c1, c2, c3, c4⟩ := four_calls key s t w hY
  have C1 : Hid (∀ w', Below w.heap.size w w' → _) := c1
  have C2 : Hid (∀ w', Below w.heap.size w w' → _) := c2
  have C3 : Hid (∀ w', Below w.heap.size w w' → _) := c3
  have C4 : Hid (∀ w', Below w.heap.size w w' → _) := c4
  clear c1 c2 c3 c4 hY
  by_cases hk : 128 < key.size
  · have g1 : decide ((128 : Int) < (key.size : Int)) = true := by simp; omega
    clear hk C1 C2 C3 C4
    go_enter Tryd.func3, Tryd.ntmps3
    go_wp2_with fail
    refine (CA.out _ (Below.refl _ _)).mono ?_
    rintro e w1 ⟨rfl, hb1⟩
    go_wp2_with fail
    go_ret
    exact ⟨rfl, hb1⟩
  · have g1 : decide ((128 : Int) < (key.size : Int)) = false := by simp; omega
    by_cases hs : 512 < s.size
    · have g2 : decide ((512 : Int) < (s.size : Int)) = true := by simp; omega
      by_cases hs2 : s.size ≤ 65536
      · have g3 : decide ((s.size : Int) ≤ 65536) = true := by simp; omega
        clear hk hs hs2 C1 C2 C3 C4
        go_enter Tryd.func3, Tryd.ntmps3
        go_wp2_with fail
        refine (CA.out _ (Below.refl _ _)).mono ?_
        rintro e w1 ⟨rfl, hb1⟩
        go_wp2_with fail
        go_ret
        exact ⟨rfl, hb1⟩
      · have g3 : decide ((s.size : Int) ≤ 65536) = false := by simp; omega
        by_cases ht : 128 < t.size
        · have g4 : decide ((128 : Int) < (t.size : Int)) = true := by simp; omega
          clear hk hs hs2 ht C1 C2 C3 C4
          go_enter Tryd.func3, Tryd.ntmps3
          go_wp2_with fail
          refine (CA.out _ (Below.refl _ _)).mono ?_
          rintro e w1 ⟨rfl, hb1⟩
          go_wp2_with fail
          go_ret
          exact ⟨rfl, hb1⟩
        · have g4 : decide ((128 : Int) < (t.size : Int)) = false := by simp; omega
          clear hk hs hs2 ht
          go_enter Tryd.func3, Tryd.ntmps3
          go_wp2_with fail
          refine (C1.out _ (Below.refl _ _)).mono ?_
          rintro e w1 ⟨rfl, hB1⟩
          clear C1
          go_wp2_with fail
          refine (C2.out _ hB1).mono ?_
          rintro e w2 ⟨rfl, hB2⟩
          clear C2 hB1
          go_wp2_with fail
          refine (C3.out _ hB2).mono ?_
          rintro e w3 ⟨rfl, hB3⟩
          clear C3 hB2
          go_wp2_with fail
          refine (C4.out _ hB3).mono ?_
          rintro e w4 ⟨rfl, hB4⟩
          clear C4 hB3
          go_wp2_with fail
          refine (CA.out _ hB4).mono ?_
          rintro e w5 ⟨rfl, hB5⟩
          clear CA hB4
          go_wp2_with fail
          go_ret
          exact ⟨rfl, hB5⟩
    · have g2 : decide ((512 : Int) < (s.size : Int)) = false := by simp; omega
      by_cases ht : 128 < t.size
      · have g4 : decide ((128 : Int) < (t.size : Int)) = true := by simp; omega
        clear hk hs ht C1 C2 C3 C4
        go_enter Tryd.func3, Tryd.ntmps3
        go_wp2_with fail
        refine (CA.out _ (Below.refl _ _)).mono ?_
        rintro e w1 ⟨rfl, hb1⟩
        go_wp2_with fail
        go_ret
        exact ⟨rfl, hb1⟩
      · have g4 : decide ((128 : Int) < (t.size : Int)) = false := by simp; omega
        clear hk hs ht
        go_enter Tryd.func3, Tryd.ntmps3
        go_wp2_with fail
        refine (C1.out _ (Below.refl _ _)).mono ?_
        rintro e w1 ⟨rfl, hB1⟩
        clear C1
        go_wp2_with fail
        refine (C2.out _ hB1).mono ?_
        rintro e w2 ⟨rfl, hB2⟩
        clear C2 hB1
        go_wp2_with fail
        refine (C3.out _ hB2).mono ?_
        rintro e w3 ⟨rfl, hB3⟩
        clear C3 hB2
        go_wp2_with fail
        refine (C4.out _ hB3).mono ?_
        rintro e w4 ⟨rfl, hB4⟩
        clear C4 hB3
        go_wp2_with fail
        refine (CA.out _ hB4).mono ?_
        rintro e w5 ⟨rfl, hB5⟩
        clear CA hB4
        go_wp2_with fail
        go_ret
        exact ⟨rfl, hB5⟩
end Go.Proofs.YtmegllddjlippaaDoor
