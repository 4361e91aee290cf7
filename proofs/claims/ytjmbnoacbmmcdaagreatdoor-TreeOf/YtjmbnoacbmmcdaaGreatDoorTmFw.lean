/- The laws' few (layer 11). -/
import Derived.Test.YtjmbnoacbmmcdaaGreatDoorP11
import Derived.Test.YtjmbnoacbmmcdaaGreatDoorTS
namespace Go.Proofs.YtjmbnoacbmmcdaaGreatDoor
open Go.RowKit
set_option linter.unusedSimpArgs false

/-- Few operations, of few bytes. -/
def FewO (l : List OpT) (most : Nat) : Prop := l.length ≤ most ∧ ∀ i, i < l.length → LightO (oL l i)

theorem opOk_at (l : List OpT) (h : ∀ q ∈ l, OpOk q) (i : Nat) (hi : i < l.length) : (oL l i).2.2.2.2.1.size ≤ maxLen ∧ (oL l i).2.2.2.2.2.size ≤ maxLen := (h _ (oL_mem l i hi)).2

set_option maxRecDepth 100000 in
set_option maxHeartbeats 2000000 in
theorem few11 (l : List OpT) (a : Option Addr) (n c most : Nat) (w : World) (hm : n ≤ maxLen) (hmo : most ≤ 1000) (hI : OpsAt w a n l) (hz : ∀ q ∈ l, OpOk q) (D : Bool) (hD : D = true ↔ FewO l most) :
    Calls Tryz.prog 6 #[.slice a n c, .int .i64 most] w fun e w' => e = .returned (.bool D) ∧ Below w.heap.size w w' := by
  have HD : Hid (D = true ↔ FewO l most) := hD
  have HI : Hid (OpsAt w a n l) := hI
  have HN : Hid (l.length = n) := hI.1
  have HZ : Hid (∀ q ∈ l, OpOk q) := hz
  have hm' : n ≤ 9223372036854775807 := hm
  clear hI hz hm hD
  go_enter Tryz.func6, Tryz.ntmps6
  go_wp2_with fail
  go_loopw [5] (fun i wr => ∃ k : Nat, k ≤ n ∧ k ≤ most ∧ i = .int .i64 k ∧ Hid (∀ j, j < k → LightO (oL l j)) ∧ Hid (Below w.heap.size w wr)) (fun i _ => n - (intOf i).toNat)
  case atStart => exact ⟨0, Nat.zero_le _, Nat.zero_le _, rfl, fun j hj => absurd hj (Nat.not_lt_zero _), Below.refl _ _⟩
  case round =>
    obtain ⟨k, hk, hkm, rfl, HL, HB⟩ := hrel
    by_cases hlt : k < n
    · have b0 : (k : Int) < (n : Int) := by omega
      by_cases h40 : k < most
      · have b1 : (k : Int) < (most : Int) := by omega
        obtain ⟨b, off, rfl, _⟩ := HI.out.2.some (by omega)
        obtain ⟨x0, x1, x2, x3, x4, x5, x6, x7, x8⟩ := (HI.out.below HB.out).cells k hlt
        obtain ⟨z7, z8⟩ := opOk_at l HZ.out k (by rw [HN.out]; exact hlt)
        by_cases he : LightO (oL l k)
        · have CL : Hid (Calls _ _ _ _ _) := rlight_any (oL l k) true ⟨fun _ => he, fun _ => rfl⟩ wr z7 z8
          have HL' : Hid (∀ j, j < k + 1 → LightO (oL l j)) := by
            show ∀ j, _
            intro j hj
            by_cases e : j = k
            · subst e; exact he
            · exact HL.out j (by omega)
          obtain ⟨⟨k0, ⟨k1, k2⟩, ⟨k3, k4⟩, ⟨k5, k6⟩, s7, s8⟩, hkk⟩ : ∃ s, s = oL l k := ⟨_, rfl⟩
          rw [← hkk] at x0 x1 x2 x3 x4 x5 x6 x7 x8 CL
          simp only [opA] at CL
          clear he HL z7 z8 hkk
          go_wp2_with fail
          refine CL.out.mono ?_
          rintro e w1 ⟨rfl, hb1⟩
          have HB1 : Hid (Below w.heap.size w w1) := below_step HB.out (Nat.le_refl _) hb1
          clear CL HB hb1
          go_wp2_with fail
          refine ⟨⟨k + 1, by omega, by omega, by go_num, HL', HB1⟩, ?_⟩
          simp [intOf]; omega
        · obtain rfl : D = false := by
            cases D with
            | false => rfl
            | true => exact absurd ((HD.out.1 rfl).2 k (by rw [HN.out]; exact hlt)) he
          have CL : Hid (Calls _ _ _ _ _) := rlight_any (oL l k) false ⟨fun h => (by cases h), fun h => absurd h he⟩ wr z7 z8
          obtain ⟨⟨k0, ⟨k1, k2⟩, ⟨k3, k4⟩, ⟨k5, k6⟩, s7, s8⟩, hkk⟩ : ∃ s, s = oL l k := ⟨_, rfl⟩
          rw [← hkk] at x0 x1 x2 x3 x4 x5 x6 x7 x8 CL
          simp only [opA] at CL
          clear he HL z7 z8 hkk
          go_wp2_with fail
          refine CL.out.mono ?_
          rintro e w1 ⟨rfl, hb1⟩
          have HB1 : Hid (Below w.heap.size w w1) := below_step HB.out (Nat.le_refl _) hb1
          clear CL HB hb1
          go_wp2_with fail
          go_ret
          exact ⟨rfl, HB1.out⟩
      · have b1 : ¬ ((k : Int) < (most : Int)) := by omega
        have b2 : decide (n ≤ most) = false := by simp; omega
        obtain rfl : D = false := by
          cases D with
          | false => rfl
          | true => have := (HD.out.1 rfl).1; rw [HN.out] at this; omega
        go_wp2_with fail
        go_ret
        exact ⟨rfl, HB.out⟩
    · have hk' : k = n := by omega
      subst hk'
      have b2 : decide (k ≤ most) = true := by simp; omega
      obtain rfl : D = true := HD.out.2 ⟨by rw [HN.out]; omega, fun i hi => HL.out i (by rw [HN.out] at hi; exact hi)⟩
      go_wp2_with fail
      go_ret
      exact ⟨rfl, HB.out⟩

theorem few_yes (l : List OpT) (a : Option Addr) (n c most : Nat) (w : World) (hm : n ≤ maxLen) (hmo : most ≤ 1000) (hI : OpsAt w a n l) (hz : ∀ q ∈ l, OpOk q) (h : FewO l most) :
    Calls Tryz.prog 6 #[.slice a n c, .int .i64 most] w fun e w' => e = .returned (.bool true) ∧ Below w.heap.size w w' := few11 l a n c most w hm hmo hI hz true ⟨fun _ => h, fun _ => rfl⟩

theorem few_no (l : List OpT) (a : Option Addr) (n c most : Nat) (w : World) (hm : n ≤ maxLen) (hmo : most ≤ 1000) (hI : OpsAt w a n l) (hz : ∀ q ∈ l, OpOk q) (h : ¬ FewO l most) :
    Calls Tryz.prog 6 #[.slice a n c, .int .i64 most] w fun e w' => e = .returned (.bool false) ∧ Below w.heap.size w w' := few11 l a n c most w hm hmo hI hz false ⟨fun h' => (by cases h'), fun h' => absurd h' h⟩

theorem light_few (l : List OpT) (most : Nat) (h : FewO l most) (i : Nat) (hi : i < l.length) : (oL l i).2.2.2.2.1.size ≤ 1048576 ∧ (oL l i).2.2.2.2.2.size ≤ 9223372036854775807 := by
  have := h.2 i hi
  unfold LightO at this
  omega
end Go.Proofs.YtjmbnoacbmmcdaaGreatDoor
