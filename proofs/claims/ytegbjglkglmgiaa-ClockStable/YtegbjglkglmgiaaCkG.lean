/- The code's Stable (layer 10). -/
import Derived.Test.YtegbjglkglmgiaaCkF
namespace Go.Proofs.Ytegbjglkglmgiaa
open Go.RowKit
set_option linter.unusedSimpArgs false

theorem leastT_one (l : List (Int × Int)) (who : List Int) : leastT l who 1 = lastT l (who.getD 0 0) l.length := by
  show (if _ then _ else _) = _
  rw [if_pos (.inl rfl)]
theorem leastT_min (l : List (Int × Int)) (who : List Int) (i : Nat) (h : 0 < i) : leastT l who (i + 1) = min (leastT l who i) (lastT l (who.getD i 0) l.length) := by
  show (if _ then _ else _) = _
  by_cases hh : lastT l (who.getD i 0) l.length < leastT l who i
  · rw [if_pos (.inr hh)]; omega
  · rw [if_neg (fun h2 => h2.elim (by omega) hh)]; omega

set_option maxHeartbeats 4000000 in
set_option maxRecDepth 100000 in
theorem stable_any (l : List (Int × Int)) (who : List Int) (a a2 : Option Addr) (n m c c2 : Nat) (w : World) (hn : n ≤ 1048576) (hm : m ≤ 1048576) (hc2 : m ≤ c2) (hI : StampsAt w a n l) (hI2 : IntsAt w .i64 a2 m who) :
    Calls Try.prog 20 #[.slice a n c, .slice a2 m c2] w fun e w' => e = .returned (.int .i64 (leastT l who m)) ∧ Below w.heap.size w w' := by
  by_cases h0 : m = 0
  · subst h0
    show Calls _ _ _ _ fun e w' => e = .returned (.int .i64 0) ∧ Below w.heap.size w w'
    clear hI hI2
    go_enter Try.func20, Try.ntmps20
    go_wp2
    go_ret
    exact ⟨rfl, Below.refl _ _⟩
  · have g0 : ((m : Int) == 0) = false := by rw [beq_eq_false_iff_ne]; omega
    obtain ⟨b2, off2, rfl, hcl2⟩ := hI2.some (by omega)
    have hln : l.length = n := hI.1
    have CL : Hid (Calls Try.prog 25 #[.slice a n c] w fun e w' => ∃ h, e = .returned (.func (.func 26) #[] #[.pointer (some ⟨h, 0, none⟩)]) ∧ Blk w' 57 h (timesA l n) ∧ Below w.heap.size w w') := lastSeen_any l a n c w hn hI
    have HC2 : Hid (∀ w', Below w.heap.size w w' → ∀ i, i < m → w'.cell? ⟨b2, off2 + i, none⟩ = some (.int .i64 (who.getD i 0))) := fun w' hb i hi => by rw [hb.cell (World.block_lt_of_cell? w _ (hcl2 i hi))]; exact hcl2 i hi
    have m1 : (1 : Int) ≤ (m : Int) := by omega
    have hmc : (m : Int) ≤ (c2 : Int) := by omega
    obtain ⟨x0, HX0⟩ : ∃ x, Hid (x = who.getD 0 0) := ⟨_, rfl⟩
    clear hI hI2 hcl2
    by_cases hc1 : c2 = 1
    · subst hc1
      have hm1 : m = 1 := by omega
      subst hm1
      go_enter Try.func20, Try.ntmps20
      go_wp2_with fail
      refine Calls.mono CL.out ?_
      rintro e w1 ⟨h, rfl, hT, hb1⟩
      have T1 : Hid (Blk w1 57 h (timesA l n)) := hT
      have B1 : Hid (Below w.heap.size w w1) := hb1
      have r0 := HC2.out w1 hb1 0 (by omega)
      rw [← HX0.out, Nat.add_zero] at r0
      clear hT hb1 CL
      go_wp2_with fail
      refine (seen_any x0 h l n w1 T1.out).mono ?_
      rintro e w2 ⟨rfl, hw2⟩
      subst hw2
      have HL1 : Hid (lastT l x0 n = leastT l who 1) := by show _ = _; rw [leastT_one, HX0.out, hln]
      rw [HL1.out]
      clear HX0 r0 HL1
      go_wp2_with fail
      have HLN : Hid (l.length = n) := hln
      clear hln
      go_loopw [6, 22] (fun v i wr => v = .int .i64 (leastT l who 1) ∧ i = .int .i64 0 ∧ wr = w2) (fun _ _ _ => 0)
      case atStart => exact ⟨rfl, rfl, rfl⟩
      case round =>
        obtain ⟨rfl, rfl, rfl⟩ := hrel
        go_wp2
        go_ret
        exact ⟨rfl, B1.out⟩
    · have hc1' : ¬ (c2 - 1 = 0) := by omega
      go_enter Try.func20, Try.ntmps20
      go_wp2_with fail
      refine Calls.mono CL.out ?_
      rintro e w1 ⟨h, rfl, hT, hb1⟩
      have T1 : Hid (Blk w1 57 h (timesA l n)) := hT
      have B1 : Hid (Below w.heap.size w w1) := hb1
      have r0 := HC2.out w1 hb1 0 (by omega)
      rw [← HX0.out, Nat.add_zero] at r0
      clear hT hb1 CL
      go_wp2_with fail
      refine (seen_any x0 h l n w1 T1.out).mono ?_
      rintro e w2 ⟨rfl, hw2⟩
      subst hw2
      have HL1 : Hid (lastT l x0 n = leastT l who 1) := by show _ = _; rw [leastT_one, HX0.out, hln]
      rw [HL1.out]
      clear HX0 r0 HL1
      go_wp2_with fail
      have HLN : Hid (l.length = n) := hln
      clear hln
      go_loopw [6, 22] (fun v i wr => ∃ k : Nat, k + 1 ≤ m ∧ i = .int .i64 k ∧ v = .int .i64 (leastT l who (k + 1)) ∧ wr = w2) (fun _ i _ => m - (intOf i).toNat)
      case atStart => exact ⟨0, by omega, rfl, rfl, rfl⟩
      case round =>
        obtain ⟨k, hk, rfl, rfl, rfl⟩ := hrel
        by_cases hlt : k + 1 < m
        · obtain ⟨x, HX⟩ : ∃ x, Hid (x = who.getD (k + 1) 0) := ⟨_, rfl⟩
          have r0 := HC2.out wr B1.out (k + 1) hlt
          rw [← HX.out] at r0
          obtain ⟨E, HE⟩ : ∃ E, Hid (E = leastT l who (k + 1)) := ⟨_, rfl⟩
          obtain ⟨L, HL⟩ : ∃ L, Hid (L = lastT l x n) := ⟨_, rfl⟩
          have HN : Hid (leastT l who (k + 2) = min E L) := by show _ = _; rw [leastT_min l who (k + 1) (by omega), ← HX.out, HLN.out, HE.out, HL.out]
          rw [← HE.out]
          have r1 : wr.cell? ⟨b2, off2 + 1 + k, none⟩ = some (.int .i64 x) := by rw [show off2 + 1 + k = off2 + (k + 1) by omega]; exact r0
          have d0 : (k : Int) + 1 < (m : Int) := by omega
          have d1 : (k : Int) < (m : Int) - 1 := by omega
          clear r0 HX
          go_wp2_with fail
          have CS := seen_any x h l n wr T1.out
          rw [← HL.out] at CS
          refine CS.mono ?_
          clear CS
          rintro e w3 ⟨rfl, hw3⟩
          subst hw3
          clear HL r1
          by_cases hLE : L < E
          · have q0 : ¬ (E < L) := by omega
            rw [show min E L = L by omega] at HN
            go_wp2
            refine ⟨⟨k + 1, by omega, by go_num, by rw [HN.out], trivial⟩, ?_⟩
            simp [intOf]; omega
          · have q1 : E ≤ L := by omega
            rw [show min E L = E by omega] at HN
            go_wp2
            refine ⟨⟨k + 1, by omega, by go_num, by rw [HN.out], trivial⟩, ?_⟩
            simp [intOf]; omega
        · have hk' : m = k + 1 := by omega
          subst hk'
          go_wp2
          go_ret
          exact ⟨rfl, B1.out⟩
end Go.Proofs.Ytegbjglkglmgiaa
