/- The code's lastSeen (layer 10). -/
import Derived.Test.YtegbjglkglmgiaaCkE
namespace Go.Proofs.Ytegbjglkglmgiaa
open Go.RowKit
set_option linter.unusedSimpArgs false

set_option maxHeartbeats 4000000 in
set_option maxRecDepth 100000 in
theorem lastSeen_any (l : List (Int × Int)) (a : Option Addr) (n c : Nat) (w : World) (hn : n ≤ 1048576) (hI : StampsAt w a n l) :
    Calls Try.prog 25 #[.slice a n c] w fun e w' => ∃ h, e = .returned (.func (.func 26) #[] #[.pointer (some ⟨h, 0, none⟩)]) ∧ Blk w' 57 h (timesA l n) ∧ Below w.heap.size w w' := by
  have hmf : ∀ (fn : Fn) (first cap : Array Value) (w : World), (Instr.makeFunc fn first cap).run Try.prog w = .ok (.func fn first cap) w := fun _ _ _ _ => rfl
  have HI : Hid (StampsAt w a n l) := hI
  clear hI
  obtain ⟨h, hh⟩ : ∃ h, h = w.heap.size := ⟨_, rfl⟩
  obtain ⟨W1, hW1⟩ : ∃ W1, W1 = w.alloc (.cells #[.int .i64 0, .int .i64 0, .int .i64 0, .int .i64 0, .int .i64 0, .int .i64 0, .int .i64 0] 57) := ⟨_, rfl⟩
  have HT0 : Hid (Blk W1 57 h (timesA l 0)) := by show Blk _ _ _ _; rw [hW1]; exact Blk.new' _ _ _ _ hh.symm
  have HB0 : Hid (Below w.heap.size w W1) := by rw [hW1]; exact below_new _ _
  have Lh : Hid (w.heap.size ≤ h) := Nat.le_of_eq hh.symm
  go_enter Try.func25, Try.ntmps25
  go_wp2_with fail
  rw [← hh, ← hW1]
  clear hh hW1
  go_loopw [8] (fun i wr => ∃ k : Nat, k ≤ n ∧ i = .int .i64 k ∧ Hid (Blk wr 57 h (timesA l k)) ∧ Hid (Below w.heap.size w wr)) (fun i _ => n - (intOf i).toNat)
  case atStart => exact ⟨0, Nat.zero_le _, rfl, HT0, HB0⟩
  case round =>
    clear HT0 HB0
    obtain ⟨k, hk, rfl, HT, HB⟩ := hrel
    by_cases hlt : k < n
    · obtain ⟨b, off, rfl, hcl⟩ := HI.out.some (by omega)
      obtain ⟨q0, q1⟩ := hcl k hlt
      have d0 : (k : Int) < (n : Int) := by omega
      obtain ⟨s, hs⟩ : ∃ s, s = stL l k := ⟨_, rfl⟩
      rw [← hs] at q0 q1
      have r0 : wr.cell? ⟨b, off + k * 2, none⟩ = some (.int .i64 s.1) := by rw [HB.out.cell (World.block_lt_of_cell? w _ q0)]; exact q0
      have r1 : wr.cell? ⟨b, off + k * 2 + 1, none⟩ = some (.int .i64 s.2) := by rw [HB.out.cell (World.block_lt_of_cell? w _ q1)]; exact q1
      have C' := fun w => checkS_any s w
      clear q0 q1 hcl
      by_cases hM : MayS s
      · rw [if_pos hM] at C'
        obtain ⟨t, u'⟩ := s
        obtain ⟨u, hu⟩ : ∃ u : Nat, u' = (u : Int) := ⟨u'.toNat, by have := hM.2.2.1; simp at this; omega⟩
        subst hu
        have hu6 : u ≤ 6 := by have := hM.2.2.2; simp at this; omega
        have hu7 : (u : Int) < 7 := by omega
        have C : Hid (∀ w, Calls Try.prog 11 #[.agg #[.int .i64 t, .int .i64 (u : Int)]] w fun e w' => e = .returned (.int .i64 0) ∧ Below w.heap.size w w') := C'
        obtain ⟨L, HL⟩ : ∃ L, Hid (L = lastT l (u : Int) k) := ⟨_, rfl⟩
        have hst := timesA_set l k (by rw [← hs]; exact hM) u (by rw [← hs])
        rw [← hs, ← HL.out] at hst
        have HST : Hid ((timesA l k).setIfInBounds u (.int .i64 (max L t)) = timesA l (k + 1)) := hst
        clear hst hM C' hs
        by_cases hLt : L < t
        · have m0 : ¬ (t < L) := by omega
          rw [show max L t = t by omega] at HST
          go_wp2_with fail
          refine (C.out _).mono ?_
          rintro e w1 ⟨rfl, hb1⟩
          have hbw : Hid (Below wr.heap.size wr w1) := below_step (below_new wr _) (Nat.le_refl _) hb1
          have S1 : Blk w1 23 wr.heap.size #[.int .i64 t, .int .i64 (u : Int)] := (Blk.new _ _ _).on hb1
          have T1 : Hid (Blk w1 57 h (timesA l k)) := HT.out.on hbw.out
          have c0 : w1.cell? ⟨wr.heap.size, 0, none⟩ = some (.int .i64 t) := S1.cell 0
          have c1 : w1.cell? ⟨wr.heap.size, 1, none⟩ = some (.int .i64 (u : Int)) := S1.cell 1
          have c2 : w1.cell? ⟨h, u, none⟩ = some (.int .i64 L) := by rw [T1.out.cell u, timesA_at l k u hu6, ← HL.out]
          have f2 : w1.frozen? ⟨h, u, none⟩ = false := T1.out.free u
          have B1 : Hid (Below w.heap.size w w1) := below_step HB.out (Nat.le_refl _) hbw.out
          clear hb1 hbw S1 C HT HB
          go_wp2
          go_region
          all_goals go_wp2
          all_goals refine ⟨⟨k + 1, by omega, by go_num, ?_, (B1.out.setCell (p := ⟨h, u, none⟩) Lh.out _).drew⟩, ?_⟩
          all_goals first | (show Blk _ _ _ _; rw [← HST.out]; exact (T1.out.setAt u _ : Blk _ _ _ _)) | (simp [intOf]; omega)
        · have m1 : t ≤ L := by omega
          rw [show max L t = L by omega] at HST
          go_wp2_with fail
          refine (C.out _).mono ?_
          rintro e w1 ⟨rfl, hb1⟩
          have hbw : Hid (Below wr.heap.size wr w1) := below_step (below_new wr _) (Nat.le_refl _) hb1
          have S1 : Blk w1 23 wr.heap.size #[.int .i64 t, .int .i64 (u : Int)] := (Blk.new _ _ _).on hb1
          have T1 : Hid (Blk w1 57 h (timesA l k)) := HT.out.on hbw.out
          have c0 : w1.cell? ⟨wr.heap.size, 0, none⟩ = some (.int .i64 t) := S1.cell 0
          have c1 : w1.cell? ⟨wr.heap.size, 1, none⟩ = some (.int .i64 (u : Int)) := S1.cell 1
          have c2 : w1.cell? ⟨h, u, none⟩ = some (.int .i64 L) := by rw [T1.out.cell u, timesA_at l k u hu6, ← HL.out]
          have f2 : w1.frozen? ⟨h, u, none⟩ = false := T1.out.free u
          have B1 : Hid (Below w.heap.size w w1) := below_step HB.out (Nat.le_refl _) hbw.out
          clear hb1 hbw S1 C HT HB
          go_wp2
          go_region
          all_goals go_wp2
          all_goals refine ⟨⟨k + 1, by omega, by go_num, ?_, (B1.out.setCell (p := ⟨h, u, none⟩) Lh.out _).drew⟩, ?_⟩
          all_goals first | (show Blk _ _ _ _; rw [← HST.out]; exact (T1.out.setAt u _ : Blk _ _ _ _)) | (simp [intOf]; omega)
      · rw [if_neg hM] at C'
        have hsame := timesA_same l k (by rw [← hs]; exact hM)
        have HSM : Hid (timesA l (k + 1) = timesA l k) := hsame
        obtain ⟨t, u⟩ := s
        have C : Hid (∀ w, Calls Try.prog 11 #[.agg #[.int .i64 t, .int .i64 u]] w fun e w' => e = .returned (.int .i64 1) ∧ Below w.heap.size w w') := C'
        clear hsame hM C' hs
        go_wp2_with fail
        refine (C.out _).mono ?_
        rintro e w1 ⟨rfl, hb1⟩
        have hbw : Hid (Below wr.heap.size wr w1) := below_step (below_new wr _) (Nat.le_refl _) hb1
        have T1 : Hid (Blk w1 57 h (timesA l k)) := HT.out.on hbw.out
        have B1 : Hid (Below w.heap.size w w1) := below_step HB.out (Nat.le_refl _) hbw.out
        clear hb1 hbw C HT HB
        go_wp2
        refine ⟨⟨k + 1, by omega, by go_num, by rw [HSM.out]; exact T1, B1⟩, ?_⟩
        simp [intOf]; omega
    · have hk' : k = n := by omega
      subst hk'
      go_wp2
      go_ret
      exact ⟨h, rfl, HT.out, HB.out⟩
end Go.Proofs.Ytegbjglkglmgiaa
