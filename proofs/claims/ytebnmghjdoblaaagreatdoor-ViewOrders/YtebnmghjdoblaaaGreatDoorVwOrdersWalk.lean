/- The walk of ViewOrders. -/
import Derived.Test.YtebnmghjdoblaaaGreatDoorTk
import Derived.Test.YtebnmghjdoblaaaGreatDoorVG
import Derived.Test.YtebnmghjdoblaaaGreatDoorVI
import Derived.Test.YtebnmghjdoblaaaGreatDoorVC
namespace Go.Proofs.YtebnmghjdoblaaaGreatDoor
open Go.RowKit
set_option linter.unusedSimpArgs false

theorem steps_le {R : List LineT} (h : StepsL 0 R) : ∀ k, k < R.length → (lL R k).1 ≤ (k : Int) := by
  intro k
  induction k with
  | zero => intro hk; have := (steps_at R 0 h 0 hk).2; rw [if_pos rfl] at this; omega
  | succ k ih =>
    intro hk
    have h1 := (steps_at R 0 h (k + 1) hk).2
    rw [if_neg (by omega), show k + 1 - 1 = k by omega] at h1
    have := ih (by omega)
    omega

set_option maxRecDepth 100000 in
set_option maxHeartbeats 16000000 in
theorem viewOrders_walk (a : Option Addr) (l : List OpT) (n c : Nat) (w : World) (hm : n ≤ maxLen) (hI : OpsAt w a n l) (hz : ∀ q ∈ l, OpOk q) (hG : Glob8 w) (hM : MaxL w) :
    Calls Tryz.prog 6 #[.slice a n c] w fun e w' => e = .returned (.bool true) ∧ Below w.heap.size w w' := by
  have CW : Hid (∀ W, Below w.heap.size w W → Calls Tryz.prog 11 #[] W fun e w' => e = .returned (.bool true) ∧ Below W.heap.size W w') := fun W hW => awake12_on w W hG hM hW
  have HG : Hid (Glob8 w) := hG
  have CM : Hid (Calls _ _ _ _ _) := made_any a l n c w hm hI hz
  have hmn : n ≤ 9223372036854775807 := hm
  clear hG hM hI hz hm
  go_enter Tryz.func6, Tryz.ntmps6
  go_wp2_with fail
  refine CM.out.mono ?_
  rintro e w1 ⟨hMO, hb1⟩
  have HB1 : Hid (Below w.heap.size w w1) := hb1
  clear hb1 CM
  rcases hMO with rfl | ⟨v, NN, rfl, hMay, hNl, hNd, hNV⟩
  · have HBz := HB1
    go_wp2_with fail
    refine (CW.out _ HBz.out).mono ?_
    rintro e w99 ⟨rfl, hb99⟩
    have hB99 := below_step HBz.out (Nat.le_refl _) hb99
    clear CW hb99
    go_wp2_with fail
    go_ret
    exact ⟨rfl, hB99⟩
  · obtain ⟨na, nc, rfl, hNN⟩ := hNV
    have hzN : ∀ k, k < NN.length → (nL NN k).2.2.1.size ≤ 65536 ∧ (nL NN k).2.2.2.size ≤ maxLen := fun k hk => by
      rw [nL_getE NN k hk]
      obtain ⟨_, h2, h3⟩ := hNd _ (List.getElem_mem hk)
      exact ⟨by omega, Nat.le_trans h2 (by decide)⟩
    have CN1 : Hid (Calls Tryz.prog 12 #[.slice na NN.length nc] w1 fun e w' => ∃ v, e = .returned (.tuple #[v, .int .i64 0]) ∧ OwnL w' w1.heap.size v (linesP NN) ∧ Below w1.heap.size w1 w') := by
      have h := linesV_any NN na NN.length nc w1 (by omega) hzN hNN (HG.out.below HB1.out) true ⟨fun _ => hMay, fun _ => rfl⟩
      rw [if_pos rfl, if_pos rfl] at h
      exact h
    have hRN : (linesP NN).length ≤ 90 := Nat.le_trans (linesP_len hMay) (by omega)
    have HSt : Hid (StepsL 0 (linesP NN)) := show_steps NN _ _ _ (Int.le_refl _)
    have HOrd : Hid (OrdAt (linesP NN)) := show_ord NN (by omega) _ _ _
    obtain ⟨R, hR⟩ : ∃ R, linesP NN = R := ⟨_, rfl⟩
    rw [hR] at CN1 hRN HSt HOrd
    generalize NN.length = nl at *
    clear hMay hNl hNd hNN hzN hR
    go_wp2_with fail
    refine CN1.out.mono ?_
    rintro e w5 ⟨v5, rfl, ho5, hb5⟩
    obtain ⟨a5, c5, rfl, r5, _⟩ := OwnL.lines2 ho5
    obtain ⟨rn, hrn⟩ : ∃ rn, R.length = rn := ⟨_, rfl⟩
    have HRl : Hid (R.length = rn) := hrn
    rw [hrn] at r5 hRN ⊢
    have HL : Hid (LinesAt w5 a5 rn R) := r5
    have HB5 : Hid (Below w.heap.size w w5) := below_step HB1.out (Nat.le_refl _) hb5
    clear ho5 hb5 CN1 r5 hrn
    go_wp2_with fail
    go_loopw [7] (fun i wr => ∃ k : Nat, k ≤ rn ∧ i = .int .i64 k ∧ Hid (Below w5.heap.size w5 wr)) (fun i _ => rn - (intOf i).toNat)
    case atStart => exact ⟨0, Nat.zero_le _, rfl, Below.refl _ _⟩
    case round =>
      obtain ⟨k, hk, rfl, HB⟩ := hrel
      by_cases hlt : k < rn
      · have b0 : (k : Int) < (rn : Int) := by omega
        have hst := steps_at R 0 HSt.out k (by rw [HRl.out]; exact hlt)
        obtain ⟨b, off, rfl, _⟩ := HL.out.2.some (by omega)
        have hck := (HL.out.below HB.out).cells k hlt
        have w1k : IntKind.i64.wrap ((k : Int) + 1) = ((k + 1 : Nat) : Int) := by rw [IntKind.wrap_i64]; omega
        cases k with
        | zero =>
          rw [if_pos rfl] at hst
          have hd0 : (lL R 0).1 = 0 := by omega
          rw [hd0] at hck
          have x0 : wr.cell? ⟨b, off + 0 * 5, none⟩ = some (.int .i64 0) := hck.1
          have x0' : wr.cell? ⟨b, off, none⟩ = some (.int .i64 0) := by have h := hck.1; rw [Nat.zero_mul, Nat.add_zero] at h; exact h
          have hS0 : wr.cell? ⟨b, off, none⟩ = some (.int .i64 0) := x0'
          have w0m : IntKind.i64.wrap ((0 : Int) - 1) = (0 : Int) - 1 := by decide
          clear hst hck x0 x0'
          go_wp2_with fail
          refine wp_region_noPanic ?_
          refine wp_region_held_drew (S := fun W => W.cell? ⟨b, off, none⟩ = some (.int .i64 0)) (by kernel_rfl) (by first | exact trivial | assumption | exact ⟨by assumption, by assumption⟩) (fun hHeld => ?_)
          refine tk 0 (v := ?_) rfl rfl ?_ ?_
          rotate_left
          · intro w hSw; (try dsimp only at hSw); go_simp; try with_reducible rfl
          try simp only [Act.put, za, zb, zc]
          refine tk 1 (v := ?_) rfl rfl ?_ ?_
          rotate_left
          · intro w hSw; (try dsimp only at hSw); go_simp; try with_reducible rfl
          try simp only [Act.put, za, zb, zc]
          refine tk 2 (v := ?_) rfl rfl ?_ ?_
          rotate_left
          · intro w hSw; (try dsimp only at hSw); go_simp; try with_reducible rfl
          try simp only [Act.put, za, zb, zc]
          refine tk 3 (v := ?_) rfl rfl ?_ ?_
          rotate_left
          · intro w hSw; (try dsimp only at hSw); go_simp; try with_reducible rfl
          try simp only [Act.put, za, zb, zc]
          refine tk 4 (v := ?_) rfl rfl ?_ ?_
          rotate_left
          · intro w hSw; (try dsimp only at hSw); go_simp; try with_reducible rfl
          try simp only [Act.put, za, zb, zc]
          refine tk 5 (v := ?_) rfl rfl ?_ ?_
          rotate_left
          · intro w hSw; (try dsimp only at hSw); go_simp; try with_reducible rfl
          try simp only [Act.put, za, zb, zc]
          refine tk 6 (v := ?_) rfl rfl ?_ ?_
          rotate_left
          · intro w hSw; (try dsimp only at hSw); go_simp; try with_reducible rfl
          try simp only [Act.put, za, zb, zc]
          refine tk 7 (v := ?_) rfl rfl ?_ ?_
          rotate_left
          · intro w hSw; (try dsimp only at hSw); go_simp; try with_reducible rfl
          try simp only [Act.put, za, zb, zc]
          refine tk 8 (v := ?_) rfl rfl ?_ ?_
          rotate_left
          · intro w hSw; (try dsimp only at hSw); go_simp; try with_reducible rfl
          try simp only [Act.put, za, zb, zc]
          refine tk 9 (v := ?_) rfl rfl ?_ ?_
          rotate_left
          · intro w hSw; (try dsimp only at hSw); go_simp; try with_reducible rfl
          try simp only [Act.put, za, zb, zc]
          refine tk 10 (v := ?_) rfl rfl ?_ ?_
          rotate_left
          · intro w hSw; (try dsimp only at hSw); go_simp; try with_reducible rfl
          try simp only [Act.put, za, zb, zc]
          refine tk 11 (v := ?_) rfl rfl ?_ ?_
          rotate_left
          · intro w hSw; (try dsimp only at hSw); go_simp; try with_reducible rfl
          try simp only [Act.put, za, zb, zc]
          refine tk 12 (v := ?_) rfl rfl ?_ ?_
          rotate_left
          · intro w hSw; (try dsimp only at hSw); go_simp; try with_reducible rfl
          try simp only [Act.put, za, zb, zc]
          refine tk 13 (v := ?_) rfl rfl ?_ ?_
          rotate_left
          · intro w hSw; (try dsimp only at hSw); go_simp; try with_reducible rfl
          try simp only [Act.put, za, zb, zc]
          refine tk 14 (v := ?_) rfl rfl ?_ ?_
          rotate_left
          · intro w hSw; (try dsimp only at hSw); go_simp; try with_reducible rfl
          try simp only [Act.put, za, zb, zc]
          refine tk 15 (v := ?_) rfl rfl ?_ ?_
          rotate_left
          · intro w hSw; (try dsimp only at hSw); go_simp; try with_reducible rfl
          try simp only [Act.put, za, zb, zc]
          refine tk 16 (v := ?_) rfl rfl ?_ ?_
          rotate_left
          · intro w hSw; (try dsimp only at hSw); go_simp; try with_reducible rfl
          try simp only [Act.put, za, zb, zc]
          refine tk 17 (v := ?_) rfl rfl ?_ ?_
          rotate_left
          · intro w hSw; (try dsimp only at hSw); go_simp; try with_reducible rfl
          try simp only [Act.put, za, zb, zc]
          refine tk 18 (v := ?_) rfl rfl ?_ ?_
          rotate_left
          · intro w hSw; (try dsimp only at hSw); go_simp; try with_reducible rfl
          try simp only [Act.put, za, zb, zc]
          refine tk 19 (v := ?_) rfl rfl ?_ ?_
          rotate_left
          · intro w hSw; (try dsimp only at hSw); go_simp; try with_reducible rfl
          try simp only [Act.put, za, zb, zc]
          refine tk 20 (v := ?_) rfl rfl ?_ ?_
          rotate_left
          · intro w hSw; (try dsimp only at hSw); go_simp; try with_reducible rfl
          try simp only [Act.put, za, zb, zc]
          refine tk 21 (v := ?_) rfl rfl ?_ ?_
          rotate_left
          · intro w hSw; (try dsimp only at hSw); go_simp; try with_reducible rfl
          try simp only [Act.put, za, zb, zc]
          refine tn 22 rfl rfl ?_
          try simp only [Act.put, za, zb, zc]
          refine tn 23 rfl rfl ?_
          try simp only [Act.put, za, zb, zc]
          refine tn 24 rfl rfl ?_
          try simp only [Act.put, za, zb, zc]
          refine tn 25 rfl rfl ?_
          try simp only [Act.put, za, zb, zc]
          refine tn 26 rfl rfl ?_
          try simp only [Act.put, za, zb, zc]
          refine tn 27 rfl rfl ?_
          try simp only [Act.put, za, zb, zc]
          refine tn 28 rfl rfl ?_
          try simp only [Act.put, za, zb, zc]
          refine tn 29 rfl rfl ?_
          try simp only [Act.put, za, zb, zc]
          refine tn 30 rfl rfl ?_
          try simp only [Act.put, za, zb, zc]
          refine tn 31 rfl rfl ?_
          try simp only [Act.put, za, zb, zc]
          refine tn 32 rfl rfl ?_
          try simp only [Act.put, za, zb, zc]
          refine tn 33 rfl rfl ?_
          try simp only [Act.put, za, zb, zc]
          refine tn 34 rfl rfl ?_
          try simp only [Act.put, za, zb, zc]
          refine tk 35 (v := ?_) rfl rfl ?_ ?_
          rotate_left
          · intro w hSw; (try dsimp only at hSw); go_simp; try with_reducible rfl
          try simp only [Act.put, za, zb, zc]
          refine tk 36 (v := ?_) rfl rfl ?_ ?_
          rotate_left
          · intro w hSw; (try dsimp only at hSw); go_simp; try with_reducible rfl
          try simp only [Act.put, za, zb, zc]
          refine wpAnyH_done (by kernel_rfl) (NoPanic.normal ?_) _
          have HB0 : Hid (Below w5.heap.size w5 wr.drew) := HB.out.drew
          clear HB
          go_wp2_with fail
          go_loopw [8] (fun iv wi => ∃ r : Nat, r ≤ 0 ∧ iv = .int .i64 ((r : Int) - 1) ∧ Hid (∀ j, r ≤ j → j < 0 → (lL R 0).1 ≤ (lL R j).1) ∧ Hid (Below w5.heap.size w5 wi)) (fun iv _ => ((intOf iv) + 1).toNat)
          case atStart => exact ⟨0, Nat.le_refl _, rfl, fun j h1 h2 => by omega, HB0⟩
          case round =>
            clear HB0
            obtain ⟨r, hr, rfl, HBt, HB⟩ := hrel
            cases r with
            | zero =>
              have c0 : ¬ ((0 : Int) ≤ ((0 : Nat) : Int) - 1) := by omega
              have c1 : decide ((0 : Int) ≤ ((0 : Nat) : Int) - 1) = false := by simp
              have c2 : ¬ ((0 : Int) ≤ -1) := by omega
              have hS0 : True := trivial
              go_wp2_with fail
              refine wp_region_noPanic ?_
              refine wp_region_held_drew (S := fun _ => True) (by kernel_rfl) (by first | exact trivial | assumption | exact ⟨by assumption, by assumption⟩) (fun hHeld => ?_)
              refine tk 0 (v := ?_) rfl rfl ?_ ?_
              rotate_left
              · intro w hSw; (try dsimp only at hSw); go_simp; try with_reducible rfl
              try simp only [Act.put, za, zb, zc]
              refine tk 1 (v := ?_) rfl rfl ?_ ?_
              rotate_left
              · intro w hSw; (try dsimp only at hSw); go_simp; try with_reducible rfl
              try simp only [Act.put, za, zb, zc]
              refine tk 2 (v := ?_) rfl rfl ?_ ?_
              rotate_left
              · intro w hSw; (try dsimp only at hSw); go_simp; try with_reducible rfl
              try simp only [Act.put, za, zb, zc]
              refine tn 3 rfl rfl ?_
              try simp only [Act.put, za, zb, zc]
              refine tn 4 rfl rfl ?_
              try simp only [Act.put, za, zb, zc]
              refine tn 5 rfl rfl ?_
              try simp only [Act.put, za, zb, zc]
              refine tn 6 rfl rfl ?_
              try simp only [Act.put, za, zb, zc]
              refine tn 7 rfl rfl ?_
              try simp only [Act.put, za, zb, zc]
              refine tn 8 rfl rfl ?_
              try simp only [Act.put, za, zb, zc]
              refine tn 9 rfl rfl ?_
              try simp only [Act.put, za, zb, zc]
              refine tn 10 rfl rfl ?_
              try simp only [Act.put, za, zb, zc]
              refine tn 11 rfl rfl ?_
              try simp only [Act.put, za, zb, zc]
              refine tn 12 rfl rfl ?_
              try simp only [Act.put, za, zb, zc]
              refine tn 13 rfl rfl ?_
              try simp only [Act.put, za, zb, zc]
              refine tk 14 (v := ?_) rfl rfl ?_ ?_
              rotate_left
              · intro w hSw; (try dsimp only at hSw); go_simp; try with_reducible rfl
              try simp only [Act.put, za, zb, zc]
              refine wpAnyH_done (by kernel_rfl) (NoPanic.normal ?_) _
              have HBd : Hid (Below w5.heap.size w5 wr.drew) := HB.out.drew
              go_wp2_with fail
              refine ⟨?_, ?_⟩
              · first
                | exact ⟨0 + 1, by omega, by go_num, HBd⟩
                | ((repeat apply Exists.intro); refine ⟨?_, rfl⟩; exact ⟨0 + 1, by omega, by go_num, HBd⟩)
              · simp [intOf] <;> omega
            | succ r => exact absurd hr (by omega)
        | succ k =>
          rw [if_neg (by omega), show k + 1 - 1 = k by omega] at hst
          have hcp := (HL.out.below HB.out).cells k (by omega)
          have ek : ((k + 1 : Nat) : Int) = (k : Int) + 1 := by omega
          obtain ⟨⟨kd, ⟨kt, ku⟩, knm, kvl⟩, hkx⟩ : ∃ x, x = lL R (k + 1) := ⟨_, rfl⟩
          obtain ⟨⟨pd, ⟨pt, pu⟩, pnm, pvl⟩, hpx⟩ : ∃ x, x = lL R k := ⟨_, rfl⟩
          have hdb := steps_le HSt.out (k + 1) (by rw [HRl.out]; exact hlt)
          rw [← hkx] at hst hck hdb
          rw [← hpx] at hst hcp
          simp only at hst hck hcp hdb
          have hS0 : wr.cell? ⟨b, off + (k + 1) * 5, none⟩ = some (.int .i64 kd) ∧ wr.cell? ⟨b, off + k * 5, none⟩ = some (.int .i64 pd) := ⟨hck.1, hcp.1⟩
          have g0 : decide (kd < 0) = false := decide_eq_false (by omega)
          have g1 : (((k + 1 : Nat) : Int) == 0) = false := by rw [beq_eq_false_iff_ne]; omega
          have g1b : ((k : Int) + 1 == 0) = false := by rw [beq_eq_false_iff_ne]; omega
          have wkc : IntKind.i64.wrap (k : Int) = (k : Int) := by rw [IntKind.wrap_i64]; omega
          have bz0 : (0 : Int) ≤ (k : Int) + 1 := by omega
          have bz1 : (k : Int) + 1 < (rn : Int) := by omega
          have g2b : decide ((0 : Int) < (k : Int) + 1) = true := decide_eq_true (by omega)
          have wkb : IntKind.i64.wrap ((k : Int) + 1 - 1) = (k : Int) := by rw [IntKind.wrap_i64]; omega
          have g1' : ¬ (((k + 1 : Nat) : Int) = 0) := by omega
          have g2 : decide ((0 : Int) < ((k + 1 : Nat) : Int)) = true := decide_eq_true (by omega)
          have wd : IntKind.i64.wrap (kd - 1) = kd - 1 := by rw [IntKind.wrap_i64]; omega
          have wk : IntKind.i64.wrap (((k + 1 : Nat) : Int) - 1) = (k : Int) := by rw [IntKind.wrap_i64]; omega
          have g3 : decide (pd < kd - 1) = false := decide_eq_false (by omega)
          have bk : (k : Int) < (rn : Int) := by omega
          have bk0 : (0 : Int) ≤ (k : Int) := by omega
          clear hst hck hcp hkx hpx
          go_wp2_with fail
          refine wp_region_noPanic ?_
          refine wp_region_held_drew (S := fun W => W.cell? ⟨b, off + (k + 1) * 5, none⟩ = some (.int .i64 kd) ∧ W.cell? ⟨b, off + k * 5, none⟩ = some (.int .i64 pd)) (by kernel_rfl) (by first | exact trivial | assumption | exact ⟨by assumption, by assumption⟩) (fun hHeld => ?_)
          refine tk 0 (v := ?_) rfl rfl ?_ ?_
          rotate_left
          · intro w hSw; (try dsimp only at hSw); go_simp; try with_reducible rfl
          try simp only [Act.put, za, zb, zc]
          refine tk 1 (v := ?_) rfl rfl ?_ ?_
          rotate_left
          · intro w hSw; (try dsimp only at hSw); go_simp; try with_reducible rfl
          try simp only [Act.put, za, zb, zc]
          refine tk 2 (v := ?_) rfl rfl ?_ ?_
          rotate_left
          · intro w hSw; (try dsimp only at hSw); go_simp; try with_reducible rfl
          try simp only [Act.put, za, zb, zc]
          refine tk 3 (v := ?_) rfl rfl ?_ ?_
          rotate_left
          · intro w hSw; (try dsimp only at hSw); go_simp; try with_reducible rfl
          try simp only [Act.put, za, zb, zc]
          refine tk 4 (v := ?_) rfl rfl ?_ ?_
          rotate_left
          · intro w hSw; (try dsimp only at hSw); go_simp; try with_reducible rfl
          try simp only [Act.put, za, zb, zc]
          refine tk 5 (v := ?_) rfl rfl ?_ ?_
          rotate_left
          · intro w hSw; (try dsimp only at hSw); go_simp; try with_reducible rfl
          try simp only [Act.put, za, zb, zc]
          refine tk 6 (v := ?_) rfl rfl ?_ ?_
          rotate_left
          · intro w hSw; (try dsimp only at hSw); go_simp; try with_reducible rfl
          try simp only [Act.put, za, zb, zc]
          refine tk 7 (v := ?_) rfl rfl ?_ ?_
          rotate_left
          · intro w hSw; (try dsimp only at hSw); go_simp; try with_reducible rfl
          try simp only [Act.put, za, zb, zc]
          refine tk 8 (v := ?_) rfl rfl ?_ ?_
          rotate_left
          · intro w hSw; (try dsimp only at hSw); go_simp; try with_reducible rfl
          try simp only [Act.put, za, zb, zc]
          refine tk 9 (v := ?_) rfl rfl ?_ ?_
          rotate_left
          · intro w hSw; (try dsimp only at hSw); go_simp; try with_reducible rfl
          try simp only [Act.put, za, zb, zc]
          refine tn 10 rfl rfl ?_
          try simp only [Act.put, za, zb, zc]
          refine tn 11 rfl rfl ?_
          try simp only [Act.put, za, zb, zc]
          refine tn 12 rfl rfl ?_
          try simp only [Act.put, za, zb, zc]
          refine tn 13 rfl rfl ?_
          try simp only [Act.put, za, zb, zc]
          refine tn 14 rfl rfl ?_
          try simp only [Act.put, za, zb, zc]
          refine tn 15 rfl rfl ?_
          try simp only [Act.put, za, zb, zc]
          refine tk 16 (v := ?_) rfl rfl ?_ ?_
          rotate_left
          · intro w hSw; (try dsimp only at hSw); go_simp; try with_reducible rfl
          try simp only [Act.put, za, zb, zc]
          refine tk 17 (v := ?_) rfl rfl ?_ ?_
          rotate_left
          · intro w hSw; (try dsimp only at hSw); go_simp; try with_reducible rfl
          try simp only [Act.put, za, zb, zc]
          refine tk 18 (v := ?_) rfl rfl ?_ ?_
          rotate_left
          · intro w hSw; (try dsimp only at hSw); go_simp; try with_reducible rfl
          try simp only [Act.put, za, zb, zc]
          refine tk 19 (v := ?_) rfl rfl ?_ ?_
          rotate_left
          · intro w hSw; (try dsimp only at hSw); go_simp; try with_reducible rfl
          try simp only [Act.put, za, zb, zc]
          refine tk 20 (v := ?_) rfl rfl ?_ ?_
          rotate_left
          · intro w hSw; (try dsimp only at hSw); go_simp; try with_reducible rfl
          try simp only [Act.put, za, zb, zc]
          refine tk 21 (v := ?_) rfl rfl ?_ ?_
          rotate_left
          · intro w hSw; (try dsimp only at hSw); go_simp; try with_reducible rfl
          try simp only [Act.put, za, zb, zc]
          refine tk 22 (v := ?_) rfl rfl ?_ ?_
          rotate_left
          · intro w hSw; (try dsimp only at hSw); go_simp; try with_reducible rfl
          try simp only [Act.put, za, zb, zc]
          refine tk 23 (v := ?_) rfl rfl ?_ ?_
          rotate_left
          · intro w hSw; (try dsimp only at hSw); go_simp; try with_reducible rfl
          try simp only [Act.put, za, zb, zc]
          refine tk 24 (v := ?_) rfl rfl ?_ ?_
          rotate_left
          · intro w hSw; (try dsimp only at hSw); go_simp; try with_reducible rfl
          try simp only [Act.put, za, zb, zc]
          refine tk 25 (v := ?_) rfl rfl ?_ ?_
          rotate_left
          · intro w hSw; (try dsimp only at hSw); go_simp; try with_reducible rfl
          try simp only [Act.put, za, zb, zc]
          refine tk 26 (v := ?_) rfl rfl ?_ ?_
          rotate_left
          · intro w hSw; (try dsimp only at hSw); go_simp; try with_reducible rfl
          try simp only [Act.put, za, zb, zc]
          refine tk 27 (v := ?_) rfl rfl ?_ ?_
          rotate_left
          · intro w hSw; (try dsimp only at hSw); go_simp; try with_reducible rfl
          try simp only [Act.put, za, zb, zc]
          refine tk 28 (v := ?_) rfl rfl ?_ ?_
          rotate_left
          · intro w hSw; (try dsimp only at hSw); go_simp; try with_reducible rfl
          try simp only [Act.put, za, zb, zc]
          refine tk 29 (v := ?_) rfl rfl ?_ ?_
          rotate_left
          · intro w hSw; (try dsimp only at hSw); go_simp; try with_reducible rfl
          try simp only [Act.put, za, zb, zc]
          refine tk 30 (v := ?_) rfl rfl ?_ ?_
          rotate_left
          · intro w hSw; (try dsimp only at hSw); go_simp; try with_reducible rfl
          try simp only [Act.put, za, zb, zc]
          refine tk 31 (v := ?_) rfl rfl ?_ ?_
          rotate_left
          · intro w hSw; (try dsimp only at hSw); go_simp; try with_reducible rfl
          try simp only [Act.put, za, zb, zc]
          refine tk 32 (v := ?_) rfl rfl ?_ ?_
          rotate_left
          · intro w hSw; (try dsimp only at hSw); go_simp; try with_reducible rfl
          try simp only [Act.put, za, zb, zc]
          refine tk 33 (v := ?_) rfl rfl ?_ ?_
          rotate_left
          · intro w hSw; (try dsimp only at hSw); go_simp; try with_reducible rfl
          try simp only [Act.put, za, zb, zc]
          refine tk 34 (v := ?_) rfl rfl ?_ ?_
          rotate_left
          · intro w hSw; (try dsimp only at hSw); go_simp; try with_reducible rfl
          try simp only [Act.put, za, zb, zc]
          refine tk 35 (v := ?_) rfl rfl ?_ ?_
          rotate_left
          · intro w hSw; (try dsimp only at hSw); go_simp; try with_reducible rfl
          try simp only [Act.put, za, zb, zc]
          refine tk 36 (v := ?_) rfl rfl ?_ ?_
          rotate_left
          · intro w hSw; (try dsimp only at hSw); go_simp; try with_reducible rfl
          try simp only [Act.put, za, zb, zc]
          refine wpAnyH_done (by kernel_rfl) (NoPanic.normal ?_) _
          have HB0 : Hid (Below w5.heap.size w5 wr.drew) := HB.out.drew
          clear HB
          go_wp2_with fail
          go_loopw [8] (fun iv wi => ∃ r : Nat, r ≤ (k + 1) ∧ iv = .int .i64 ((r : Int) - 1) ∧ Hid (∀ j, r ≤ j → j < (k + 1) → (lL R (k + 1)).1 ≤ (lL R j).1) ∧ Hid (Below w5.heap.size w5 wi)) (fun iv _ => ((intOf iv) + 1).toNat)
          case atStart => exact ⟨(k + 1), Nat.le_refl _, (by first | rfl | (simp) | go_num), fun j h1 h2 => by omega, HB0⟩
          case round =>
            clear HB0
            obtain ⟨r, hr, rfl, HBt, HB⟩ := hrel
            cases r with
            | zero =>
              have c0 : ¬ ((0 : Int) ≤ ((0 : Nat) : Int) - 1) := by omega
              have c1 : decide ((0 : Int) ≤ ((0 : Nat) : Int) - 1) = false := by simp
              have c2 : ¬ ((0 : Int) ≤ -1) := by omega
              have hS0 : True := trivial
              go_wp2_with fail
              refine wp_region_noPanic ?_
              refine wp_region_held_drew (S := fun _ => True) (by kernel_rfl) (by first | exact trivial | assumption | exact ⟨by assumption, by assumption⟩) (fun hHeld => ?_)
              refine tk 0 (v := ?_) rfl rfl ?_ ?_
              rotate_left
              · intro w hSw; (try dsimp only at hSw); go_simp; try with_reducible rfl
              try simp only [Act.put, za, zb, zc]
              refine tk 1 (v := ?_) rfl rfl ?_ ?_
              rotate_left
              · intro w hSw; (try dsimp only at hSw); go_simp; try with_reducible rfl
              try simp only [Act.put, za, zb, zc]
              refine tk 2 (v := ?_) rfl rfl ?_ ?_
              rotate_left
              · intro w hSw; (try dsimp only at hSw); go_simp; try with_reducible rfl
              try simp only [Act.put, za, zb, zc]
              refine tn 3 rfl rfl ?_
              try simp only [Act.put, za, zb, zc]
              refine tn 4 rfl rfl ?_
              try simp only [Act.put, za, zb, zc]
              refine tn 5 rfl rfl ?_
              try simp only [Act.put, za, zb, zc]
              refine tn 6 rfl rfl ?_
              try simp only [Act.put, za, zb, zc]
              refine tn 7 rfl rfl ?_
              try simp only [Act.put, za, zb, zc]
              refine tn 8 rfl rfl ?_
              try simp only [Act.put, za, zb, zc]
              refine tn 9 rfl rfl ?_
              try simp only [Act.put, za, zb, zc]
              refine tn 10 rfl rfl ?_
              try simp only [Act.put, za, zb, zc]
              refine tn 11 rfl rfl ?_
              try simp only [Act.put, za, zb, zc]
              refine tn 12 rfl rfl ?_
              try simp only [Act.put, za, zb, zc]
              refine tn 13 rfl rfl ?_
              try simp only [Act.put, za, zb, zc]
              refine tk 14 (v := ?_) rfl rfl ?_ ?_
              rotate_left
              · intro w hSw; (try dsimp only at hSw); go_simp; try with_reducible rfl
              try simp only [Act.put, za, zb, zc]
              refine wpAnyH_done (by kernel_rfl) (NoPanic.normal ?_) _
              have HBd : Hid (Below w5.heap.size w5 wr.drew) := HB.out.drew
              go_wp2_with fail
              refine ⟨?_, ?_⟩
              · first
                | exact ⟨(k + 1) + 1, by omega, by go_num, HBd⟩
                | ((repeat apply Exists.intro); refine ⟨?_, rfl⟩; exact ⟨(k + 1) + 1, by omega, by go_num, HBd⟩)
              · simp [intOf] <;> omega
            | succ r =>
              have e1 : ((r + 1 : Nat) : Int) - 1 = (r : Int) := by omega
              rw [e1]
              have hrm : r < rn := by omega
              have c0 : (0 : Int) ≤ (r : Int) := by omega
              have br : (r : Int) < (rn : Int) := by omega
              have hcr := (HL.out.below HB.out).cells r hrm
              have hck := (HL.out.below HB.out).cells (k + 1) (by omega)
              have hOr := HOrd.out r (k + 1) (by omega) (by rw [HRl.out]; omega)
              have HBt' : Hid ((lL R (k + 1)).1 ≤ (lL R r).1 → ∀ j, r ≤ j → j < (k + 1) → (lL R (k + 1)).1 ≤ (lL R j).1) := fun hle j h1 h2 => by
                by_cases ej : j = r
                · rw [ej]; exact hle
                · exact HBt.out j (by omega) h2
              have w9 : IntKind.i64.wrap ((r : Int) - 1) = (r : Int) - 1 := by rw [IntKind.wrap_i64]; omega
              have HBo : Hid ((lL R (k + 1)).1 ≤ (lL R r).1 → (lL R r).1 = (lL R (k + 1)).1 → ltT (lL R r).2.2.1 (lL R (k + 1)).2.2.1 = true) := fun h1 h2 => hOr (HBt'.out h1) h2
              obtain ⟨⟨rd, ⟨rt, ru⟩, rnm, rvl⟩, hrx⟩ : ∃ x, x = lL R r := ⟨_, rfl⟩
              obtain ⟨⟨kd, ⟨kt, ku⟩, knm, kvl⟩, hkx⟩ : ∃ x, x = lL R (k + 1) := ⟨_, rfl⟩
              have HKX : Hid ((lL R (k + 1)).1 = kd) := by show _ = _; rw [← hkx]
              rw [← hrx] at hcr HBo
              rw [← hkx] at hck HBo
              have HBt2 : Hid (kd ≤ rd → ∀ j, r ≤ j → j < (k + 1) → (lL R (k + 1)).1 ≤ (lL R j).1) := by have h := HBt'.out; rw [← hrx] at h; rw [← hkx] at h ⊢; exact h
              obtain ⟨x0, _, _, x3, _⟩ := hcr
              obtain ⟨y0, _, _, y3, _⟩ := hck
              simp only at x0 x3 y0 y3 HBo
              have hS0 : wr.cell? ⟨b, off + r * 5, none⟩ = some (.int .i64 rd) ∧ wr.cell? ⟨b, off + (k + 1) * 5, none⟩ = some (.int .i64 kd) := ⟨x0, y0⟩
              have HSx : Hid (∀ W, Below w5.heap.size w5 W → (W.cell? ⟨b, off + r * 5, none⟩ = some (.int .i64 rd) ∧ W.cell? ⟨b, off + (k + 1) * 5, none⟩ = some (.int .i64 kd)) ∧ (W.cell? ⟨b, off + r * 5 + 3, none⟩ = some (.string rnm) ∧ W.cell? ⟨b, off + (k + 1) * 5 + 3, none⟩ = some (.string knm))) := fun W hW => by
                have h1 := (HL.out.below hW).cells r hrm
                have h2 := (HL.out.below hW).cells (k + 1) (by omega)
                rw [← hrx] at h1
                rw [← hkx] at h2
                exact ⟨⟨h1.1, h2.1⟩, h1.2.2.2.1, h2.2.2.2.1⟩
              clear hrx hkx HBt' hOr x0 x3 y0 y3
              by_cases hge : kd ≤ rd
              · have g1 : decide (kd ≤ rd) = true := by simp [hge]
                go_wp2_with fail
                refine wp_region_noPanic ?_
                refine wp_region_held_drew (S := fun W => W.cell? ⟨b, off + r * 5, none⟩ = some (.int .i64 rd) ∧ W.cell? ⟨b, off + (k + 1) * 5, none⟩ = some (.int .i64 kd)) (by kernel_rfl) (by first | exact trivial | assumption | exact ⟨by assumption, by assumption⟩) (fun hHeld => ?_)
                refine tk 0 (v := ?_) rfl rfl ?_ ?_
                rotate_left
                · intro w hSw; (try dsimp only at hSw); go_simp; try with_reducible rfl
                try simp only [Act.put, za, zb, zc]
                refine tk 1 (v := ?_) rfl rfl ?_ ?_
                rotate_left
                · intro w hSw; (try dsimp only at hSw); go_simp; try with_reducible rfl
                try simp only [Act.put, za, zb, zc]
                refine tk 2 (v := ?_) rfl rfl ?_ ?_
                rotate_left
                · intro w hSw; (try dsimp only at hSw); go_simp; try with_reducible rfl
                try simp only [Act.put, za, zb, zc]
                refine tk 3 (v := ?_) rfl rfl ?_ ?_
                rotate_left
                · intro w hSw; (try dsimp only at hSw); go_simp; try with_reducible rfl
                try simp only [Act.put, za, zb, zc]
                refine tk 4 (v := ?_) rfl rfl ?_ ?_
                rotate_left
                · intro w hSw; (try dsimp only at hSw); go_simp; try with_reducible rfl
                try simp only [Act.put, za, zb, zc]
                refine tk 5 (v := ?_) rfl rfl ?_ ?_
                rotate_left
                · intro w hSw; (try dsimp only at hSw); go_simp; try with_reducible rfl
                try simp only [Act.put, za, zb, zc]
                refine tk 6 (v := ?_) rfl rfl ?_ ?_
                rotate_left
                · intro w hSw; (try dsimp only at hSw); go_simp; try with_reducible rfl
                try simp only [Act.put, za, zb, zc]
                refine tk 7 (v := ?_) rfl rfl ?_ ?_
                rotate_left
                · intro w hSw; (try dsimp only at hSw); go_simp; try with_reducible rfl
                try simp only [Act.put, za, zb, zc]
                refine tk 8 (v := ?_) rfl rfl ?_ ?_
                rotate_left
                · intro w hSw; (try dsimp only at hSw); go_simp; try with_reducible rfl
                try simp only [Act.put, za, zb, zc]
                refine tk 9 (v := ?_) rfl rfl ?_ ?_
                rotate_left
                · intro w hSw; (try dsimp only at hSw); go_simp; try with_reducible rfl
                try simp only [Act.put, za, zb, zc]
                refine tk 10 (v := ?_) rfl rfl ?_ ?_
                rotate_left
                · intro w hSw; (try dsimp only at hSw); go_simp; try with_reducible rfl
                try simp only [Act.put, za, zb, zc]
                refine tk 11 (v := ?_) rfl rfl ?_ ?_
                rotate_left
                · intro w hSw; (try dsimp only at hSw); go_simp; try with_reducible rfl
                try simp only [Act.put, za, zb, zc]
                refine tk 12 (v := ?_) rfl rfl ?_ ?_
                rotate_left
                · intro w hSw; (try dsimp only at hSw); go_simp; try with_reducible rfl
                try simp only [Act.put, za, zb, zc]
                refine tk 13 (v := ?_) rfl rfl ?_ ?_
                rotate_left
                · intro w hSw; (try dsimp only at hSw); go_simp; try with_reducible rfl
                try simp only [Act.put, za, zb, zc]
                refine tk 14 (v := ?_) rfl rfl ?_ ?_
                rotate_left
                · intro w hSw; (try dsimp only at hSw); go_simp; try with_reducible rfl
                try simp only [Act.put, za, zb, zc]
                refine wpAnyH_done (by kernel_rfl) (NoPanic.normal ?_) _
                have HBd : Hid (Below w5.heap.size w5 wr.drew) := HB.out.drew
                have hS1 := HSx.out _ HBd.out
                obtain ⟨⟨z0, z1⟩, z2, z3⟩ := hS1
                have hS2 : (wr.drew.cell? ⟨b, off + r * 5, none⟩ = some (.int .i64 rd) ∧ wr.drew.cell? ⟨b, off + (k + 1) * 5, none⟩ = some (.int .i64 kd)) ∧ (wr.drew.cell? ⟨b, off + r * 5 + 3, none⟩ = some (.string rnm) ∧ wr.drew.cell? ⟨b, off + (k + 1) * 5 + 3, none⟩ = some (.string knm)) := ⟨⟨z0, z1⟩, z2, z3⟩
                have HBe : Hid (∀ j, r ≤ j → j < (k + 1) → (lL R (k + 1)).1 ≤ (lL R j).1) := HBt2.out hge
                generalize wr.drew = wv at *
                by_cases heq : rd = kd
                · have hlt : Op.bytesLess rnm.toList knm.toList = true := HBo.out hge heq
                  have g2 : (rd == kd) = true := by simp [heq]
                  go_wp2_with fail
                  refine wp_region_noPanic ?_
                  refine wp_region_held_drew (S := fun W => (W.cell? ⟨b, off + r * 5, none⟩ = some (.int .i64 rd) ∧ W.cell? ⟨b, off + (k + 1) * 5, none⟩ = some (.int .i64 kd)) ∧ (W.cell? ⟨b, off + r * 5 + 3, none⟩ = some (.string rnm) ∧ W.cell? ⟨b, off + (k + 1) * 5 + 3, none⟩ = some (.string knm))) (by kernel_rfl) (by first | exact trivial | assumption | exact ⟨by assumption, by assumption⟩) (fun hHeld => ?_)
                  refine tk 0 (v := ?_) rfl rfl ?_ ?_
                  rotate_left
                  · intro w hSw; (try dsimp only at hSw); go_simp; try with_reducible rfl
                  try simp only [Act.put, za, zb, zc]
                  refine tk 1 (v := ?_) rfl rfl ?_ ?_
                  rotate_left
                  · intro w hSw; (try dsimp only at hSw); go_simp; try with_reducible rfl
                  try simp only [Act.put, za, zb, zc]
                  refine tk 2 (v := ?_) rfl rfl ?_ ?_
                  rotate_left
                  · intro w hSw; (try dsimp only at hSw); go_simp; try with_reducible rfl
                  try simp only [Act.put, za, zb, zc]
                  refine tk 3 (v := ?_) rfl rfl ?_ ?_
                  rotate_left
                  · intro w hSw; (try dsimp only at hSw); go_simp; try with_reducible rfl
                  try simp only [Act.put, za, zb, zc]
                  refine tk 4 (v := ?_) rfl rfl ?_ ?_
                  rotate_left
                  · intro w hSw; (try dsimp only at hSw); go_simp; try with_reducible rfl
                  try simp only [Act.put, za, zb, zc]
                  refine tk 5 (v := ?_) rfl rfl ?_ ?_
                  rotate_left
                  · intro w hSw; (try dsimp only at hSw); go_simp; try with_reducible rfl
                  try simp only [Act.put, za, zb, zc]
                  refine tk 6 (v := ?_) rfl rfl ?_ ?_
                  rotate_left
                  · intro w hSw; (try dsimp only at hSw); go_simp; try with_reducible rfl
                  try simp only [Act.put, za, zb, zc]
                  refine tk 7 (v := ?_) rfl rfl ?_ ?_
                  rotate_left
                  · intro w hSw; (try dsimp only at hSw); go_simp; try with_reducible rfl
                  try simp only [Act.put, za, zb, zc]
                  refine tk 8 (v := ?_) rfl rfl ?_ ?_
                  rotate_left
                  · intro w hSw; (try dsimp only at hSw); go_simp; try with_reducible rfl
                  try simp only [Act.put, za, zb, zc]
                  refine tk 9 (v := ?_) rfl rfl ?_ ?_
                  rotate_left
                  · intro w hSw; (try dsimp only at hSw); go_simp; try with_reducible rfl
                  try simp only [Act.put, za, zb, zc]
                  refine tk 10 (v := ?_) rfl rfl ?_ ?_
                  rotate_left
                  · intro w hSw; (try dsimp only at hSw); go_simp; try with_reducible rfl
                  try simp only [Act.put, za, zb, zc]
                  refine tk 11 (v := ?_) rfl rfl ?_ ?_
                  rotate_left
                  · intro w hSw; (try dsimp only at hSw); go_simp; try with_reducible rfl
                  try simp only [Act.put, za, zb, zc]
                  refine tk 12 (v := ?_) rfl rfl ?_ ?_
                  rotate_left
                  · intro w hSw; (try dsimp only at hSw); go_simp; try with_reducible rfl
                  try simp only [Act.put, za, zb, zc]
                  refine tk 13 (v := ?_) rfl rfl ?_ ?_
                  rotate_left
                  · intro w hSw; (try dsimp only at hSw); go_simp; try with_reducible rfl
                  try simp only [Act.put, za, zb, zc]
                  refine tk 14 (v := ?_) rfl rfl ?_ ?_
                  rotate_left
                  · intro w hSw; (try dsimp only at hSw); go_simp; try with_reducible rfl
                  try simp only [Act.put, za, zb, zc]
                  refine tk 15 (v := ?_) rfl rfl ?_ ?_
                  rotate_left
                  · intro w hSw; (try dsimp only at hSw); go_simp; try with_reducible rfl
                  try simp only [Act.put, za, zb, zc]
                  refine tk 16 (v := ?_) rfl rfl ?_ ?_
                  rotate_left
                  · intro w hSw; (try dsimp only at hSw); go_simp; try with_reducible rfl
                  try simp only [Act.put, za, zb, zc]
                  refine tk 17 (v := ?_) rfl rfl ?_ ?_
                  rotate_left
                  · intro w hSw; (try dsimp only at hSw); go_simp; try with_reducible rfl
                  try simp only [Act.put, za, zb, zc]
                  refine tk 18 (v := ?_) rfl rfl ?_ ?_
                  rotate_left
                  · intro w hSw; (try dsimp only at hSw); go_simp; try with_reducible rfl
                  try simp only [Act.put, za, zb, zc]
                  refine tk 19 (v := ?_) rfl rfl ?_ ?_
                  rotate_left
                  · intro w hSw; (try dsimp only at hSw); go_simp; try with_reducible rfl
                  try simp only [Act.put, za, zb, zc]
                  refine tk 20 (v := ?_) rfl rfl ?_ ?_
                  rotate_left
                  · intro w hSw; (try dsimp only at hSw); go_simp; try with_reducible rfl
                  try simp only [Act.put, za, zb, zc]
                  refine tk 21 (v := ?_) rfl rfl ?_ ?_
                  rotate_left
                  · intro w hSw; (try dsimp only at hSw); go_simp; try with_reducible rfl
                  try simp only [Act.put, za, zb, zc]
                  refine tk 22 (v := ?_) rfl rfl ?_ ?_
                  rotate_left
                  · intro w hSw; (try dsimp only at hSw); go_simp; try with_reducible rfl
                  try simp only [Act.put, za, zb, zc]
                  refine tk 23 (v := ?_) rfl rfl ?_ ?_
                  rotate_left
                  · intro w hSw; (try dsimp only at hSw); go_simp; try with_reducible rfl
                  try simp only [Act.put, za, zb, zc]
                  refine wpAnyH_done (by kernel_rfl) (NoPanic.normal ?_) _
                  have HBf : Hid (Below w5.heap.size w5 wv.drew) := HBd.out.drew
                  go_wp2_with fail
                  refine ⟨?_, ?_⟩
                  · first
                    | exact ⟨r, by omega, (by first | rfl | go_num | trivial), HBe, HBf⟩
                    | ((repeat apply Exists.intro); refine ⟨?_, rfl⟩; exact ⟨r, by omega, (by first | rfl | go_num | trivial), HBe, HBf⟩)
                  · simp [intOf] <;> omega
                · have g2 : (rd == kd) = false := by simp [heq]
                  go_wp2_with fail
                  refine wp_region_noPanic ?_
                  refine wp_region_held_drew (S := fun W => (W.cell? ⟨b, off + r * 5, none⟩ = some (.int .i64 rd) ∧ W.cell? ⟨b, off + (k + 1) * 5, none⟩ = some (.int .i64 kd)) ∧ (W.cell? ⟨b, off + r * 5 + 3, none⟩ = some (.string rnm) ∧ W.cell? ⟨b, off + (k + 1) * 5 + 3, none⟩ = some (.string knm))) (by kernel_rfl) (by first | exact trivial | assumption | exact ⟨by assumption, by assumption⟩) (fun hHeld => ?_)
                  refine tk 0 (v := ?_) rfl rfl ?_ ?_
                  rotate_left
                  · intro w hSw; (try dsimp only at hSw); go_simp; try with_reducible rfl
                  try simp only [Act.put, za, zb, zc]
                  refine tk 1 (v := ?_) rfl rfl ?_ ?_
                  rotate_left
                  · intro w hSw; (try dsimp only at hSw); go_simp; try with_reducible rfl
                  try simp only [Act.put, za, zb, zc]
                  refine tk 2 (v := ?_) rfl rfl ?_ ?_
                  rotate_left
                  · intro w hSw; (try dsimp only at hSw); go_simp; try with_reducible rfl
                  try simp only [Act.put, za, zb, zc]
                  refine tk 3 (v := ?_) rfl rfl ?_ ?_
                  rotate_left
                  · intro w hSw; (try dsimp only at hSw); go_simp; try with_reducible rfl
                  try simp only [Act.put, za, zb, zc]
                  refine tk 4 (v := ?_) rfl rfl ?_ ?_
                  rotate_left
                  · intro w hSw; (try dsimp only at hSw); go_simp; try with_reducible rfl
                  try simp only [Act.put, za, zb, zc]
                  refine tk 5 (v := ?_) rfl rfl ?_ ?_
                  rotate_left
                  · intro w hSw; (try dsimp only at hSw); go_simp; try with_reducible rfl
                  try simp only [Act.put, za, zb, zc]
                  refine tk 6 (v := ?_) rfl rfl ?_ ?_
                  rotate_left
                  · intro w hSw; (try dsimp only at hSw); go_simp; try with_reducible rfl
                  try simp only [Act.put, za, zb, zc]
                  refine tk 7 (v := ?_) rfl rfl ?_ ?_
                  rotate_left
                  · intro w hSw; (try dsimp only at hSw); go_simp; try with_reducible rfl
                  try simp only [Act.put, za, zb, zc]
                  refine tk 8 (v := ?_) rfl rfl ?_ ?_
                  rotate_left
                  · intro w hSw; (try dsimp only at hSw); go_simp; try with_reducible rfl
                  try simp only [Act.put, za, zb, zc]
                  refine tk 9 (v := ?_) rfl rfl ?_ ?_
                  rotate_left
                  · intro w hSw; (try dsimp only at hSw); go_simp; try with_reducible rfl
                  try simp only [Act.put, za, zb, zc]
                  refine tk 10 (v := ?_) rfl rfl ?_ ?_
                  rotate_left
                  · intro w hSw; (try dsimp only at hSw); go_simp; try with_reducible rfl
                  try simp only [Act.put, za, zb, zc]
                  refine tk 11 (v := ?_) rfl rfl ?_ ?_
                  rotate_left
                  · intro w hSw; (try dsimp only at hSw); go_simp; try with_reducible rfl
                  try simp only [Act.put, za, zb, zc]
                  refine tn 12 rfl rfl ?_
                  try simp only [Act.put, za, zb, zc]
                  refine tn 13 rfl rfl ?_
                  try simp only [Act.put, za, zb, zc]
                  refine tn 14 rfl rfl ?_
                  try simp only [Act.put, za, zb, zc]
                  refine tn 15 rfl rfl ?_
                  try simp only [Act.put, za, zb, zc]
                  refine tn 16 rfl rfl ?_
                  try simp only [Act.put, za, zb, zc]
                  refine tn 17 rfl rfl ?_
                  try simp only [Act.put, za, zb, zc]
                  refine tn 18 rfl rfl ?_
                  try simp only [Act.put, za, zb, zc]
                  refine tn 19 rfl rfl ?_
                  try simp only [Act.put, za, zb, zc]
                  refine tn 20 rfl rfl ?_
                  try simp only [Act.put, za, zb, zc]
                  refine tn 21 rfl rfl ?_
                  try simp only [Act.put, za, zb, zc]
                  refine tn 22 rfl rfl ?_
                  try simp only [Act.put, za, zb, zc]
                  refine tk 23 (v := ?_) rfl rfl ?_ ?_
                  rotate_left
                  · intro w hSw; (try dsimp only at hSw); go_simp; try with_reducible rfl
                  try simp only [Act.put, za, zb, zc]
                  refine wpAnyH_done (by kernel_rfl) (NoPanic.normal ?_) _
                  have HBf : Hid (Below w5.heap.size w5 wv.drew) := HBd.out.drew
                  go_wp2_with fail
                  refine ⟨?_, ?_⟩
                  · first
                    | exact ⟨r, by omega, (by first | rfl | go_num | trivial), HBe, HBf⟩
                    | ((repeat apply Exists.intro); refine ⟨?_, rfl⟩; exact ⟨r, by omega, (by first | rfl | go_num | trivial), HBe, HBf⟩)
                  · simp [intOf] <;> omega
              · have g1 : decide (kd ≤ rd) = false := by simp [hge]
                go_wp2_with fail
                refine wp_region_noPanic ?_
                refine wp_region_held_drew (S := fun W => W.cell? ⟨b, off + r * 5, none⟩ = some (.int .i64 rd) ∧ W.cell? ⟨b, off + (k + 1) * 5, none⟩ = some (.int .i64 kd)) (by kernel_rfl) (by first | exact trivial | assumption | exact ⟨by assumption, by assumption⟩) (fun hHeld => ?_)
                refine tk 0 (v := ?_) rfl rfl ?_ ?_
                rotate_left
                · intro w hSw; (try dsimp only at hSw); go_simp; try with_reducible rfl
                try simp only [Act.put, za, zb, zc]
                refine tk 1 (v := ?_) rfl rfl ?_ ?_
                rotate_left
                · intro w hSw; (try dsimp only at hSw); go_simp; try with_reducible rfl
                try simp only [Act.put, za, zb, zc]
                refine tk 2 (v := ?_) rfl rfl ?_ ?_
                rotate_left
                · intro w hSw; (try dsimp only at hSw); go_simp; try with_reducible rfl
                try simp only [Act.put, za, zb, zc]
                refine tk 3 (v := ?_) rfl rfl ?_ ?_
                rotate_left
                · intro w hSw; (try dsimp only at hSw); go_simp; try with_reducible rfl
                try simp only [Act.put, za, zb, zc]
                refine tk 4 (v := ?_) rfl rfl ?_ ?_
                rotate_left
                · intro w hSw; (try dsimp only at hSw); go_simp; try with_reducible rfl
                try simp only [Act.put, za, zb, zc]
                refine tk 5 (v := ?_) rfl rfl ?_ ?_
                rotate_left
                · intro w hSw; (try dsimp only at hSw); go_simp; try with_reducible rfl
                try simp only [Act.put, za, zb, zc]
                refine tk 6 (v := ?_) rfl rfl ?_ ?_
                rotate_left
                · intro w hSw; (try dsimp only at hSw); go_simp; try with_reducible rfl
                try simp only [Act.put, za, zb, zc]
                refine tk 7 (v := ?_) rfl rfl ?_ ?_
                rotate_left
                · intro w hSw; (try dsimp only at hSw); go_simp; try with_reducible rfl
                try simp only [Act.put, za, zb, zc]
                refine tk 8 (v := ?_) rfl rfl ?_ ?_
                rotate_left
                · intro w hSw; (try dsimp only at hSw); go_simp; try with_reducible rfl
                try simp only [Act.put, za, zb, zc]
                refine tk 9 (v := ?_) rfl rfl ?_ ?_
                rotate_left
                · intro w hSw; (try dsimp only at hSw); go_simp; try with_reducible rfl
                try simp only [Act.put, za, zb, zc]
                refine tk 10 (v := ?_) rfl rfl ?_ ?_
                rotate_left
                · intro w hSw; (try dsimp only at hSw); go_simp; try with_reducible rfl
                try simp only [Act.put, za, zb, zc]
                refine tk 11 (v := ?_) rfl rfl ?_ ?_
                rotate_left
                · intro w hSw; (try dsimp only at hSw); go_simp; try with_reducible rfl
                try simp only [Act.put, za, zb, zc]
                refine tk 12 (v := ?_) rfl rfl ?_ ?_
                rotate_left
                · intro w hSw; (try dsimp only at hSw); go_simp; try with_reducible rfl
                try simp only [Act.put, za, zb, zc]
                refine tk 13 (v := ?_) rfl rfl ?_ ?_
                rotate_left
                · intro w hSw; (try dsimp only at hSw); go_simp; try with_reducible rfl
                try simp only [Act.put, za, zb, zc]
                refine tk 14 (v := ?_) rfl rfl ?_ ?_
                rotate_left
                · intro w hSw; (try dsimp only at hSw); go_simp; try with_reducible rfl
                try simp only [Act.put, za, zb, zc]
                refine wpAnyH_done (by kernel_rfl) (NoPanic.normal ?_) _
                have HBd : Hid (Below w5.heap.size w5 wr.drew) := HB.out.drew
                go_wp2_with fail
                refine ⟨?_, ?_⟩
                · first
                  | exact ⟨(k + 1) + 1, by omega, by go_num, HBd⟩
                  | ((repeat apply Exists.intro); refine ⟨?_, rfl⟩; exact ⟨(k + 1) + 1, by omega, by go_num, HBd⟩)
                · simp [intOf] <;> omega
      · obtain rfl : k = rn := by omega
        have b0 : ¬ ((k : Int) < (k : Int)) := by omega
        have HBz : Hid (Below w.heap.size w wr) := below_step HB5.out (Nat.le_refl _) HB.out
        clear HB
        go_wp2_with fail
        refine (CW.out _ HBz.out).mono ?_
        rintro e w99 ⟨rfl, hb99⟩
        have hB99 := below_step HBz.out (Nat.le_refl _) hb99
        clear CW hb99
        go_wp2_with fail
        go_ret
        exact ⟨rfl, hB99⟩

theorem viewOrders_law (a : Option Addr) (n c : Nat) (w : World) (z : ∃ l, OpsAt w a n l ∧ n ≤ maxLen ∧ (∀ q ∈ l, OpOk q) ∧ SliceOk a n c) (hG : Glob8 w) (hM : MaxL w) :
    Calls Tryz.prog 6 #[.slice a n c] w fun e w' => e = .returned (.bool true) ∧ Below w.heap.size w w' := by
  obtain ⟨l, h1, h2, h3, _⟩ := z
  exact viewOrders_walk a l n c w h2 h1 h3 hG hM
end Go.Proofs.YtebnmghjdoblaaaGreatDoor
