/- Layer 19, the document's: wraps. -/
import Derived.Test.YtabhkebkbidfhaaDoorWiT
import Derived.Test.YtabhkebkbidfhaaDoorRWiA
import Derived.Test.YtabhkebkbidfhaaDoorTk
namespace Go.Proofs.YtabhkebkbidfhaaDoor
open Go.RowKit
set_option maxRecDepth 100000
set_option linter.unusedSimpArgs false
set_option linter.unusedVariables false
set_option maxRecDepth 100000

set_option maxHeartbeats 4000000 in
theorem rwraps19_any (l : List (Int × ByteArray)) (D : Bool) (hD : D = true ↔ MayW l) (n : Nat) (a : Option Addr) (c : Nat) (w : World) (hn : n ≤ 9223372036854775807) (hI : WrAt w a n l) (hz : ∀ i, (wrL l i).2.size ≤ 9223372036854775807) :
    Calls Tryd.prog 60 #[.slice a n c] w fun e w' => e = .returned (.bool D) ∧ Below w.heap.size w w' := by
  have HI : Hid (WrAt w a n l) := hI
  have HD : Hid (D = true ↔ MayW l) := hD
  have HZ : Hid (∀ i, (wrL l i).2.size ≤ 9223372036854775807) := hz
  clear hI hD hz
  go_enter Tryd.func60, Tryd.ntmps60
  go_wp2_with fail
  go_loopw [3] (fun v wr => ∃ k : Nat, k ≤ n ∧ k ≤ 7 ∧ v = .int .i64 k ∧ Hid (∀ i, i < k → OneW l i) ∧ Hid (Below w.heap.size w wr)) (fun v _ => n - (intOf v).toNat)
  case atStart => exact ⟨0, Nat.zero_le _, Nat.zero_le _, rfl, fun i h => absurd h (Nat.not_lt_zero _), Below.refl _ _⟩
  case round =>
    obtain ⟨k, hk, hk7, rfl, HK, HB⟩ := hrel
    by_cases hlt : k < n ∧ k < 7
    · obtain ⟨hlt, hlt7⟩ := hlt
      have d0 : (k : Int) < (n : Int) := by omega
      have d1 : (k : Int) < 7 := by omega
      have HIr := HI.out.below HB.out
      obtain ⟨b, off, rfl, x⟩ := HIr.2.resolve_left (by omega)
      obtain ⟨x0, x1⟩ := x k hlt
      have hz1 := HZ.out k
      have HF : Hid (¬ OneW l k → D = false) := fun h => Bool.eq_false_iff.2 (fun e => h ((HD.out.1 e).1 k (by rw [HI.out.1]; exact hlt)))
      obtain ⟨⟨q, t⟩, hq⟩ : ∃ s, wrL l k = s := ⟨_, rfl⟩
      rw [hq] at x0 x1 hz1
      simp only at x0 x1 hz1
      have HO : Hid (OneW l k ↔ (1 ≤ q ∧ q ≤ 6 ∧ t.size = 48 ∧ (0 < k → (wrL l (k - 1)).1 < q))) := by show _ ↔ _; unfold OneW; rw [hq]
      have HX : Hid (∀ i, i < n → wr.cell? ⟨b, off + i * 2, none⟩ = some (.int .i64 (wrL l i).1)) := fun i hi => (x i hi).1
      have u0 : (0 : Int) ≤ (k : Int) := by omega
      clear x hq HIr
      by_cases h1 : q < 1
      · obtain rfl : D = false := HF.out (fun h => by have := (HO.out.1 h).1; omega)
        have s1 : decide (q < 1) = true := decide_eq_true h1
        go_wp2_with fail
        have hS0 : (wr.drew.cell? ⟨b, off + k * 2, none⟩ = some (.int .i64 q) ∧ wr.drew.cell? ⟨b, off + k * 2 + 1, none⟩ = some (.string t)) := ⟨x0, x1⟩
        refine wp_region_noPanic ?_
        refine wp_region_held_drew (S := fun W' => W'.cell? ⟨b, off + k * 2, none⟩ = some (.int .i64 q) ∧ W'.cell? ⟨b, off + k * 2 + 1, none⟩ = some (.string t)) (by kernel_rfl) (by first | exact trivial | assumption | exact ⟨by assumption, by assumption⟩) (fun hHeld => ?_)
        refine tk 0 (v := ?_) rfl rfl ?_ ?_
        rotate_left
        · intro w hSw; (try dsimp only at hSw); go_simp; try with_reducible rfl
        try simp only [Act.put, za, zb, zc]
        refine tk 1 (v := ?_) rfl rfl ?_ ?_
        rotate_left
        · intro w hSw; (try dsimp only at hSw); go_simp; try with_reducible rfl
        try simp only [Act.put, za, zb, zc]
        refine tk 2 (v := ?_) rfl rfl ?_ ?_
        rotate_left
        · intro w hSw; (try dsimp only at hSw); go_simp; try with_reducible rfl
        try simp only [Act.put, za, zb, zc]
        refine tk 3 (v := ?_) rfl rfl ?_ ?_
        rotate_left
        · intro w hSw; (try dsimp only at hSw); go_simp; try with_reducible rfl
        try simp only [Act.put, za, zb, zc]
        refine tk 4 (v := ?_) rfl rfl ?_ ?_
        rotate_left
        · intro w hSw; (try dsimp only at hSw); go_simp; try with_reducible rfl
        try simp only [Act.put, za, zb, zc]
        refine tk 5 (v := ?_) rfl rfl ?_ ?_
        rotate_left
        · intro w hSw; (try dsimp only at hSw); go_simp; try with_reducible rfl
        try simp only [Act.put, za, zb, zc]
        refine tk 6 (v := ?_) rfl rfl ?_ ?_
        rotate_left
        · intro w hSw; (try dsimp only at hSw); go_simp; try with_reducible rfl
        try simp only [Act.put, za, zb, zc]
        refine tn 7 rfl rfl ?_
        try simp only [Act.put, za, zb, zc]
        refine tn 8 rfl rfl ?_
        try simp only [Act.put, za, zb, zc]
        refine tn 9 rfl rfl ?_
        try simp only [Act.put, za, zb, zc]
        refine tn 10 rfl rfl ?_
        try simp only [Act.put, za, zb, zc]
        refine tn 11 rfl rfl ?_
        try simp only [Act.put, za, zb, zc]
        refine tn 12 rfl rfl ?_
        try simp only [Act.put, za, zb, zc]
        refine tk 13 (v := ?_) rfl rfl ?_ ?_
        rotate_left
        · intro w hSw; (try dsimp only at hSw); go_simp; try with_reducible rfl
        try simp only [Act.put, za, zb, zc]
        refine tk 14 (v := ?_) rfl rfl ?_ ?_
        rotate_left
        · intro w hSw; (try dsimp only at hSw); go_simp; try with_reducible rfl
        try simp only [Act.put, za, zb, zc]
        refine tn 15 rfl rfl ?_
        try simp only [Act.put, za, zb, zc]
        refine tn 16 rfl rfl ?_
        try simp only [Act.put, za, zb, zc]
        refine tn 17 rfl rfl ?_
        try simp only [Act.put, za, zb, zc]
        refine tn 18 rfl rfl ?_
        try simp only [Act.put, za, zb, zc]
        refine tn 19 rfl rfl ?_
        try simp only [Act.put, za, zb, zc]
        refine tn 20 rfl rfl ?_
        try simp only [Act.put, za, zb, zc]
        refine tn 21 rfl rfl ?_
        try simp only [Act.put, za, zb, zc]
        refine tk 22 (v := ?_) rfl rfl ?_ ?_
        rotate_left
        · intro w hSw; (try dsimp only at hSw); go_simp; try with_reducible rfl
        try simp only [Act.put, za, zb, zc]
        refine tk 23 (v := ?_) rfl rfl ?_ ?_
        rotate_left
        · intro w hSw; (try dsimp only at hSw); go_simp; try with_reducible rfl
        try simp only [Act.put, za, zb, zc]
        refine tn 24 rfl rfl ?_
        try simp only [Act.put, za, zb, zc]
        refine tn 25 rfl rfl ?_
        try simp only [Act.put, za, zb, zc]
        refine tn 26 rfl rfl ?_
        try simp only [Act.put, za, zb, zc]
        refine tn 27 rfl rfl ?_
        try simp only [Act.put, za, zb, zc]
        refine tn 28 rfl rfl ?_
        try simp only [Act.put, za, zb, zc]
        refine tn 29 rfl rfl ?_
        try simp only [Act.put, za, zb, zc]
        refine tn 30 rfl rfl ?_
        try simp only [Act.put, za, zb, zc]
        refine tn 31 rfl rfl ?_
        try simp only [Act.put, za, zb, zc]
        refine tn 32 rfl rfl ?_
        try simp only [Act.put, za, zb, zc]
        refine tn 33 rfl rfl ?_
        try simp only [Act.put, za, zb, zc]
        refine tn 34 rfl rfl ?_
        try simp only [Act.put, za, zb, zc]
        refine tn 35 rfl rfl ?_
        try simp only [Act.put, za, zb, zc]
        refine tn 36 rfl rfl ?_
        try simp only [Act.put, za, zb, zc]
        refine tn 37 rfl rfl ?_
        try simp only [Act.put, za, zb, zc]
        refine tn 38 rfl rfl ?_
        try simp only [Act.put, za, zb, zc]
        refine tn 39 rfl rfl ?_
        try simp only [Act.put, za, zb, zc]
        refine tk 40 (v := ?_) rfl rfl ?_ ?_
        rotate_left
        · intro w hSw; (try dsimp only at hSw); go_simp; try with_reducible rfl
        try simp only [Act.put, za, zb, zc]
        refine wpAnyH_done (by kernel_rfl) (NoPanic.normal ?_) _
        clear hS0
        go_wp2_with fail
        go_ret
        exact ⟨rfl, below_drewN HB.out 1⟩
      · have s1 : decide (q < 1) = false := decide_eq_false h1
        by_cases h2 : 6 < q
        · obtain rfl : D = false := HF.out (fun h => by have := (HO.out.1 h).2.1; omega)
          have s2 : decide (6 < q) = true := decide_eq_true h2
          go_wp2_with fail
          have hS0 : (wr.drew.cell? ⟨b, off + k * 2, none⟩ = some (.int .i64 q) ∧ wr.drew.cell? ⟨b, off + k * 2 + 1, none⟩ = some (.string t)) := ⟨x0, x1⟩
          refine wp_region_noPanic ?_
          refine wp_region_held_drew (S := fun W' => W'.cell? ⟨b, off + k * 2, none⟩ = some (.int .i64 q) ∧ W'.cell? ⟨b, off + k * 2 + 1, none⟩ = some (.string t)) (by kernel_rfl) (by first | exact trivial | assumption | exact ⟨by assumption, by assumption⟩) (fun hHeld => ?_)
          refine tk 0 (v := ?_) rfl rfl ?_ ?_
          rotate_left
          · intro w hSw; (try dsimp only at hSw); go_simp; try with_reducible rfl
          try simp only [Act.put, za, zb, zc]
          refine tk 1 (v := ?_) rfl rfl ?_ ?_
          rotate_left
          · intro w hSw; (try dsimp only at hSw); go_simp; try with_reducible rfl
          try simp only [Act.put, za, zb, zc]
          refine tk 2 (v := ?_) rfl rfl ?_ ?_
          rotate_left
          · intro w hSw; (try dsimp only at hSw); go_simp; try with_reducible rfl
          try simp only [Act.put, za, zb, zc]
          refine tk 3 (v := ?_) rfl rfl ?_ ?_
          rotate_left
          · intro w hSw; (try dsimp only at hSw); go_simp; try with_reducible rfl
          try simp only [Act.put, za, zb, zc]
          refine tk 4 (v := ?_) rfl rfl ?_ ?_
          rotate_left
          · intro w hSw; (try dsimp only at hSw); go_simp; try with_reducible rfl
          try simp only [Act.put, za, zb, zc]
          refine tk 5 (v := ?_) rfl rfl ?_ ?_
          rotate_left
          · intro w hSw; (try dsimp only at hSw); go_simp; try with_reducible rfl
          try simp only [Act.put, za, zb, zc]
          refine tk 6 (v := ?_) rfl rfl ?_ ?_
          rotate_left
          · intro w hSw; (try dsimp only at hSw); go_simp; try with_reducible rfl
          try simp only [Act.put, za, zb, zc]
          refine tk 7 (v := ?_) rfl rfl ?_ ?_
          rotate_left
          · intro w hSw; (try dsimp only at hSw); go_simp; try with_reducible rfl
          try simp only [Act.put, za, zb, zc]
          refine tk 8 (v := ?_) rfl rfl ?_ ?_
          rotate_left
          · intro w hSw; (try dsimp only at hSw); go_simp; try with_reducible rfl
          try simp only [Act.put, za, zb, zc]
          refine tk 9 (v := ?_) rfl rfl ?_ ?_
          rotate_left
          · intro w hSw; (try dsimp only at hSw); go_simp; try with_reducible rfl
          try simp only [Act.put, za, zb, zc]
          refine tk 10 (v := ?_) rfl rfl ?_ ?_
          rotate_left
          · intro w hSw; (try dsimp only at hSw); go_simp; try with_reducible rfl
          try simp only [Act.put, za, zb, zc]
          refine tk 11 (v := ?_) rfl rfl ?_ ?_
          rotate_left
          · intro w hSw; (try dsimp only at hSw); go_simp; try with_reducible rfl
          try simp only [Act.put, za, zb, zc]
          refine tk 12 (v := ?_) rfl rfl ?_ ?_
          rotate_left
          · intro w hSw; (try dsimp only at hSw); go_simp; try with_reducible rfl
          try simp only [Act.put, za, zb, zc]
          refine tk 13 (v := ?_) rfl rfl ?_ ?_
          rotate_left
          · intro w hSw; (try dsimp only at hSw); go_simp; try with_reducible rfl
          try simp only [Act.put, za, zb, zc]
          refine tk 14 (v := ?_) rfl rfl ?_ ?_
          rotate_left
          · intro w hSw; (try dsimp only at hSw); go_simp; try with_reducible rfl
          try simp only [Act.put, za, zb, zc]
          refine tn 15 rfl rfl ?_
          try simp only [Act.put, za, zb, zc]
          refine tn 16 rfl rfl ?_
          try simp only [Act.put, za, zb, zc]
          refine tn 17 rfl rfl ?_
          try simp only [Act.put, za, zb, zc]
          refine tn 18 rfl rfl ?_
          try simp only [Act.put, za, zb, zc]
          refine tn 19 rfl rfl ?_
          try simp only [Act.put, za, zb, zc]
          refine tn 20 rfl rfl ?_
          try simp only [Act.put, za, zb, zc]
          refine tn 21 rfl rfl ?_
          try simp only [Act.put, za, zb, zc]
          refine tk 22 (v := ?_) rfl rfl ?_ ?_
          rotate_left
          · intro w hSw; (try dsimp only at hSw); go_simp; try with_reducible rfl
          try simp only [Act.put, za, zb, zc]
          refine tk 23 (v := ?_) rfl rfl ?_ ?_
          rotate_left
          · intro w hSw; (try dsimp only at hSw); go_simp; try with_reducible rfl
          try simp only [Act.put, za, zb, zc]
          refine tn 24 rfl rfl ?_
          try simp only [Act.put, za, zb, zc]
          refine tn 25 rfl rfl ?_
          try simp only [Act.put, za, zb, zc]
          refine tn 26 rfl rfl ?_
          try simp only [Act.put, za, zb, zc]
          refine tn 27 rfl rfl ?_
          try simp only [Act.put, za, zb, zc]
          refine tn 28 rfl rfl ?_
          try simp only [Act.put, za, zb, zc]
          refine tn 29 rfl rfl ?_
          try simp only [Act.put, za, zb, zc]
          refine tn 30 rfl rfl ?_
          try simp only [Act.put, za, zb, zc]
          refine tn 31 rfl rfl ?_
          try simp only [Act.put, za, zb, zc]
          refine tn 32 rfl rfl ?_
          try simp only [Act.put, za, zb, zc]
          refine tn 33 rfl rfl ?_
          try simp only [Act.put, za, zb, zc]
          refine tn 34 rfl rfl ?_
          try simp only [Act.put, za, zb, zc]
          refine tn 35 rfl rfl ?_
          try simp only [Act.put, za, zb, zc]
          refine tn 36 rfl rfl ?_
          try simp only [Act.put, za, zb, zc]
          refine tn 37 rfl rfl ?_
          try simp only [Act.put, za, zb, zc]
          refine tn 38 rfl rfl ?_
          try simp only [Act.put, za, zb, zc]
          refine tn 39 rfl rfl ?_
          try simp only [Act.put, za, zb, zc]
          refine tk 40 (v := ?_) rfl rfl ?_ ?_
          rotate_left
          · intro w hSw; (try dsimp only at hSw); go_simp; try with_reducible rfl
          try simp only [Act.put, za, zb, zc]
          refine wpAnyH_done (by kernel_rfl) (NoPanic.normal ?_) _
          clear hS0
          go_wp2_with fail
          go_ret
          exact ⟨rfl, below_drewN HB.out 1⟩
        · have s2 : decide (6 < q) = false := decide_eq_false h2
          by_cases h3 : t.size = 48
          · have s3 : ((t.size : Int) != 48) = false := by rw [bne_eq_false_iff_eq]; omega
            by_cases h4 : 0 < k
            · have s4 : (0 : Int) < (k : Int) := by omega
              have s4' : decide ((0 : Int) < (k : Int)) = true := decide_eq_true s4
              obtain ⟨kk, rfl⟩ : ∃ kk, k = kk + 1 := ⟨k - 1, by omega⟩
              have y0 := HX.out kk (by omega)
              have HO' : Hid (OneW l (kk + 1) ↔ (1 ≤ q ∧ q ≤ 6 ∧ t.size = 48 ∧ (0 < kk + 1 → (wrL l kk).1 < q))) := HO.out
              obtain ⟨pq, hpq⟩ : ∃ pq, (wrL l kk).1 = pq := ⟨_, rfl⟩
              rw [hpq] at y0 HO'
              have w1 : ((kk + 1 : Nat) : Int) - 1 = (kk : Int) := by omega
              have w2 : (kk : Int) + 1 - 1 = (kk : Int) := by omega
              have w3 : (0 : Int) ≤ (kk : Int) := by omega
              have w4 : (kk : Int) < (n : Int) := by omega
              have w5 : (0 : Int) ≤ (kk : Int) + 1 := by omega
              have w6 : (kk : Int) + 1 < (n : Int) := by omega
              have w7 : ((kk : Int) + 1).toNat = kk + 1 := by omega
              have w8 : decide ((0 : Int) < (kk : Int) + 1) = true := decide_eq_true (by omega)
              have w9 : (0 : Int) < (kk : Int) + 1 := by omega
              have wk : IntKind.i64.wrap (kk : Int) = (kk : Int) := by rw [IntKind.wrap_i64]; omega
              have wl : IntKind.i64.wrap ((kk : Int) + 1 - 1) = (kk : Int) := by rw [IntKind.wrap_i64]; omega
              clear hpq HX
              by_cases h5 : q ≤ pq
              · obtain rfl : D = false := HF.out (fun h => by have := (HO'.out.1 h).2.2.2 (by omega); omega)
                have s5 : decide (q ≤ pq) = true := decide_eq_true h5
                clear h1 h2 h3 h5 HO HO' HF
                go_wp2_with fail
                have hS0 : (wr.drew.cell? ⟨b, off + (kk + 1) * 2, none⟩ = some (.int .i64 q) ∧ wr.drew.cell? ⟨b, off + (kk + 1) * 2 + 1, none⟩ = some (.string t) ∧ wr.drew.cell? ⟨b, off + kk * 2, none⟩ = some (.int .i64 pq)) := ⟨x0, x1, y0⟩
                refine wp_region_noPanic ?_
                refine wp_region_held_drew (S := fun W' => W'.cell? ⟨b, off + (kk + 1) * 2, none⟩ = some (.int .i64 q) ∧ W'.cell? ⟨b, off + (kk + 1) * 2 + 1, none⟩ = some (.string t) ∧ W'.cell? ⟨b, off + kk * 2, none⟩ = some (.int .i64 pq)) (by kernel_rfl) (by first | exact trivial | assumption | exact ⟨by assumption, by assumption⟩) (fun hHeld => ?_)
                refine tk 0 (v := ?_) rfl rfl ?_ ?_
                rotate_left
                · intro w hSw; (try dsimp only at hSw); go_simp; try with_reducible rfl
                try simp only [Act.put, za, zb, zc]
                refine tk 1 (v := ?_) rfl rfl ?_ ?_
                rotate_left
                · intro w hSw; (try dsimp only at hSw); go_simp; try with_reducible rfl
                try simp only [Act.put, za, zb, zc]
                refine tk 2 (v := ?_) rfl rfl ?_ ?_
                rotate_left
                · intro w hSw; (try dsimp only at hSw); go_simp; try with_reducible rfl
                try simp only [Act.put, za, zb, zc]
                refine tk 3 (v := ?_) rfl rfl ?_ ?_
                rotate_left
                · intro w hSw; (try dsimp only at hSw); go_simp; try with_reducible rfl
                try simp only [Act.put, za, zb, zc]
                refine tk 4 (v := ?_) rfl rfl ?_ ?_
                rotate_left
                · intro w hSw; (try dsimp only at hSw); go_simp; try with_reducible rfl
                try simp only [Act.put, za, zb, zc]
                refine tk 5 (v := ?_) rfl rfl ?_ ?_
                rotate_left
                · intro w hSw; (try dsimp only at hSw); go_simp; try with_reducible rfl
                try simp only [Act.put, za, zb, zc]
                refine tk 6 (v := ?_) rfl rfl ?_ ?_
                rotate_left
                · intro w hSw; (try dsimp only at hSw); go_simp; try with_reducible rfl
                try simp only [Act.put, za, zb, zc]
                refine tk 7 (v := ?_) rfl rfl ?_ ?_
                rotate_left
                · intro w hSw; (try dsimp only at hSw); go_simp; try with_reducible rfl
                try simp only [Act.put, za, zb, zc]
                refine tk 8 (v := ?_) rfl rfl ?_ ?_
                rotate_left
                · intro w hSw; (try dsimp only at hSw); go_simp; try with_reducible rfl
                try simp only [Act.put, za, zb, zc]
                refine tk 9 (v := ?_) rfl rfl ?_ ?_
                rotate_left
                · intro w hSw; (try dsimp only at hSw); go_simp; try with_reducible rfl
                try simp only [Act.put, za, zb, zc]
                refine tk 10 (v := ?_) rfl rfl ?_ ?_
                rotate_left
                · intro w hSw; (try dsimp only at hSw); go_simp; try with_reducible rfl
                try simp only [Act.put, za, zb, zc]
                refine tk 11 (v := ?_) rfl rfl ?_ ?_
                rotate_left
                · intro w hSw; (try dsimp only at hSw); go_simp; try with_reducible rfl
                try simp only [Act.put, za, zb, zc]
                refine tk 12 (v := ?_) rfl rfl ?_ ?_
                rotate_left
                · intro w hSw; (try dsimp only at hSw); go_simp; try with_reducible rfl
                try simp only [Act.put, za, zb, zc]
                refine tk 13 (v := ?_) rfl rfl ?_ ?_
                rotate_left
                · intro w hSw; (try dsimp only at hSw); go_simp; try with_reducible rfl
                try simp only [Act.put, za, zb, zc]
                refine tk 14 (v := ?_) rfl rfl ?_ ?_
                rotate_left
                · intro w hSw; (try dsimp only at hSw); go_simp; try with_reducible rfl
                try simp only [Act.put, za, zb, zc]
                refine tk 15 (v := ?_) rfl rfl ?_ ?_
                rotate_left
                · intro w hSw; (try dsimp only at hSw); go_simp; try with_reducible rfl
                try simp only [Act.put, za, zb, zc]
                refine tk 16 (v := ?_) rfl rfl ?_ ?_
                rotate_left
                · intro w hSw; (try dsimp only at hSw); go_simp; try with_reducible rfl
                try simp only [Act.put, za, zb, zc]
                refine tk 17 (v := ?_) rfl rfl ?_ ?_
                rotate_left
                · intro w hSw; (try dsimp only at hSw); go_simp; try with_reducible rfl
                try simp only [Act.put, za, zb, zc]
                refine tk 18 (v := ?_) rfl rfl ?_ ?_
                rotate_left
                · intro w hSw; (try dsimp only at hSw); go_simp; try with_reducible rfl
                try simp only [Act.put, za, zb, zc]
                refine tk 19 (v := ?_) rfl rfl ?_ ?_
                rotate_left
                · intro w hSw; (try dsimp only at hSw); go_simp; try with_reducible rfl
                try simp only [Act.put, za, zb, zc]
                refine tk 20 (v := ?_) rfl rfl ?_ ?_
                rotate_left
                · intro w hSw; (try dsimp only at hSw); go_simp; try with_reducible rfl
                try simp only [Act.put, za, zb, zc]
                refine tk 21 (v := ?_) rfl rfl ?_ ?_
                rotate_left
                · intro w hSw; (try dsimp only at hSw); go_simp; try with_reducible rfl
                try simp only [Act.put, za, zb, zc]
                refine tk 22 (v := ?_) rfl rfl ?_ ?_
                rotate_left
                · intro w hSw; (try dsimp only at hSw); go_simp; try with_reducible rfl
                try simp only [Act.put, za, zb, zc]
                refine tk 23 (v := ?_) rfl rfl ?_ ?_
                rotate_left
                · intro w hSw; (try dsimp only at hSw); go_simp; try with_reducible rfl
                try simp only [Act.put, za, zb, zc]
                refine tk 24 (v := ?_) rfl rfl ?_ ?_
                rotate_left
                · intro w hSw; (try dsimp only at hSw); go_simp; try with_reducible rfl
                try simp only [Act.put, za, zb, zc]
                refine tk 25 (v := ?_) rfl rfl ?_ ?_
                rotate_left
                · intro w hSw; (try dsimp only at hSw); go_simp; try with_reducible rfl
                try simp only [Act.put, za, zb, zc]
                refine tk 26 (v := ?_) rfl rfl ?_ ?_
                rotate_left
                · intro w hSw; (try dsimp only at hSw); go_simp; try with_reducible rfl
                try simp only [Act.put, za, zb, zc]
                refine tk 27 (v := ?_) rfl rfl ?_ ?_
                rotate_left
                · intro w hSw; (try dsimp only at hSw); go_simp; try with_reducible rfl
                try simp only [Act.put, za, zb, zc]
                refine tk 28 (v := ?_) rfl rfl ?_ ?_
                rotate_left
                · intro w hSw; (try dsimp only at hSw); go_simp; try with_reducible rfl
                try simp only [Act.put, za, zb, zc]
                refine tk 29 (v := ?_) rfl rfl ?_ ?_
                rotate_left
                · intro w hSw; (try dsimp only at hSw); go_simp; try with_reducible rfl
                try simp only [Act.put, za, zb, zc]
                refine tk 30 (v := ?_) rfl rfl ?_ ?_
                rotate_left
                · intro w hSw; (try dsimp only at hSw); go_simp; try with_reducible rfl
                try simp only [Act.put, za, zb, zc]
                refine tk 31 (v := ?_) rfl rfl ?_ ?_
                rotate_left
                · intro w hSw; (try dsimp only at hSw); go_simp; try with_reducible rfl
                try simp only [Act.put, za, zb, zc]
                refine tk 32 (v := ?_) rfl rfl ?_ ?_
                rotate_left
                · intro w hSw; (try dsimp only at hSw); go_simp; try with_reducible rfl
                try simp only [Act.put, za, zb, zc]
                refine tk 33 (v := ?_) rfl rfl ?_ ?_
                rotate_left
                · intro w hSw; (try dsimp only at hSw); go_simp; try with_reducible rfl
                try simp only [Act.put, za, zb, zc]
                refine tk 34 (v := ?_) rfl rfl ?_ ?_
                rotate_left
                · intro w hSw; (try dsimp only at hSw); go_simp; try with_reducible rfl
                try simp only [Act.put, za, zb, zc]
                refine tk 35 (v := ?_) rfl rfl ?_ ?_
                rotate_left
                · intro w hSw; (try dsimp only at hSw); go_simp; try with_reducible rfl
                try simp only [Act.put, za, zb, zc]
                refine tk 36 (v := ?_) rfl rfl ?_ ?_
                rotate_left
                · intro w hSw; (try dsimp only at hSw); go_simp; try with_reducible rfl
                try simp only [Act.put, za, zb, zc]
                refine tk 37 (v := ?_) rfl rfl ?_ ?_
                rotate_left
                · intro w hSw; (try dsimp only at hSw); go_simp; try with_reducible rfl
                try simp only [Act.put, za, zb, zc]
                refine tk 38 (v := ?_) rfl rfl ?_ ?_
                rotate_left
                · intro w hSw; (try dsimp only at hSw); go_simp; try with_reducible rfl
                try simp only [Act.put, za, zb, zc]
                refine tk 39 (v := ?_) rfl rfl ?_ ?_
                rotate_left
                · intro w hSw; (try dsimp only at hSw); go_simp; try with_reducible rfl
                try simp only [Act.put, za, zb, zc]
                refine tk 40 (v := ?_) rfl rfl ?_ ?_
                rotate_left
                · intro w hSw; (try dsimp only at hSw); go_simp; try with_reducible rfl
                try simp only [Act.put, za, zb, zc]
                refine wpAnyH_done (by kernel_rfl) (NoPanic.normal ?_) _
                clear hS0
                go_wp2_with fail
                go_ret
                exact ⟨rfl, below_drewN HB.out 1⟩
              · have s5 : decide (q ≤ pq) = false := decide_eq_false h5
                have HN : Hid (∀ i, i < kk + 1 + 1 → OneW l i) := fun i hi => by
                  by_cases e : i = kk + 1
                  · rw [e]; exact HO'.out.2 ⟨by omega, by omega, h3, fun _ => by omega⟩
                  · exact HK.out i (by omega)
                clear h1 h2 h3 h5 HO HO' HF HK
                go_wp2_with fail
                have hS0 : (wr.drew.cell? ⟨b, off + (kk + 1) * 2, none⟩ = some (.int .i64 q) ∧ wr.drew.cell? ⟨b, off + (kk + 1) * 2 + 1, none⟩ = some (.string t) ∧ wr.drew.cell? ⟨b, off + kk * 2, none⟩ = some (.int .i64 pq)) := ⟨x0, x1, y0⟩
                refine wp_region_noPanic ?_
                refine wp_region_held_drew (S := fun W' => W'.cell? ⟨b, off + (kk + 1) * 2, none⟩ = some (.int .i64 q) ∧ W'.cell? ⟨b, off + (kk + 1) * 2 + 1, none⟩ = some (.string t) ∧ W'.cell? ⟨b, off + kk * 2, none⟩ = some (.int .i64 pq)) (by kernel_rfl) (by first | exact trivial | assumption | exact ⟨by assumption, by assumption⟩) (fun hHeld => ?_)
                refine tk 0 (v := ?_) rfl rfl ?_ ?_
                rotate_left
                · intro w hSw; (try dsimp only at hSw); go_simp; try with_reducible rfl
                try simp only [Act.put, za, zb, zc]
                refine tk 1 (v := ?_) rfl rfl ?_ ?_
                rotate_left
                · intro w hSw; (try dsimp only at hSw); go_simp; try with_reducible rfl
                try simp only [Act.put, za, zb, zc]
                refine tk 2 (v := ?_) rfl rfl ?_ ?_
                rotate_left
                · intro w hSw; (try dsimp only at hSw); go_simp; try with_reducible rfl
                try simp only [Act.put, za, zb, zc]
                refine tk 3 (v := ?_) rfl rfl ?_ ?_
                rotate_left
                · intro w hSw; (try dsimp only at hSw); go_simp; try with_reducible rfl
                try simp only [Act.put, za, zb, zc]
                refine tk 4 (v := ?_) rfl rfl ?_ ?_
                rotate_left
                · intro w hSw; (try dsimp only at hSw); go_simp; try with_reducible rfl
                try simp only [Act.put, za, zb, zc]
                refine tk 5 (v := ?_) rfl rfl ?_ ?_
                rotate_left
                · intro w hSw; (try dsimp only at hSw); go_simp; try with_reducible rfl
                try simp only [Act.put, za, zb, zc]
                refine tk 6 (v := ?_) rfl rfl ?_ ?_
                rotate_left
                · intro w hSw; (try dsimp only at hSw); go_simp; try with_reducible rfl
                try simp only [Act.put, za, zb, zc]
                refine tk 7 (v := ?_) rfl rfl ?_ ?_
                rotate_left
                · intro w hSw; (try dsimp only at hSw); go_simp; try with_reducible rfl
                try simp only [Act.put, za, zb, zc]
                refine tk 8 (v := ?_) rfl rfl ?_ ?_
                rotate_left
                · intro w hSw; (try dsimp only at hSw); go_simp; try with_reducible rfl
                try simp only [Act.put, za, zb, zc]
                refine tk 9 (v := ?_) rfl rfl ?_ ?_
                rotate_left
                · intro w hSw; (try dsimp only at hSw); go_simp; try with_reducible rfl
                try simp only [Act.put, za, zb, zc]
                refine tk 10 (v := ?_) rfl rfl ?_ ?_
                rotate_left
                · intro w hSw; (try dsimp only at hSw); go_simp; try with_reducible rfl
                try simp only [Act.put, za, zb, zc]
                refine tk 11 (v := ?_) rfl rfl ?_ ?_
                rotate_left
                · intro w hSw; (try dsimp only at hSw); go_simp; try with_reducible rfl
                try simp only [Act.put, za, zb, zc]
                refine tk 12 (v := ?_) rfl rfl ?_ ?_
                rotate_left
                · intro w hSw; (try dsimp only at hSw); go_simp; try with_reducible rfl
                try simp only [Act.put, za, zb, zc]
                refine tk 13 (v := ?_) rfl rfl ?_ ?_
                rotate_left
                · intro w hSw; (try dsimp only at hSw); go_simp; try with_reducible rfl
                try simp only [Act.put, za, zb, zc]
                refine tk 14 (v := ?_) rfl rfl ?_ ?_
                rotate_left
                · intro w hSw; (try dsimp only at hSw); go_simp; try with_reducible rfl
                try simp only [Act.put, za, zb, zc]
                refine tk 15 (v := ?_) rfl rfl ?_ ?_
                rotate_left
                · intro w hSw; (try dsimp only at hSw); go_simp; try with_reducible rfl
                try simp only [Act.put, za, zb, zc]
                refine tk 16 (v := ?_) rfl rfl ?_ ?_
                rotate_left
                · intro w hSw; (try dsimp only at hSw); go_simp; try with_reducible rfl
                try simp only [Act.put, za, zb, zc]
                refine tk 17 (v := ?_) rfl rfl ?_ ?_
                rotate_left
                · intro w hSw; (try dsimp only at hSw); go_simp; try with_reducible rfl
                try simp only [Act.put, za, zb, zc]
                refine tk 18 (v := ?_) rfl rfl ?_ ?_
                rotate_left
                · intro w hSw; (try dsimp only at hSw); go_simp; try with_reducible rfl
                try simp only [Act.put, za, zb, zc]
                refine tk 19 (v := ?_) rfl rfl ?_ ?_
                rotate_left
                · intro w hSw; (try dsimp only at hSw); go_simp; try with_reducible rfl
                try simp only [Act.put, za, zb, zc]
                refine tk 20 (v := ?_) rfl rfl ?_ ?_
                rotate_left
                · intro w hSw; (try dsimp only at hSw); go_simp; try with_reducible rfl
                try simp only [Act.put, za, zb, zc]
                refine tk 21 (v := ?_) rfl rfl ?_ ?_
                rotate_left
                · intro w hSw; (try dsimp only at hSw); go_simp; try with_reducible rfl
                try simp only [Act.put, za, zb, zc]
                refine tk 22 (v := ?_) rfl rfl ?_ ?_
                rotate_left
                · intro w hSw; (try dsimp only at hSw); go_simp; try with_reducible rfl
                try simp only [Act.put, za, zb, zc]
                refine tk 23 (v := ?_) rfl rfl ?_ ?_
                rotate_left
                · intro w hSw; (try dsimp only at hSw); go_simp; try with_reducible rfl
                try simp only [Act.put, za, zb, zc]
                refine tk 24 (v := ?_) rfl rfl ?_ ?_
                rotate_left
                · intro w hSw; (try dsimp only at hSw); go_simp; try with_reducible rfl
                try simp only [Act.put, za, zb, zc]
                refine tk 25 (v := ?_) rfl rfl ?_ ?_
                rotate_left
                · intro w hSw; (try dsimp only at hSw); go_simp; try with_reducible rfl
                try simp only [Act.put, za, zb, zc]
                refine tk 26 (v := ?_) rfl rfl ?_ ?_
                rotate_left
                · intro w hSw; (try dsimp only at hSw); go_simp; try with_reducible rfl
                try simp only [Act.put, za, zb, zc]
                refine tk 27 (v := ?_) rfl rfl ?_ ?_
                rotate_left
                · intro w hSw; (try dsimp only at hSw); go_simp; try with_reducible rfl
                try simp only [Act.put, za, zb, zc]
                refine tk 28 (v := ?_) rfl rfl ?_ ?_
                rotate_left
                · intro w hSw; (try dsimp only at hSw); go_simp; try with_reducible rfl
                try simp only [Act.put, za, zb, zc]
                refine tk 29 (v := ?_) rfl rfl ?_ ?_
                rotate_left
                · intro w hSw; (try dsimp only at hSw); go_simp; try with_reducible rfl
                try simp only [Act.put, za, zb, zc]
                refine tk 30 (v := ?_) rfl rfl ?_ ?_
                rotate_left
                · intro w hSw; (try dsimp only at hSw); go_simp; try with_reducible rfl
                try simp only [Act.put, za, zb, zc]
                refine tk 31 (v := ?_) rfl rfl ?_ ?_
                rotate_left
                · intro w hSw; (try dsimp only at hSw); go_simp; try with_reducible rfl
                try simp only [Act.put, za, zb, zc]
                refine tk 32 (v := ?_) rfl rfl ?_ ?_
                rotate_left
                · intro w hSw; (try dsimp only at hSw); go_simp; try with_reducible rfl
                try simp only [Act.put, za, zb, zc]
                refine tk 33 (v := ?_) rfl rfl ?_ ?_
                rotate_left
                · intro w hSw; (try dsimp only at hSw); go_simp; try with_reducible rfl
                try simp only [Act.put, za, zb, zc]
                refine tk 34 (v := ?_) rfl rfl ?_ ?_
                rotate_left
                · intro w hSw; (try dsimp only at hSw); go_simp; try with_reducible rfl
                try simp only [Act.put, za, zb, zc]
                refine tk 35 (v := ?_) rfl rfl ?_ ?_
                rotate_left
                · intro w hSw; (try dsimp only at hSw); go_simp; try with_reducible rfl
                try simp only [Act.put, za, zb, zc]
                refine tk 36 (v := ?_) rfl rfl ?_ ?_
                rotate_left
                · intro w hSw; (try dsimp only at hSw); go_simp; try with_reducible rfl
                try simp only [Act.put, za, zb, zc]
                refine tk 37 (v := ?_) rfl rfl ?_ ?_
                rotate_left
                · intro w hSw; (try dsimp only at hSw); go_simp; try with_reducible rfl
                try simp only [Act.put, za, zb, zc]
                refine tk 38 (v := ?_) rfl rfl ?_ ?_
                rotate_left
                · intro w hSw; (try dsimp only at hSw); go_simp; try with_reducible rfl
                try simp only [Act.put, za, zb, zc]
                refine tk 39 (v := ?_) rfl rfl ?_ ?_
                rotate_left
                · intro w hSw; (try dsimp only at hSw); go_simp; try with_reducible rfl
                try simp only [Act.put, za, zb, zc]
                refine tk 40 (v := ?_) rfl rfl ?_ ?_
                rotate_left
                · intro w hSw; (try dsimp only at hSw); go_simp; try with_reducible rfl
                try simp only [Act.put, za, zb, zc]
                refine wpAnyH_done (by kernel_rfl) (NoPanic.normal ?_) _
                clear hS0
                go_wp2_with fail
                refine ⟨?_, ?_⟩
                · first
                  | exact ⟨kk + 1 + 1, by omega, by omega, by go_num, HN, below_drewN HB.out 1⟩
                  | ((repeat apply Exists.intro); refine ⟨?_, rfl⟩; exact ⟨kk + 1 + 1, by omega, by omega, by go_num, HN, below_drewN HB.out 1⟩)
                · simp [intOf] <;> omega
            · have s4 : decide ((0 : Int) < (k : Int)) = false := decide_eq_false (by omega)
              have s4' : ¬ ((0 : Int) < (k : Int)) := by omega
              have HN : Hid (∀ i, i < k + 1 → OneW l i) := fun i hi => by
                obtain rfl : i = k := by omega
                exact HO.out.2 ⟨by omega, by omega, h3, fun h => absurd h h4⟩
              have s4n : decide (0 < k) = false := decide_eq_false h4
              clear h1 h2 h3 HO HF HK
              go_wp2_with fail
              have hS0 : (wr.drew.cell? ⟨b, off + k * 2, none⟩ = some (.int .i64 q) ∧ wr.drew.cell? ⟨b, off + k * 2 + 1, none⟩ = some (.string t)) := ⟨x0, x1⟩
              refine wp_region_noPanic ?_
              refine wp_region_held_drew (S := fun W' => W'.cell? ⟨b, off + k * 2, none⟩ = some (.int .i64 q) ∧ W'.cell? ⟨b, off + k * 2 + 1, none⟩ = some (.string t)) (by kernel_rfl) (by first | exact trivial | assumption | exact ⟨by assumption, by assumption⟩) (fun hHeld => ?_)
              refine tk 0 (v := ?_) rfl rfl ?_ ?_
              rotate_left
              · intro w hSw; (try dsimp only at hSw); go_simp; try with_reducible rfl
              try simp only [Act.put, za, zb, zc]
              refine tk 1 (v := ?_) rfl rfl ?_ ?_
              rotate_left
              · intro w hSw; (try dsimp only at hSw); go_simp; try with_reducible rfl
              try simp only [Act.put, za, zb, zc]
              refine tk 2 (v := ?_) rfl rfl ?_ ?_
              rotate_left
              · intro w hSw; (try dsimp only at hSw); go_simp; try with_reducible rfl
              try simp only [Act.put, za, zb, zc]
              refine tk 3 (v := ?_) rfl rfl ?_ ?_
              rotate_left
              · intro w hSw; (try dsimp only at hSw); go_simp; try with_reducible rfl
              try simp only [Act.put, za, zb, zc]
              refine tk 4 (v := ?_) rfl rfl ?_ ?_
              rotate_left
              · intro w hSw; (try dsimp only at hSw); go_simp; try with_reducible rfl
              try simp only [Act.put, za, zb, zc]
              refine tk 5 (v := ?_) rfl rfl ?_ ?_
              rotate_left
              · intro w hSw; (try dsimp only at hSw); go_simp; try with_reducible rfl
              try simp only [Act.put, za, zb, zc]
              refine tk 6 (v := ?_) rfl rfl ?_ ?_
              rotate_left
              · intro w hSw; (try dsimp only at hSw); go_simp; try with_reducible rfl
              try simp only [Act.put, za, zb, zc]
              refine tk 7 (v := ?_) rfl rfl ?_ ?_
              rotate_left
              · intro w hSw; (try dsimp only at hSw); go_simp; try with_reducible rfl
              try simp only [Act.put, za, zb, zc]
              refine tk 8 (v := ?_) rfl rfl ?_ ?_
              rotate_left
              · intro w hSw; (try dsimp only at hSw); go_simp; try with_reducible rfl
              try simp only [Act.put, za, zb, zc]
              refine tk 9 (v := ?_) rfl rfl ?_ ?_
              rotate_left
              · intro w hSw; (try dsimp only at hSw); go_simp; try with_reducible rfl
              try simp only [Act.put, za, zb, zc]
              refine tk 10 (v := ?_) rfl rfl ?_ ?_
              rotate_left
              · intro w hSw; (try dsimp only at hSw); go_simp; try with_reducible rfl
              try simp only [Act.put, za, zb, zc]
              refine tk 11 (v := ?_) rfl rfl ?_ ?_
              rotate_left
              · intro w hSw; (try dsimp only at hSw); go_simp; try with_reducible rfl
              try simp only [Act.put, za, zb, zc]
              refine tk 12 (v := ?_) rfl rfl ?_ ?_
              rotate_left
              · intro w hSw; (try dsimp only at hSw); go_simp; try with_reducible rfl
              try simp only [Act.put, za, zb, zc]
              refine tk 13 (v := ?_) rfl rfl ?_ ?_
              rotate_left
              · intro w hSw; (try dsimp only at hSw); go_simp; try with_reducible rfl
              try simp only [Act.put, za, zb, zc]
              refine tk 14 (v := ?_) rfl rfl ?_ ?_
              rotate_left
              · intro w hSw; (try dsimp only at hSw); go_simp; try with_reducible rfl
              try simp only [Act.put, za, zb, zc]
              refine tk 15 (v := ?_) rfl rfl ?_ ?_
              rotate_left
              · intro w hSw; (try dsimp only at hSw); go_simp; try with_reducible rfl
              try simp only [Act.put, za, zb, zc]
              refine tk 16 (v := ?_) rfl rfl ?_ ?_
              rotate_left
              · intro w hSw; (try dsimp only at hSw); go_simp; try with_reducible rfl
              try simp only [Act.put, za, zb, zc]
              refine tk 17 (v := ?_) rfl rfl ?_ ?_
              rotate_left
              · intro w hSw; (try dsimp only at hSw); go_simp; try with_reducible rfl
              try simp only [Act.put, za, zb, zc]
              refine tk 18 (v := ?_) rfl rfl ?_ ?_
              rotate_left
              · intro w hSw; (try dsimp only at hSw); go_simp; try with_reducible rfl
              try simp only [Act.put, za, zb, zc]
              refine tk 19 (v := ?_) rfl rfl ?_ ?_
              rotate_left
              · intro w hSw; (try dsimp only at hSw); go_simp; try with_reducible rfl
              try simp only [Act.put, za, zb, zc]
              refine tk 20 (v := ?_) rfl rfl ?_ ?_
              rotate_left
              · intro w hSw; (try dsimp only at hSw); go_simp; try with_reducible rfl
              try simp only [Act.put, za, zb, zc]
              refine tk 21 (v := ?_) rfl rfl ?_ ?_
              rotate_left
              · intro w hSw; (try dsimp only at hSw); go_simp; try with_reducible rfl
              try simp only [Act.put, za, zb, zc]
              refine tk 22 (v := ?_) rfl rfl ?_ ?_
              rotate_left
              · intro w hSw; (try dsimp only at hSw); go_simp; try with_reducible rfl
              try simp only [Act.put, za, zb, zc]
              refine tk 23 (v := ?_) rfl rfl ?_ ?_
              rotate_left
              · intro w hSw; (try dsimp only at hSw); go_simp; try with_reducible rfl
              try simp only [Act.put, za, zb, zc]
              refine tk 24 (v := ?_) rfl rfl ?_ ?_
              rotate_left
              · intro w hSw; (try dsimp only at hSw); go_simp; try with_reducible rfl
              try simp only [Act.put, za, zb, zc]
              refine tk 25 (v := ?_) rfl rfl ?_ ?_
              rotate_left
              · intro w hSw; (try dsimp only at hSw); go_simp; try with_reducible rfl
              try simp only [Act.put, za, zb, zc]
              refine tk 26 (v := ?_) rfl rfl ?_ ?_
              rotate_left
              · intro w hSw; (try dsimp only at hSw); go_simp; try with_reducible rfl
              try simp only [Act.put, za, zb, zc]
              refine tn 27 rfl rfl ?_
              try simp only [Act.put, za, zb, zc]
              refine tn 28 rfl rfl ?_
              try simp only [Act.put, za, zb, zc]
              refine tn 29 rfl rfl ?_
              try simp only [Act.put, za, zb, zc]
              refine tn 30 rfl rfl ?_
              try simp only [Act.put, za, zb, zc]
              refine tn 31 rfl rfl ?_
              try simp only [Act.put, za, zb, zc]
              refine tn 32 rfl rfl ?_
              try simp only [Act.put, za, zb, zc]
              refine tn 33 rfl rfl ?_
              try simp only [Act.put, za, zb, zc]
              refine tn 34 rfl rfl ?_
              try simp only [Act.put, za, zb, zc]
              refine tn 35 rfl rfl ?_
              try simp only [Act.put, za, zb, zc]
              refine tn 36 rfl rfl ?_
              try simp only [Act.put, za, zb, zc]
              refine tn 37 rfl rfl ?_
              try simp only [Act.put, za, zb, zc]
              refine tn 38 rfl rfl ?_
              try simp only [Act.put, za, zb, zc]
              refine tk 39 (v := ?_) rfl rfl ?_ ?_
              rotate_left
              · intro w hSw; (try dsimp only at hSw); go_simp; try with_reducible rfl
              try simp only [Act.put, za, zb, zc]
              refine tk 40 (v := ?_) rfl rfl ?_ ?_
              rotate_left
              · intro w hSw; (try dsimp only at hSw); go_simp; try with_reducible rfl
              try simp only [Act.put, za, zb, zc]
              refine wpAnyH_done (by kernel_rfl) (NoPanic.normal ?_) _
              clear hS0
              go_wp2_with fail
              refine ⟨?_, ?_⟩
              · first
                | exact ⟨k + 1, by omega, by omega, by go_num, HN, below_drewN HB.out 1⟩
                | ((repeat apply Exists.intro); refine ⟨?_, rfl⟩; exact ⟨k + 1, by omega, by omega, by go_num, HN, below_drewN HB.out 1⟩)
              · simp [intOf] <;> omega
          · obtain rfl : D = false := HF.out (fun h => h3 (HO.out.1 h).2.2.1)
            have s3 : ((t.size : Int) != 48) = true := by rw [bne_iff_ne]; omega
            go_wp2_with fail
            have hS0 : (wr.drew.cell? ⟨b, off + k * 2, none⟩ = some (.int .i64 q) ∧ wr.drew.cell? ⟨b, off + k * 2 + 1, none⟩ = some (.string t)) := ⟨x0, x1⟩
            refine wp_region_noPanic ?_
            refine wp_region_held_drew (S := fun W' => W'.cell? ⟨b, off + k * 2, none⟩ = some (.int .i64 q) ∧ W'.cell? ⟨b, off + k * 2 + 1, none⟩ = some (.string t)) (by kernel_rfl) (by first | exact trivial | assumption | exact ⟨by assumption, by assumption⟩) (fun hHeld => ?_)
            refine tk 0 (v := ?_) rfl rfl ?_ ?_
            rotate_left
            · intro w hSw; (try dsimp only at hSw); go_simp; try with_reducible rfl
            try simp only [Act.put, za, zb, zc]
            refine tk 1 (v := ?_) rfl rfl ?_ ?_
            rotate_left
            · intro w hSw; (try dsimp only at hSw); go_simp; try with_reducible rfl
            try simp only [Act.put, za, zb, zc]
            refine tk 2 (v := ?_) rfl rfl ?_ ?_
            rotate_left
            · intro w hSw; (try dsimp only at hSw); go_simp; try with_reducible rfl
            try simp only [Act.put, za, zb, zc]
            refine tk 3 (v := ?_) rfl rfl ?_ ?_
            rotate_left
            · intro w hSw; (try dsimp only at hSw); go_simp; try with_reducible rfl
            try simp only [Act.put, za, zb, zc]
            refine tk 4 (v := ?_) rfl rfl ?_ ?_
            rotate_left
            · intro w hSw; (try dsimp only at hSw); go_simp; try with_reducible rfl
            try simp only [Act.put, za, zb, zc]
            refine tk 5 (v := ?_) rfl rfl ?_ ?_
            rotate_left
            · intro w hSw; (try dsimp only at hSw); go_simp; try with_reducible rfl
            try simp only [Act.put, za, zb, zc]
            refine tk 6 (v := ?_) rfl rfl ?_ ?_
            rotate_left
            · intro w hSw; (try dsimp only at hSw); go_simp; try with_reducible rfl
            try simp only [Act.put, za, zb, zc]
            refine tk 7 (v := ?_) rfl rfl ?_ ?_
            rotate_left
            · intro w hSw; (try dsimp only at hSw); go_simp; try with_reducible rfl
            try simp only [Act.put, za, zb, zc]
            refine tk 8 (v := ?_) rfl rfl ?_ ?_
            rotate_left
            · intro w hSw; (try dsimp only at hSw); go_simp; try with_reducible rfl
            try simp only [Act.put, za, zb, zc]
            refine tk 9 (v := ?_) rfl rfl ?_ ?_
            rotate_left
            · intro w hSw; (try dsimp only at hSw); go_simp; try with_reducible rfl
            try simp only [Act.put, za, zb, zc]
            refine tk 10 (v := ?_) rfl rfl ?_ ?_
            rotate_left
            · intro w hSw; (try dsimp only at hSw); go_simp; try with_reducible rfl
            try simp only [Act.put, za, zb, zc]
            refine tk 11 (v := ?_) rfl rfl ?_ ?_
            rotate_left
            · intro w hSw; (try dsimp only at hSw); go_simp; try with_reducible rfl
            try simp only [Act.put, za, zb, zc]
            refine tk 12 (v := ?_) rfl rfl ?_ ?_
            rotate_left
            · intro w hSw; (try dsimp only at hSw); go_simp; try with_reducible rfl
            try simp only [Act.put, za, zb, zc]
            refine tk 13 (v := ?_) rfl rfl ?_ ?_
            rotate_left
            · intro w hSw; (try dsimp only at hSw); go_simp; try with_reducible rfl
            try simp only [Act.put, za, zb, zc]
            refine tk 14 (v := ?_) rfl rfl ?_ ?_
            rotate_left
            · intro w hSw; (try dsimp only at hSw); go_simp; try with_reducible rfl
            try simp only [Act.put, za, zb, zc]
            refine tk 15 (v := ?_) rfl rfl ?_ ?_
            rotate_left
            · intro w hSw; (try dsimp only at hSw); go_simp; try with_reducible rfl
            try simp only [Act.put, za, zb, zc]
            refine tk 16 (v := ?_) rfl rfl ?_ ?_
            rotate_left
            · intro w hSw; (try dsimp only at hSw); go_simp; try with_reducible rfl
            try simp only [Act.put, za, zb, zc]
            refine tk 17 (v := ?_) rfl rfl ?_ ?_
            rotate_left
            · intro w hSw; (try dsimp only at hSw); go_simp; try with_reducible rfl
            try simp only [Act.put, za, zb, zc]
            refine tk 18 (v := ?_) rfl rfl ?_ ?_
            rotate_left
            · intro w hSw; (try dsimp only at hSw); go_simp; try with_reducible rfl
            try simp only [Act.put, za, zb, zc]
            refine tk 19 (v := ?_) rfl rfl ?_ ?_
            rotate_left
            · intro w hSw; (try dsimp only at hSw); go_simp; try with_reducible rfl
            try simp only [Act.put, za, zb, zc]
            refine tk 20 (v := ?_) rfl rfl ?_ ?_
            rotate_left
            · intro w hSw; (try dsimp only at hSw); go_simp; try with_reducible rfl
            try simp only [Act.put, za, zb, zc]
            refine tk 21 (v := ?_) rfl rfl ?_ ?_
            rotate_left
            · intro w hSw; (try dsimp only at hSw); go_simp; try with_reducible rfl
            try simp only [Act.put, za, zb, zc]
            refine tk 22 (v := ?_) rfl rfl ?_ ?_
            rotate_left
            · intro w hSw; (try dsimp only at hSw); go_simp; try with_reducible rfl
            try simp only [Act.put, za, zb, zc]
            refine tk 23 (v := ?_) rfl rfl ?_ ?_
            rotate_left
            · intro w hSw; (try dsimp only at hSw); go_simp; try with_reducible rfl
            try simp only [Act.put, za, zb, zc]
            refine tn 24 rfl rfl ?_
            try simp only [Act.put, za, zb, zc]
            refine tn 25 rfl rfl ?_
            try simp only [Act.put, za, zb, zc]
            refine tn 26 rfl rfl ?_
            try simp only [Act.put, za, zb, zc]
            refine tn 27 rfl rfl ?_
            try simp only [Act.put, za, zb, zc]
            refine tn 28 rfl rfl ?_
            try simp only [Act.put, za, zb, zc]
            refine tn 29 rfl rfl ?_
            try simp only [Act.put, za, zb, zc]
            refine tn 30 rfl rfl ?_
            try simp only [Act.put, za, zb, zc]
            refine tn 31 rfl rfl ?_
            try simp only [Act.put, za, zb, zc]
            refine tn 32 rfl rfl ?_
            try simp only [Act.put, za, zb, zc]
            refine tn 33 rfl rfl ?_
            try simp only [Act.put, za, zb, zc]
            refine tn 34 rfl rfl ?_
            try simp only [Act.put, za, zb, zc]
            refine tn 35 rfl rfl ?_
            try simp only [Act.put, za, zb, zc]
            refine tn 36 rfl rfl ?_
            try simp only [Act.put, za, zb, zc]
            refine tn 37 rfl rfl ?_
            try simp only [Act.put, za, zb, zc]
            refine tn 38 rfl rfl ?_
            try simp only [Act.put, za, zb, zc]
            refine tn 39 rfl rfl ?_
            try simp only [Act.put, za, zb, zc]
            refine tk 40 (v := ?_) rfl rfl ?_ ?_
            rotate_left
            · intro w hSw; (try dsimp only at hSw); go_simp; try with_reducible rfl
            try simp only [Act.put, za, zb, zc]
            refine wpAnyH_done (by kernel_rfl) (NoPanic.normal ?_) _
            clear hS0
            go_wp2_with fail
            go_ret
            exact ⟨rfl, below_drewN HB.out 1⟩
    · by_cases h8 : n ≤ 6
      · have s8 : (n : Int) ≤ 6 := by omega
        have d0 : ¬ ((k : Int) < (n : Int)) := by omega
        obtain rfl : D = true := HD.out.2 ⟨fun i hi => HK.out i (by rw [HI.out.1] at hi; omega), by rw [HI.out.1]; exact h8⟩
        go_wp2_with fail
        go_ret
        exact ⟨rfl, HB.out⟩
      · have s8 : decide ((n : Int) ≤ 6) = false := decide_eq_false (by omega)
        obtain rfl : D = false := Bool.eq_false_iff.2 (fun e => h8 (by have := (HD.out.1 e).2; rwa [HI.out.1] at this))
        by_cases h9 : k < n
        · have d0 : (k : Int) < (n : Int) := by omega
          have d1 : ¬ ((k : Int) < 7) := by omega
          go_wp2_with fail
          go_ret
          exact ⟨rfl, HB.out⟩
        · have d0 : ¬ ((k : Int) < (n : Int)) := by omega
          go_wp2_with fail
          go_ret
          exact ⟨rfl, HB.out⟩

end Go.Proofs.YtabhkebkbidfhaaDoor
