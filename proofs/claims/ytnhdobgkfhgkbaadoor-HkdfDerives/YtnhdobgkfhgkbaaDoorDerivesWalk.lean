import Derived.Test.YtnhdobgkfhgkbaaDoorHkLight
namespace Go.Proofs.YtnhdobgkfhgkbaaDoor
open Go.RowKit
set_option linter.unusedSimpArgs false

set_option maxRecDepth 100000 in
set_option maxHeartbeats 4000000 in
theorem hkdfDerives_light (salt s : ByteArray) (x y : Int) (w : World) (hk : salt.size ≤ 512) (hs : s.size ≤ 512) (hB : GlobB w) (hK : GlobK w) :
    Calls Tryd.prog 5 #[.string salt, .string s, .agg #[.int .i64 x, .int .i64 y]] w fun e w' => e = .returned (.bool true) ∧ Below w.heap.size w w' := by
  have HB : Hid (GlobB w) := hB
  have HK : Hid (GlobK w) := hK
  obtain ⟨a, ha, ea⟩ : ∃ a : Nat, a < 256 ∧ x % 256 = (a : Int) := ⟨(x % 256).toNat, by omega, by omega⟩
  have handa : bits .and .i64 x 255 = (a : Int) := by rw [i64_and255, ea]
  obtain ⟨b, hb, eb⟩ : ∃ b : Nat, b < 256 ∧ y % 256 = (b : Int) := ⟨(y % 256).toNat, by omega, by omega⟩
  have handb : bits .and .i64 y 255 = (b : Int) := by rw [i64_and255, eb]
  obtain ⟨n, hn⟩ : ∃ n : Nat, n = a % 200 := ⟨_, rfl⟩
  have hn2 : n < 200 := by omega
  have en : Int.tmod (a : Int) 200 = (n : Int) := by rw [hn, Int.tmod_eq_emod_of_nonneg (by omega)]; omega
  obtain ⟨r, hr⟩ : ∃ r : Nat, r = b % (201 - n) := ⟨_, rfl⟩
  have hr2 : r < 201 - n := by rw [hr]; exact Nat.mod_lt _ (by omega)
  have er : Int.tmod (b : Int) (201 - (n : Int)) = (r : Int) := by
    rw [hr, Int.tmod_eq_emod_of_nonneg (by omega), show (201 : Int) - (n : Int) = ((201 - n : Nat) : Int) by omega]; rfl
  obtain ⟨m, hm⟩ : ∃ m : Nat, m = n + r := ⟨_, rfl⟩
  have em : (n : Int) + (r : Int) = (m : Int) := by omega
  have hm2 : m ≤ 200 := by omega
  have hnm : n ≤ m := by omega
  obtain ⟨p, Hp⟩ : ∃ p : ByteArray, Hid (p = ⟨#[112]⟩) := ⟨_, rfl⟩
  have hps : p.size = 1 := by rw [Hp.out]; rfl
  have C1 : Hid (∀ w, GlobB w → GlobK w → _) := fun w => derive_ok salt s p n w (by omega) (by omega) (by omega) (by omega)
  have C2 : Hid (∀ w, GlobB w → GlobK w → _) := fun w => derive_ok salt s p m w (by omega) (by omega) (by omega) (by omega)
  have C3 : Hid (∀ w, GlobB w → GlobK w → _) := fun w => extract_any salt s w (by omega) (by omega)
  have C4 : Hid (∀ w, GlobB w → GlobK w → _) := fun w => expand_ok (macB salt s) p m w (by rw [macB_size]; omega) (by omega) (by omega)
  have hf := expand_fewer (macB salt s) p n m (by omega)
  have hs1 := expandB_size (macB salt s) p n
  have hs2 := expandB_size (macB salt s) p m
  have L : Hid (∀ w, _) := fun w => light2_yes salt s 9 w hk hs
  obtain ⟨K, HKK⟩ : ∃ K, Hid (K = macB salt s) := ⟨_, rfl⟩
  rw [← HKK.out] at C1 C2 C3 C4 hf hs1 hs2
  generalize expandB K p n = E1 at *
  generalize expandB K p m = E2 at *
  rw [Hp.out] at C1 C2 C4
  clear hB hK hn hr hps ea eb ha hb hk hs Hp HKK hm
  go_enter Tryd.func5, Tryd.ntmps5
  go_wp2_with fail
  have L' := L.out (w.alloc (.cells #[.int .i64 x, .int .i64 y] 31))
  rw [show (w.alloc (.cells #[.int .i64 x, .int .i64 y] 31)).heap.size = w.heap.size + 1 by simp] at L'
  refine L'.mono ?_
  rintro e w1 ⟨rfl, hb1⟩
  have hB1 : Below w.heap.size w w1 := (below_new w _).trans (hb1.mono (by omega))
  have c0 : w1.cell? ⟨w.heap.size, 0, none⟩ = some (.int .i64 x) := by rw [hb1.cell (p := ⟨w.heap.size, 0, none⟩) (Nat.lt_succ_self _)]; simp
  have c1 : w1.cell? ⟨w.heap.size, 1, none⟩ = some (.int .i64 y) := by rw [hb1.cell (p := ⟨w.heap.size, 1, none⟩) (Nat.lt_succ_self _)]; simp
  clear L' L hb1
  go_wp2_with fail
  refine (C1.out _ (HB.out.below hB1) (HK.out.below hB1)).mono ?_
  rintro e w2 ⟨rfl, hb2⟩
  have hB2 := below_step hB1 (Nat.le_refl _) hb2
  clear hb2 c0 c1 C1
  go_wp2_with fail
  refine (C2.out _ (HB.out.below hB2) (HK.out.below hB2)).mono ?_
  rintro e w3 ⟨rfl, hb3⟩
  have hB3 := below_step hB2 (Nat.le_refl _) hb3
  clear hb3 C2
  go_wp2_with fail
  refine (C3.out _ (HB.out.below hB3) (HK.out.below hB3)).mono ?_
  rintro e w4 ⟨rfl, hb4⟩
  have hB4 := below_step hB3 (Nat.le_refl _) hb4
  clear hb4 C3
  go_wp2_with fail
  refine (C4.out _ (HB.out.below hB4) (HK.out.below hB4)).mono ?_
  rintro e w5 ⟨rfl, hb5⟩
  have hB5 := below_step hB4 (Nat.le_refl _) hb5
  clear hb5 C4
  go_wp2_with fail
  refine (one_any _ (HB.out.below hB5) (HK.out.below hB5)).mono ?_
  rintro e w6 ⟨rfl, hb6⟩
  have hB6 := below_step hB5 (Nat.le_refl _) hb6
  go_wp2_with fail
  go_ret
  exact ⟨rfl, hB6⟩

set_option maxHeartbeats 4000000 in
theorem hkdfDerives_walk (salt s : ByteArray) (x y : Int) (w : World) (hB : GlobB w) (hK : GlobK w) :
    Calls Tryd.prog 5 #[.string salt, .string s, .agg #[.int .i64 x, .int .i64 y]] w fun e w' => e = .returned (.bool true) ∧ Below w.heap.size w w' := by
  by_cases h0 : salt.size ≤ 512 ∧ s.size ≤ 512
  · exact hkdfDerives_light salt s x y w h0.1 h0.2 hB hK
  · have HB : Hid (GlobB w) := hB
    have HK : Hid (GlobK w) := hK
    have L : Hid (∀ w, _) := fun w => light2_no salt s 9 w (by omega)
    clear hB hK h0
    go_enter Tryd.func5, Tryd.ntmps5
    go_wp2_with fail
    have L' := L.out (w.alloc (.cells #[.int .i64 x, .int .i64 y] 31))
    rw [show (w.alloc (.cells #[.int .i64 x, .int .i64 y] 31)).heap.size = w.heap.size + 1 by simp] at L'
    refine L'.mono ?_
    rintro e w1 ⟨rfl, hb1⟩
    have hB1 : Below w.heap.size w w1 := (below_new w _).trans (hb1.mono (by omega))
    clear L' L hb1
    go_wp2_with fail
    refine (one_any _ (HB.out.below hB1) (HK.out.below hB1)).mono ?_
    rintro e w2 ⟨rfl, hb2⟩
    have hB2 := below_step hB1 (Nat.le_refl _) hb2
    go_wp2_with fail
    go_ret
    exact ⟨rfl, hB2⟩
end Go.Proofs.YtnhdobgkfhgkbaaDoor
