import Derived.Test.YtnhdobgkfhgkbaaDoorHkLight
namespace Go.Proofs.YtnhdobgkfhgkbaaDoor
open Go.RowKit
set_option linter.unusedSimpArgs false

set_option maxRecDepth 100000 in
set_option maxHeartbeats 4000000 in
theorem hkdfChains_light (key p : ByteArray) (many : Int) (w : World) (hk' : key.size ≤ 512) (hp : p.size ≤ 512) (hB : GlobB w) (hK : GlobK w) :
    Calls Tryd.prog 6 #[.string key, .string p, .int .i64 many] w fun e w' => e = .returned (.bool true) ∧ Below w.heap.size w w' := by
  have HB : Hid (GlobB w) := hB
  have HK : Hid (GlobK w) := hK
  obtain ⟨a, ha, ea⟩ : ∃ a : Nat, a < 256 ∧ many % 256 = (a : Int) := ⟨(many % 256).toNat, by omega, by omega⟩
  have handa : bits .and .i64 many 255 = (a : Int) := by rw [i64_and255, ea]
  obtain ⟨q, hq⟩ : ∃ q : Nat, q = a % 6 := ⟨_, rfl⟩
  have eq : Int.tmod (a : Int) 6 = (q : Int) := by rw [hq, Int.tmod_eq_emod_of_nonneg (by omega)]; omega
  obtain ⟨n, hn⟩ : ∃ n : Nat, n = 1 + q := ⟨_, rfl⟩
  have hn2 : n ≤ 6 := by omega
  have hq2 : q < 6 := by omega
  have en : 1 + (q : Int) = (n : Int) := by omega
  obtain ⟨N, hN⟩ : ∃ N : Nat, N = 32 * n := ⟨_, rfl⟩
  have HN : Hid (N = 32 * n) := hN
  have eN : 32 * (n : Int) = (N : Int) := by omega
  have C1 : Hid (∀ w, GlobB w → GlobK w → _) := fun w => expand_ok key p N w (by omega) (by omega) (by omega)
  have L : Hid (Calls _ _ _ _ _) := light2_yes key p 9 w hk' hp
  have HP : Hid (∀ i, i < n → (expandB key p N).extract (32 * i) (32 * i + 32) = partB key p (i + 1)) := fun i hi => expand_part key p N i (by omega)
  have hEs := expandB_size key p N
  generalize expandB key p N = E at *
  have HX : Hid (∀ k, (partB key p k).size ≤ 32) := partB_le key p
  clear hB hK ea ha hn hN hq
  go_enter Tryd.func6, Tryd.ntmps6
  go_wp2_with fail
  refine L.out.mono ?_
  rintro e w1 ⟨rfl, hb1⟩
  clear L
  go_wp2_with fail
  refine (C1.out _ (HB.out.below hb1) (HK.out.below hb1)).mono ?_
  rintro e w2 ⟨rfl, hb2⟩
  have hB2 := below_step hb1 (Nat.le_refl _) hb2
  clear hb1 hb2 C1
  go_wp2_with fail
  clear en eN handa eq
  go_loopw [10, 11] (fun l i wr => ∃ k : Nat, k ≤ n ∧ i = .int .i64 ((k : Int) + 1) ∧ l = .string (partB key p k) ∧ Below w.heap.size w wr) (fun _ i _ => n + 1 - (intOf i).toNat)
  case atStart => exact ⟨0, Nat.zero_le _, rfl, rfl, hB2⟩
  case round =>
    clear hB2
    obtain ⟨k, hk, rfl, rfl, hbl⟩ := hrel
    by_cases hlt : k < n
    · have g2 : decide ((k : Int) + 1 ≤ (n : Int)) = true := by simp; omega
      obtain ⟨T, hT⟩ : ∃ T, T = partB key p k := ⟨_, rfl⟩
      have hTs : T.size ≤ 32 := by rw [hT]; exact HX.out k
      have hcv : ∀ w : World, (convert 29 9 (.slice (some ⟨w.heap.size, 0, none⟩) 1 1)).run Tryd.prog (w.alloc (.cells #[.int .u8 ((k : Int) + 1)] 5)) = .ok (.string (oneByte (k + 1))) (w.alloc (.cells #[.int .u8 ((k : Int) + 1)] 5)) :=
        fun w => one_conv w (k + 1) (by omega) 5 29 9 Tryd.underlying29 Tryd.underlying5 Tryd.underlying9
      obtain ⟨U, hU⟩ : ∃ U, T ++ p = U := ⟨_, rfl⟩
      have hUs : U.size = T.size + p.size := by rw [← hU, ByteArray.size_append]
      obtain ⟨O, hO⟩ : ∃ O, O = oneByte (k + 1) := ⟨_, rfl⟩
      have hOs : O.size = 1 := by rw [hO]; rfl
      obtain ⟨V, hV⟩ : ∃ V, U ++ O = V := ⟨_, rfl⟩
      have hVs : V.size = U.size + O.size := by rw [← hV, ByteArray.size_append]
      have C : Hid (∀ w, GlobB w → GlobK w → _) := fun w => mac_any key V w (by omega) (by omega)
      obtain ⟨T', hT'⟩ : ∃ T', Hid (T' = partB key p (k + 1)) := ⟨_, rfl⟩
      have eT : macB key V = T' := by rw [hT'.out, partB_succ, ← hT, hU, ← hO, hV]
      have hcut : E.extract (32 * (k + 1) - 32) (32 * (k + 1)) = partB key p (k + 1) := HP.out k hlt
      have hle : 32 * k + 32 ≤ N := by have := HN.out; omega
      rw [← hT'.out] at hcut
      rw [eT] at C
      rw [← hO] at hcv
      have hsum1 : ¬ (9223372036854775807 < T.size + p.size) := by omega
      have hsum2 : ¬ (9223372036854775807 < U.size + O.size) := by omega
      rw [← hT]
      clear hO eT hT hVs hOs hUs
      go_wp2_with fail
      have hbx : Below w.heap.size w (wr.alloc (.cells #[.int .u8 ((k : Int) + 1)] 5)) := hbl.alloc hbl.size _
      generalize wr.alloc _ = wx at *
      clear hbl
      refine (C.out _ (HB.out.below hbx) (HK.out.below hbx)).mono ?_
      rintro e w3 ⟨rfl, hb3⟩
      have hB3 := below_step hbx (Nat.le_refl _) hb3
      clear hbx hb3 C hcv
      go_wp2_with fail
      go_roundw
      case rel => exact ⟨k + 1, by omega, by go_num, by rw [hT'.out], hB3⟩
      case measure => simp [intOf]; omega
    · have hk' : k = n := by omega
      subst hk'
      have g2 : decide ((k : Int) + 1 ≤ (k : Int)) = false := by simp; omega
      go_wp2_with fail
      refine (one_any _ (HB.out.below hbl) (HK.out.below hbl)).mono ?_
      rintro e w4 ⟨rfl, hb4⟩
      have hB4 := below_step hbl (Nat.le_refl _) hb4
      go_wp2_with fail
      go_ret
      exact ⟨rfl, hB4⟩

set_option maxHeartbeats 4000000 in
theorem hkdfChains_walk (key p : ByteArray) (many : Int) (w : World) (hB : GlobB w) (hK : GlobK w) :
    Calls Tryd.prog 6 #[.string key, .string p, .int .i64 many] w fun e w' => e = .returned (.bool true) ∧ Below w.heap.size w w' := by
  by_cases h0 : key.size ≤ 512 ∧ p.size ≤ 512
  · exact hkdfChains_light key p many w h0.1 h0.2 hB hK
  · have HB : Hid (GlobB w) := hB
    have HK : Hid (GlobK w) := hK
    have L : Hid (Calls _ _ _ _ _) := light2_no key p 9 w (by omega)
    clear hB hK h0
    go_enter Tryd.func6, Tryd.ntmps6
    go_wp2_with fail
    refine L.out.mono ?_
    rintro e w1 ⟨rfl, hb1⟩
    go_wp2_with fail
    refine (one_any _ (HB.out.below hb1) (HK.out.below hb1)).mono ?_
    rintro e w2 ⟨rfl, hb2⟩
    have hB2 := below_step hb1 (Nat.le_refl _) hb2
    go_wp2_with fail
    go_ret
    exact ⟨rfl, hB2⟩
end Go.Proofs.YtnhdobgkfhgkbaaDoor
