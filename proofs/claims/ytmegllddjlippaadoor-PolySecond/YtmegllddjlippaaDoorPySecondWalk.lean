/- The walk of PolySecond. -/
import Derived.Test.YtmegllddjlippaaDoorPyJ
import Derived.Test.YtmegllddjlippaaDoorZer
import Derived.Deep.RegionWith
namespace Go.Proofs.YtmegllddjlippaaDoor
open Go.RowKit
set_option linter.unusedSimpArgs false

set_option maxRecDepth 100000 in
set_option maxHeartbeats 4000000 in
theorem polySecond_walk (key s : ByteArray) (w : World) (hY : GlobY w) :
    Calls Tryd.prog 5 #[.string key, .string s] w fun e w' => e = .returned (.bool true) ∧ Below w.heap.size w w' := by
  have CA : Hid (∀ w', Below w.heap.size w w' → _) := fun w' hb => awake_on w w' hY hb
  by_cases hk : key.size = 32
  · have g0 : (((key.size : Int) != 32)) = false := by rw [bne_eq_false_iff_eq]; omega
    by_cases hs : 512 < s.size
    · have g1 : decide ((512 : Int) < (s.size : Int)) = true := by simp; omega
      clear hY
      go_enter Tryd.func5, Tryd.ntmps5
      go_wp2_with fail
      refine (CA.out _ (Below.refl _ _)).mono ?_
      rintro e w1 ⟨rfl, hb1⟩
      go_wp2_with fail
      go_ret
      exact ⟨rfl, hb1⟩
    · have g1 : decide ((512 : Int) < (s.size : Int)) = false := by simp; omega
      obtain ⟨K1, hK1⟩ : ∃ K, key.extract 0 16 = K := ⟨_, rfl⟩
      obtain ⟨K2, hK2⟩ : ∃ K, key.extract 16 32 = K := ⟨_, rfl⟩
      have hK1s : K1.size = 16 := by rw [← hK1, ByteArray.size_extract, hk]; rfl
      have hK2s : K2.size = 16 := by rw [← hK2, ByteArray.size_extract, hk]; rfl
      obtain ⟨Z, HZ⟩ : ∃ Z, Hid (Z = zeroB 16) := ⟨_, rfl⟩
      have hZs : Z.size = 16 := by rw [HZ.out]; exact zeroB_size _
      obtain ⟨A, hA⟩ : ∃ A, Z ++ K2 = A := ⟨_, rfl⟩
      have hAs : A.size = 32 := by rw [← hA, ByteArray.size_append, hZs, hK2s]
      obtain ⟨C, HC⟩ : ∃ C, Hid (C = clampB K1) := ⟨_, rfl⟩
      have hCs : C.size = 16 := by rw [HC.out]; exact clampB_size _
      obtain ⟨B, hB⟩ : ∃ B, C ++ K2 = B := ⟨_, rfl⟩
      have hBs : B.size = 32 := by rw [← hB, ByteArray.size_append, hCs, hK2s]
      have c1 := fun w' hb => mac_on A s w w' hY hb hAs (by omega)
      have e1 : tagB A s = K2 := by rw [← hA, HZ.out]; exact tag_noughts K2 s hK2s
      rw [e1] at c1
      have c2 := fun w' hb => clamp_yes K1 w' hK1s (hY.below hb)
      rw [← HC.out] at c2
      have c3 := fun w' hb => mac_on key s w w' hY hb hk (by omega)
      have c4 := fun w' hb => mac_on B s w w' hY hb hBs (by omega)
      have e2 : tagB B s = tagB key s := by rw [← hB, HC.out, ← hK1, ← hK2]; exact tag_clamped key s hk
      rw [e2] at c4
      generalize tagB key s = T at *
      have C1 : Hid (∀ w', Below w.heap.size w w' → _) := c1
      have C2 : Hid (∀ w', Below w.heap.size w w' → _) := c2
      have C3 : Hid (∀ w', Below w.heap.size w w' → _) := c3
      have C4 : Hid (∀ w', Below w.heap.size w w' → _) := c4
      have hsum1 : ¬ (9223372036854775807 < Z.size + K2.size) := by omega
      have hsum2 : ¬ (9223372036854775807 < C.size + K2.size) := by omega
      have m1 := fun w => make_zeros 16 16 rfl (by decide) w
      have v1 : (convert 29 9 (.slice (some ⟨w.heap.size, 0, none⟩) 16 16)).run Tryd.prog (w.alloc (.cells (zcells 16) 5)).drew = .ok (.string Z) (w.alloc (.cells (zcells 16) 5)).drew := by
        rw [HZ.out]; exact conv_zeros (row_zeros 16 w)
      have hB0 : Below w.heap.size w (w.alloc (.cells (zcells 16) 5)).drew := (below_new w _).drew
      clear c1 c2 c3 c4 e1 e2 hY HZ HC hs
      go_enter Tryd.func5, Tryd.ntmps5
      go_wp2_with fail
      go_region_with (go_at_call 9; refine (C1.out _ hB0).mono ?_; rintro e w1 ⟨rfl, hB1⟩)
      all_goals
        clear m1 v1 hB0 C1
        go_wp2_with fail
        refine (C2.out _ hB1).mono ?_
        rintro e w2 ⟨rfl, hb2⟩
        have hB2 := below_step hB1 (Nat.le_refl _) hb2
        clear C2 hb2 hB1
        go_wp2_with fail
        refine (C3.out _ hB2).mono ?_
        rintro e w3 ⟨rfl, hB3⟩
        clear C3 hB2
        go_wp2_with fail
        refine (C4.out _ hB3).mono ?_
        rintro e w4 ⟨rfl, hB4⟩
        clear C4 hB3
        go_wp2_with fail
        refine (CA.out _ hB4).mono ?_
        rintro e w5 ⟨rfl, hB5⟩
        clear CA hB4
        go_wp2_with fail
        go_ret
        exact ⟨rfl, hB5⟩
  · have g0 : (((key.size : Int) != 32)) = true := by rw [bne_iff_ne]; omega
    clear hY
    go_enter Tryd.func5, Tryd.ntmps5
    go_wp2_with fail
    refine (CA.out _ (Below.refl _ _)).mono ?_
    rintro e w1 ⟨rfl, hb1⟩
    go_wp2_with fail
    go_ret
    exact ⟨rfl, hb1⟩
end Go.Proofs.YtmegllddjlippaaDoor
