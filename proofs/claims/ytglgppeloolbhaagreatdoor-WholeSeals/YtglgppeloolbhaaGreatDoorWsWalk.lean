import Derived.Test.YtglgppeloolbhaaGreatDoorWsA
/- The walk of WholeSeals. -/
namespace Go.Proofs.YtglgppeloolbhaaGreatDoor
open Go.RowKit
set_option maxRecDepth 100000
set_option linter.unusedSimpArgs false

set_option maxHeartbeats 4000000 in
set_option maxRecDepth 100000 in
theorem wholeSeals_few (keys b s : ByteArray) (w : World) (hk2 : keys.size ≤ 512) (hb : b.size ≤ 512) (hs : s.size ≤ 512) (hT : Tabs w) :
    Calls Tryz.prog 3 #[.string keys, .string b, .string s] w fun e w' => e = .returned (.bool true) ∧ Below w.heap.size w w' := by
  have g1 : decide ((512 : Int) < (keys.size : Int)) = false := by simp; omega
  have g2 : decide ((512 : Int) < (b.size : Int)) = false := by simp; omega
  have g3 : decide ((512 : Int) < (s.size : Int)) = false := by simp; omega
  obtain ⟨k, hk⟩ : ∃ k, k = min 32 keys.size := ⟨_, rfl⟩
  have hmin : min (32 : Int) (keys.size : Int) = (k : Int) := by omega
  have i0 : (0 : Int) ≤ (k : Int) := by omega
  have i1 : (k : Int) ≤ (keys.size : Int) := by omega
  have i2 : k ≤ keys.size := by omega
  obtain ⟨K, hK⟩ : ∃ K, keys.extract 0 k = K := ⟨_, rfl⟩
  obtain ⟨N, hN⟩ : ∃ N, keys.extract k keys.size = N := ⟨_, rfl⟩
  obtain ⟨n, hn⟩ : ∃ n, n = s.size % 200 := ⟨_, rfl⟩
  have hm : Int.tmod (s.size : Int) 200 = (n : Int) := by rw [hn, Int.tmod_eq_emod_of_nonneg (by omega)]; omega
  obtain ⟨B, m, D1, D2⟩ := sealsW_both K N b s w hT.2.1 hT.2.2 (by omega)
  have C1 : Hid (∀ w', Below w.heap.size w w' → _) := D1
  have C2 : Hid (∀ w', Below w.heap.size w w' → _) := D2
  obtain ⟨D, D3, D4⟩ := derivesW_both b keys s n w hT hb hk2 hs (by omega)
  have C3 : Hid (∀ w', Below w.heap.size w w' → _) := D3
  have C4 : Hid (∀ w', Below w.heap.size w w' → _) := D4
  obtain ⟨Z, hZ, D5⟩ := expandW_k w hT
  have C5 : Hid (∀ w', Below w.heap.size w w' → _) := D5
  have hZi : (Z.size : Int) = 32 := by omega
  clear D1 D2 D3 D4 D5 hT hk hn
  go_enter Tryz.func3, Tryz.ntmps3
  go_wp2_with fail
  go_region_with (go_at_call 4; refine (C1.out _ (Below.refl _ _).drew).mono ?_; rintro e w1 ⟨rfl, hb1⟩)
  go_wp2_with fail
  go_region_with (go_at_call 5; refine (C2.out _ hb1.drew).mono ?_; rintro e w2 ⟨rfl, hb2⟩)
  go_wp2_with fail
  refine (C3.out _ hb2).mono ?_
  rintro e w3 ⟨rfl, hb3⟩
  go_wp2_with fail
  refine (C4.out _ hb3).mono ?_
  rintro e w4 ⟨rfl, hb4⟩
  go_wp2_with fail
  refine (C5.out _ hb4).mono ?_
  rintro e w5 ⟨rfl, hb5⟩
  go_wp2_with fail
  go_ret
  exact ⟨rfl, hb5⟩

set_option maxHeartbeats 2000000 in
theorem wholeSeals_many (keys b s : ByteArray) (w : World) (h : 512 < keys.size ∨ (keys.size ≤ 512 ∧ 512 < b.size) ∨ (keys.size ≤ 512 ∧ b.size ≤ 512 ∧ 512 < s.size)) :
    Calls Tryz.prog 3 #[.string keys, .string b, .string s] w fun e w' => e = .returned (.bool true) ∧ Below w.heap.size w w' := by
  rcases h with h | ⟨h1, h⟩ | ⟨h1, h2, h⟩
  · have g1 : decide ((512 : Int) < (keys.size : Int)) = true := by simp; omega
    clear h
    go_enter Tryz.func3, Tryz.ntmps3
    go_wp2_with fail
    go_ret
    exact ⟨rfl, Below.refl _ _⟩
  · have g1 : decide ((512 : Int) < (keys.size : Int)) = false := by simp; omega
    have g2 : decide ((512 : Int) < (b.size : Int)) = true := by simp; omega
    clear h1 h
    go_enter Tryz.func3, Tryz.ntmps3
    go_wp2_with fail
    go_ret
    exact ⟨rfl, Below.refl _ _⟩
  · have g1 : decide ((512 : Int) < (keys.size : Int)) = false := by simp; omega
    have g2 : decide ((512 : Int) < (b.size : Int)) = false := by simp; omega
    have g3 : decide ((512 : Int) < (s.size : Int)) = true := by simp; omega
    clear h1 h2 h
    go_enter Tryz.func3, Tryz.ntmps3
    go_wp2_with fail
    go_ret
    exact ⟨rfl, Below.refl _ _⟩

theorem wholeSeals_walk (keys b s : ByteArray) (w : World) (hT : Tabs w) :
    Calls Tryz.prog 3 #[.string keys, .string b, .string s] w fun e w' => e = .returned (.bool true) ∧ Below w.heap.size w w' := by
  by_cases h : keys.size ≤ 512 ∧ b.size ≤ 512 ∧ s.size ≤ 512
  · exact wholeSeals_few keys b s w h.1 h.2.1 h.2.2 hT
  · exact wholeSeals_many keys b s w (by omega)
end Go.Proofs.YtglgppeloolbhaaGreatDoor
