/- The walk of AeadMost. -/
import Derived.Test.YtjjafkjjehphjaaDoorL7
namespace Go.Proofs.YtjjafkjjehphjaaDoor
open Go.RowKit
set_option linter.unusedSimpArgs false

theorem i64_and32767 (n : Int) : bits .and .i64 n 32767 = n % 32768 := i64_mask n 15 (by decide) 32767 (by decide)
theorem i64_and1a (n : Int) : bits .and .i64 n 1 = n % 2 := i64_mask n 1 (by decide) 1 (by decide)

set_option maxRecDepth 100000 in
set_option maxHeartbeats 4000000 in
theorem aeadMost_yes (keys : ByteArray) (share more : Int) (w : World) (hk : keys.size = 44) (hP : GlobP w) (hY : GlobY w) :
    Calls Tryd.prog 7 #[.string keys, .int .i64 share, .int .i64 more] w fun e w' => e = .returned (.bool true) ∧ Below w.heap.size w w' := by
  obtain ⟨n, hn, en⟩ : ∃ n : Nat, n < 32768 ∧ share % 32768 = (n : Int) := ⟨(share % 32768).toNat, by omega, by omega⟩
  have hand : bits .and .i64 share 32767 = (n : Int) := by rw [i64_and32767, en]
  obtain ⟨q, hq⟩ : ∃ q : Nat, q = 32768 - n := ⟨_, rfl⟩
  have e18 : (32768 : Int) - (n : Int) = (q : Int) := by omega
  obtain ⟨K, hK⟩ : ∃ K, keys.extract 0 32 = K := ⟨_, rfl⟩
  obtain ⟨N, hN⟩ : ∃ N, keys.extract 32 44 = N := ⟨_, rfl⟩
  have hKs : K.size = 32 := by rw [← hK, ByteArray.size_extract, hk]; rfl
  have hNs : N.size = 12 := by rw [← hN, ByteArray.size_extract, hk]; rfl
  have g0 : (((keys.size : Int) != 44)) = false := by rw [bne_eq_false_iff_eq]; omega
  have C3 : Hid (∀ w', Below w.heap.size w w' → _) := fun w' hb => awake7_on w w' hP hY hb
  obtain ⟨Z, HZ⟩ : ∃ Z, Hid (Z = zeroB n) := ⟨_, rfl⟩
  have hZs : Z.size = n := by rw [HZ.out, zeroB_size]
  rcases (by omega : more % 2 = 0 ∨ more % 2 = 1) with hp | hp
  · have hand2 : bits .and .i64 more 1 = 0 := by rw [i64_and1a, hp]
    obtain ⟨m, hm⟩ : ∃ m : Nat, m = q := ⟨_, rfl⟩
    obtain ⟨Y, HY⟩ : ∃ Y, Hid (Y = zeroB m) := ⟨_, rfl⟩
    have hYs : Y.size = m := by rw [HY.out, zeroB_size]
    obtain ⟨S, HS⟩ : ∃ S, Hid (sealB K N Z Y = S) := ⟨_, rfl⟩
    have hSs : S.size = m + 16 := by rw [← HS.out, sealB_size, hYs]
    have m1 := fun w => make_zeros n (n : Int) rfl (by omega) w
    have m2 := fun w => make_zeros m (m : Int) rfl (by omega) w
    have v1 : (convert 28 9 (.slice (some ⟨w.heap.size, 0, none⟩) n n)).run Tryd.prog (w.alloc (.cells (zcells n) 5)).drew = .ok (.string Z) (w.alloc (.cells (zcells n) 5)).drew := by
      rw [HZ.out]; exact conv_zeros (row_zeros n w)
    have v2 : (convert 28 9 (.slice (some ⟨w.heap.size, 0, none⟩) n n)).run Tryd.prog ((w.alloc (.cells (zcells n) 5)).alloc (.cells (zcells m) 5)).drew = .ok (.string Z) ((w.alloc (.cells (zcells n) 5)).alloc (.cells (zcells m) 5)).drew := by
      rw [HZ.out]; exact conv_zeros ((row_zeros n w).alloc _)
    have v3 : (convert 28 9 (.slice (some ⟨w.heap.size + 1, 0, none⟩) m m)).run Tryd.prog ((w.alloc (.cells (zcells n) 5)).alloc (.cells (zcells m) 5)).drew = .ok (.string Y) ((w.alloc (.cells (zcells n) 5)).alloc (.cells (zcells m) 5)).drew := by
      rw [HY.out]; exact conv_zeros (row_zeros' m (w.alloc (.cells (zcells n) 5)) (w.heap.size + 1) (by simp))
    have v4 : (convert 28 9 (.slice (some ⟨w.heap.size, 0, none⟩) m m)).run Tryd.prog (w.alloc (.cells (zcells m) 5)).drew = .ok (.string Y) (w.alloc (.cells (zcells m) 5)).drew := by
      rw [HY.out]; exact conv_zeros (row_zeros m w)
    have v5 : (convert 28 9 (.slice (some ⟨w.heap.size, 0, none⟩) m m)).run Tryd.prog ((w.alloc (.cells (zcells m) 5)).alloc (.cells (zcells n) 5)).drew = .ok (.string Y) ((w.alloc (.cells (zcells m) 5)).alloc (.cells (zcells n) 5)).drew := by
      rw [HY.out]; exact conv_zeros ((row_zeros m w).alloc _)
    have v6 : (convert 28 9 (.slice (some ⟨w.heap.size + 1, 0, none⟩) n n)).run Tryd.prog ((w.alloc (.cells (zcells m) 5)).alloc (.cells (zcells n) 5)).drew = .ok (.string Z) ((w.alloc (.cells (zcells m) 5)).alloc (.cells (zcells n) 5)).drew := by
      rw [HZ.out]; exact conv_zeros (row_zeros' n (w.alloc (.cells (zcells m) 5)) (w.heap.size + 1) (by simp))
    have C1 : Hid (∀ w', Below w.heap.size w w' → _) := fun w' hb => seal_on K N Z Y S HS.out w w' hP hY hb ⟨hKs, hNs, by omega⟩
    rw [← hm] at e18
    have hml : m ≤ 40000 := by omega
    clear hP hY en hq hm hp
    go_enter Tryd.func7, Tryd.ntmps7
    go_wp2_with fail
    go_region_with (go_at_call 10; refine (C1.out _ ((below_new w _).alloc (by simp) _).drew).mono ?_; rintro e w1 ⟨rfl, hb1⟩)
    all_goals clear m1 m2 v1 v2 v3 v4 v5 v6 C1
    all_goals go_wp2_with fail
    all_goals refine (C3.out _ (by assumption)).mono ?_
    all_goals rintro e w3 ⟨rfl, hb3⟩
    all_goals go_wp2_with fail
    all_goals go_ret
    all_goals exact ⟨rfl, hb3⟩
  · have hand2 : bits .and .i64 more 1 = 1 := by rw [i64_and1a, hp]
    obtain ⟨m, hm⟩ : ∃ m : Nat, m = q + 1 := ⟨_, rfl⟩
    have e21 : (q : Int) + 1 = (m : Int) := by omega
    obtain ⟨Y, HY⟩ : ∃ Y, Hid (Y = zeroB m) := ⟨_, rfl⟩
    have hYs : Y.size = m := by rw [HY.out, zeroB_size]
    have m1 := fun w => make_zeros n (n : Int) rfl (by omega) w
    have m2 := fun w => make_zeros m (m : Int) rfl (by omega) w
    have v1 : (convert 28 9 (.slice (some ⟨w.heap.size, 0, none⟩) n n)).run Tryd.prog (w.alloc (.cells (zcells n) 5)).drew = .ok (.string Z) (w.alloc (.cells (zcells n) 5)).drew := by
      rw [HZ.out]; exact conv_zeros (row_zeros n w)
    have v2 : (convert 28 9 (.slice (some ⟨w.heap.size, 0, none⟩) n n)).run Tryd.prog ((w.alloc (.cells (zcells n) 5)).alloc (.cells (zcells m) 5)).drew = .ok (.string Z) ((w.alloc (.cells (zcells n) 5)).alloc (.cells (zcells m) 5)).drew := by
      rw [HZ.out]; exact conv_zeros ((row_zeros n w).alloc _)
    have v3 : (convert 28 9 (.slice (some ⟨w.heap.size + 1, 0, none⟩) m m)).run Tryd.prog ((w.alloc (.cells (zcells n) 5)).alloc (.cells (zcells m) 5)).drew = .ok (.string Y) ((w.alloc (.cells (zcells n) 5)).alloc (.cells (zcells m) 5)).drew := by
      rw [HY.out]; exact conv_zeros (row_zeros' m (w.alloc (.cells (zcells n) 5)) (w.heap.size + 1) (by simp))
    have v4 : (convert 28 9 (.slice (some ⟨w.heap.size, 0, none⟩) m m)).run Tryd.prog (w.alloc (.cells (zcells m) 5)).drew = .ok (.string Y) (w.alloc (.cells (zcells m) 5)).drew := by
      rw [HY.out]; exact conv_zeros (row_zeros m w)
    have v5 : (convert 28 9 (.slice (some ⟨w.heap.size, 0, none⟩) m m)).run Tryd.prog ((w.alloc (.cells (zcells m) 5)).alloc (.cells (zcells n) 5)).drew = .ok (.string Y) ((w.alloc (.cells (zcells m) 5)).alloc (.cells (zcells n) 5)).drew := by
      rw [HY.out]; exact conv_zeros ((row_zeros m w).alloc _)
    have v6 : (convert 28 9 (.slice (some ⟨w.heap.size + 1, 0, none⟩) n n)).run Tryd.prog ((w.alloc (.cells (zcells m) 5)).alloc (.cells (zcells n) 5)).drew = .ok (.string Z) ((w.alloc (.cells (zcells m) 5)).alloc (.cells (zcells n) 5)).drew := by
      rw [HZ.out]; exact conv_zeros (row_zeros' n (w.alloc (.cells (zcells m) 5)) (w.heap.size + 1) (by simp))
    have C1 : Hid (∀ w', Below w.heap.size w w' → _) := fun w' hb => seal_on_no K N Z Y w w' hb (by omega) (fun h => by have := h.2.2; omega)
    have hml : m ≤ 40000 := by omega
    have hql : q ≤ 40000 := by omega
    clear hP hY en hq hm hp
    go_enter Tryd.func7, Tryd.ntmps7
    go_wp2_with fail
    go_region_with (go_at_call 10; refine (C1.out _ ((below_new w _).alloc (by simp) _).drew).mono ?_; rintro e w1 ⟨rfl, hb1⟩)
    all_goals clear m1 m2 v1 v2 v3 v4 v5 v6 C1
    all_goals go_wp2_with fail
    all_goals refine (C3.out _ (by assumption)).mono ?_
    all_goals rintro e w3 ⟨rfl, hb3⟩
    all_goals go_wp2_with fail
    all_goals go_ret
    all_goals exact ⟨rfl, hb3⟩

set_option maxHeartbeats 1000000 in
theorem aeadMost_walk (keys : ByteArray) (share more : Int) (w : World) (hG : GlobP w ∧ GlobY w) :
    Calls Tryd.prog 7 #[.string keys, .int .i64 share, .int .i64 more] w fun e w' => e = .returned (.bool true) ∧ Below w.heap.size w w' := by
  by_cases hk : keys.size = 44
  · exact aeadMost_yes keys share more w hk hG.1 hG.2
  · have g0 : (((keys.size : Int) != 44)) = true := by rw [bne_iff_ne]; omega
    have C3 : Hid (∀ w', Below w.heap.size w w' → _) := fun w' hb => awake7_on w w' hG.1 hG.2 hb
    clear hG hk
    go_enter Tryd.func7, Tryd.ntmps7
    go_wp2_with fail
    refine (C3.out _ (Below.refl _ _)).mono ?_
    rintro e w4 ⟨rfl, hb4⟩
    go_wp2_with fail
    go_ret
    exact ⟨rfl, hb4⟩
end Go.Proofs.YtjjafkjjehphjaaDoor
