import Derived.Test.YthnaohobedpejaaDoorCcAwake
import Derived.Test.YthnaohobedpejaaDoorR5
namespace Go.Proofs.YthnaohobedpejaaDoor
open Go.RowKit
set_option linter.unusedSimpArgs false

theorem i64_and7 (n : Int) : bits .and .i64 n 7 = n % 8 := i64_mask n 3 (by decide) 7 (by decide)

set_option maxRecDepth 100000 in
set_option maxHeartbeats 4000000 in
theorem chachaLast_yes (keys : ByteArray) (many ahead : Int) (w : World) (hk : keys.size = 44) (hP : GlobP w) :
    Calls Tryd.prog 7 #[.string keys, .int .i64 many, .int .i64 ahead] w fun e w' => e = .returned (.bool true) ∧ Below w.heap.size w w' := by
  obtain ⟨n, hn, en⟩ : ∃ n : Nat, n < 256 ∧ many % 256 = (n : Int) := ⟨(many % 256).toNat, by omega, by omega⟩
  have hand : bits .and .i64 many 255 = (n : Int) := by rw [i64_and255, en]
  obtain ⟨k, hk8, ek⟩ : ∃ k : Nat, k < 8 ∧ ahead % 8 = (k : Int) := ⟨(ahead % 8).toNat, by omega, by omega⟩
  have hand2 : bits .and .i64 ahead 7 = (k : Int) := by rw [i64_and7, ek]
  obtain ⟨c, Hc⟩ : ∃ c, Hid (c = 4294967295 - k) := ⟨_, rfl⟩
  have hsub : IntKind.i64.wrap (4294967295 - (k : Int)) = (c : Int) := by rw [IntKind.wrap_i64]; have := Hc.out; omega
  obtain ⟨K, hK⟩ : ∃ K, keys.extract 0 32 = K := ⟨_, rfl⟩
  obtain ⟨N, hN⟩ : ∃ N, keys.extract 32 44 = N := ⟨_, rfl⟩
  have hKs : K.size = 32 := by rw [← hK, ByteArray.size_extract, hk]; rfl
  have hNs : N.size = 12 := by rw [← hN, ByteArray.size_extract, hk]; rfl
  obtain ⟨Z, HZ⟩ : ∃ Z, Hid (Z = zeroB n) := ⟨_, rfl⟩
  have hZs : Z.size = n := by rw [HZ.out, zeroB_size]
  have mk := fun w => make_zeros n (n : Int) rfl (by omega) w
  have cv : ∀ w : World, (convert 30 9 (.slice (some ⟨w.heap.size, 0, none⟩) n n)).run Tryd.prog (w.alloc (.cells (zcells n) 5)).drew = .ok (.string Z) (w.alloc (.cells (zcells n) 5)).drew := by
    intro w; rw [HZ.out]; exact conv_zeros (row_zeros n w)
  have g0 : (((keys.size : Int) != 44)) = false := by rw [bne_eq_false_iff_eq]; omega
  have C3 : Hid (∀ w', Below w.heap.size w w' → _) := fun w' hb => awake_on w w' hP hb
  have hfit : Fits K N (c : Int) := ⟨hKs, hNs, by omega, by have := Hc.out; omega⟩
  by_cases h : n ≤ 64 * (k + 1)
  · have g1 : decide ((64 : Int) * ((k : Int) + 1) < (n : Int)) = false := by simp; omega
    obtain ⟨S, HS⟩ : ∃ S, Hid (streamB K N c Z = S) := ⟨_, rfl⟩
    have C1 : Hid (∀ w', Below w.heap.size w w' → Calls Tryd.prog 11 #[.string K, .string N, .int .i64 (c : Int), .string Z] w' fun e w'' => e = .returned (.tuple #[.string S, .int .i64 0]) ∧ Below w.heap.size w w'') := by
      intro w' hb
      rw [← HS.out]
      refine (stream_yes K N c Z w' hfit (by omega) (by have := Hc.out; omega) (hP.below hb)).mono ?_
      rintro e w'' ⟨rfl, hb2⟩
      exact ⟨rfl, below_step hb (Nat.le_refl _) hb2⟩
    have C2 : Hid (∀ w', Below w.heap.size w w' → Calls Tryd.prog 12 #[.string K, .string N, .int .i64 (c : Int), .string Z] w' fun e w'' => e = .returned (.tuple #[.string S, .int .i64 0]) ∧ Below w.heap.size w w'') := by
      intro w' hb
      rw [← HS.out]
      refine (rstream_yes K N c Z w' hfit (by omega) (by have := Hc.out; omega)).mono ?_
      rintro e w'' ⟨rfl, hb2⟩
      exact ⟨rfl, below_step hb (Nat.le_refl _) hb2⟩
    have C4 : Hid (∀ w, Calls Tryd.prog 13 #[.int .i64 (-1)] w fun e w' => e = .returned (.int .i64 4294967295) ∧ w' = w) := fun w => word_any (-1) w
    clear hP hfit en ek
    go_enter Tryd.func7, Tryd.ntmps7
    go_wp2_with fail
    go_region_with (go_at_call 11; refine (C1.out _ (below_new w _).drew).mono ?_; rintro e w1 ⟨rfl, hb1⟩)
    clear C1
    go_wp2_with fail
    go_region_with (go_at_call 12; refine (C2.out _ (hb1.alloc hb1.size _).drew).mono ?_; rintro e w2 ⟨rfl, hb2⟩)
    clear C2 mk cv
    go_wp2_with fail
    refine (C4.out _).mono ?_
    rintro e w3 ⟨rfl, rfl⟩
    go_wp2_with fail
    refine (C3.out _ hb2).mono ?_
    rintro e w4 ⟨rfl, hb4⟩
    go_wp2_with fail
    go_ret
    exact ⟨rfl, hb4⟩
  · have g1 : decide ((64 : Int) * ((k : Int) + 1) < (n : Int)) = true := by simp; omega
    have C1 : Hid (∀ w', Below w.heap.size w w' → Calls Tryd.prog 11 #[.string K, .string N, .int .i64 (c : Int), .string Z] w' fun e w'' => e = .returned (.tuple #[.string ⟨#[]⟩, .int .i64 1]) ∧ Below w.heap.size w w'') := by
      intro w' hb
      refine (stream_no K N (c : Int) Z w' (fun h2 => ?_)).mono ?_
      · have := h2.2.2
        have := Hc.out
        omega
      rintro e w'' ⟨rfl, hb2⟩
      exact ⟨rfl, below_step hb (Nat.le_refl _) hb2⟩
    clear hP hfit en ek
    go_enter Tryd.func7, Tryd.ntmps7
    go_wp2_with fail
    go_region_with (go_at_call 11; refine (C1.out _ (below_new w _).drew).mono ?_; rintro e w1 ⟨rfl, hb1⟩)
    clear C1 mk cv
    go_wp2_with fail
    refine (C3.out _ hb1).mono ?_
    rintro e w4 ⟨rfl, hb4⟩
    go_wp2_with fail
    go_ret
    exact ⟨rfl, hb4⟩

set_option maxHeartbeats 1000000 in
theorem chachaLast_walk (keys : ByteArray) (many ahead : Int) (w : World) (hP : GlobP w) :
    Calls Tryd.prog 7 #[.string keys, .int .i64 many, .int .i64 ahead] w fun e w' => e = .returned (.bool true) ∧ Below w.heap.size w w' := by
  by_cases hk : keys.size = 44
  · exact chachaLast_yes keys many ahead w hk hP
  · have g0 : (((keys.size : Int) != 44)) = true := by rw [bne_iff_ne]; omega
    have C3 : Hid (∀ w', Below w.heap.size w w' → _) := fun w' hb => awake_on w w' hP hb
    clear hP hk
    go_enter Tryd.func7, Tryd.ntmps7
    go_wp2_with fail
    refine (C3.out _ (Below.refl _ _)).mono ?_
    rintro e w4 ⟨rfl, hb4⟩
    go_wp2_with fail
    go_ret
    exact ⟨rfl, hb4⟩
end Go.Proofs.YthnaohobedpejaaDoor
