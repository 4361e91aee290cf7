/- The walk of AeadTag. -/
import Derived.Test.YtjjafkjjehphjaaDoorAeTag
import Derived.BigQuiet
namespace Go.Proofs.YtjjafkjjehphjaaDoor
open Go.RowKit
set_option linter.unusedSimpArgs false

theorem u8_xor_a (a b : Nat) (ha : a < 256) (hb : b < 256) : bits .xor .u8 (a : Int) (b : Int) = ((a ^^^ b : Nat) : Int) := by
  have h := xor_lt_a a b ha hb
  have e1 := bits_xor_byte (UInt8.ofNat a) (UInt8.ofNat b)
  rw [UInt8.toNat_xor] at e1
  simp only [UInt8.toNat_ofNat'] at e1
  rw [Nat.mod_eq_of_lt (by omega), Nat.mod_eq_of_lt (by omega)] at e1
  exact e1
theorem bit_u8 (j : Nat) (h : j < 8) : 2 ^ j < 256 ∧ 2 ^ j ≠ 0 ∧ IntKind.u8.wrap ((2 : Int) ^ j) = ((2 ^ j : Nat) : Int) :=
  (show ∀ j : Fin 8, 2 ^ j.1 < 256 ∧ 2 ^ j.1 ≠ 0 ∧ IntKind.u8.wrap ((2 : Int) ^ j.1) = ((2 ^ j.1 : Nat) : Int) by decide) ⟨j, h⟩
theorem i64_and7a (n : Int) : bits .and .i64 n 7 = n % 8 := i64_mask n 3 (by decide) 7 (by decide)

set_option maxRecDepth 100000 in
set_option maxHeartbeats 4000000 in
theorem aeadTag_yes (keys s : ByteArray) (x y : Int) (w : World) (hk : keys.size = 44) (hs : s.size ≤ 512) (hP : GlobP w) (hY : GlobY w) :
    Calls Tryd.prog 6 #[.string keys, .string s, .agg #[.int .i64 x, .int .i64 y]] w fun e w' => e = .returned (.bool true) ∧ Below w.heap.size w w' := by
  have HP : Hid (GlobP w) := hP
  have HY : Hid (GlobY w) := hY
  obtain ⟨Ky, hKy⟩ : ∃ K, keys.extract 0 32 = K := ⟨_, rfl⟩
  obtain ⟨N, hN⟩ : ∃ N, keys.extract 32 44 = N := ⟨_, rfl⟩
  have hKs : Ky.size = 32 := by rw [← hKy, ByteArray.size_extract, hk]; rfl
  have hNs : N.size = 12 := by rw [← hN, ByteArray.size_extract, hk]; rfl
  have g0 : (((keys.size : Int) != 44)) = false := by rw [bne_eq_false_iff_eq]; omega
  have g1 : decide ((512 : Int) < (s.size : Int)) = false := by simp; omega
  obtain ⟨i, hi, ei⟩ : ∃ i : Nat, i < 16 ∧ x % 16 = (i : Int) := ⟨(x % 16).toNat, by omega, by omega⟩
  have hand : bits .and .i64 x 15 = (i : Int) := by rw [i64_and15, ei]
  obtain ⟨i2, hi2, ei2⟩ : ∃ i : Nat, i < 16 ∧ y % 16 = (i : Int) := ⟨(y % 16).toNat, by omega, by omega⟩
  have hand2 : bits .and .i64 y 15 = (i2 : Int) := by rw [i64_and15, ei2]
  obtain ⟨j, hj, ej⟩ : ∃ j : Nat, j < 8 ∧ x / 16 % 8 = (j : Int) := ⟨(x / 16 % 8).toNat, by omega, by omega⟩
  have hand3 : bits .and .i64 (x / 16) 7 = (j : Int) := by rw [i64_and7a, ej]
  obtain ⟨c, hc, hc0, hshl⟩ : ∃ c : Nat, c < 256 ∧ c ≠ 0 ∧ IntKind.u8.wrap ((2 : Int) ^ j) = (c : Int) := ⟨_, bit_u8 j hj⟩
  have HC : Hid (c < 256) := hc
  obtain ⟨k, hkk⟩ : ∃ k : Nat, k = s.size + i := ⟨_, rfl⟩
  have kb : (k : Int) < (s.size : Int) + 16 := by omega
  have hksum : (s.size : Int) + (i : Int) = (k : Int) := by omega
  obtain ⟨S, HS⟩ : ∃ S, Hid (sealB Ky N ByteArray.empty s = S) := ⟨_, rfl⟩
  have hSs : S.size = s.size + 16 := by rw [← HS.out, sealB_size]
  have hS0 : (((S.size : Int) != (s.size : Int) + 16)) = false := by rw [bne_eq_false_iff_eq]; omega
  have C1 : Hid (∀ w0 w', GlobP w0 → GlobY w0 → Below w0.heap.size w0 w' → _) := fun w0 w' hP hY hb => seal_on Ky N ByteArray.empty s S HS.out w0 w' hP hY hb ⟨hKs, hNs, by show 0 + s.size ≤ _; omega⟩
  obtain ⟨B1, HB1⟩ : ∃ B : ByteArray, Hid (B = bentB S k c) := ⟨_, rfl⟩
  have hB1s : B1.size = s.size + 16 := by rw [HB1.out, bentB_size]; exact hSs
  have hno : ¬ OpensA Ky N ByteArray.empty B1 := by rw [HB1.out, ← HS.out, hkk]; exact opens_bent Ky N ByteArray.empty s i c hi hc hc0
  have C2 : Hid (∀ w0 w', GlobP w0 → GlobY w0 → Below w0.heap.size w0 w' → _) := fun w0 w' hP hY hb => open_on_bad Ky N ByteArray.empty B1 w0 w' hP hY hb ⟨hKs, hNs, by show 0 + (B1.size - 16) ≤ _; omega⟩ hno
  obtain ⟨T, hT⟩ : ∃ T, S.extract 0 i2 = T := ⟨_, rfl⟩
  have hTs : T.size = i2 := by rw [← hT, ByteArray.size_extract]; omega
  have C3 : Hid (∀ w0 w', GlobP w0 → GlobY w0 → Below w0.heap.size w0 w' → _) := fun w0 w' hP hY hb => open_on_bad Ky N ByteArray.empty T w0 w' hP hY hb ⟨hKs, hNs, by show 0 + (T.size - 16) ≤ _; omega⟩ (opens_less _ _ _ _ (by omega))
  have C4 : Hid (∀ w0 w', GlobP w0 → GlobY w0 → Below w0.heap.size w0 w' → _) := fun w0 w' hP hY hb => awake7_on w0 w' hP hY hb
  have t0 : (i2 : Int) ≤ (s.size : Int) + 16 := by omega
  have t1 : (0 : Int) ≤ (i2 : Int) := by omega
  clear hP hY ei ei2 ej hno hc hc0
  go_enter Tryd.func6, Tryd.ntmps6
  go_wp2_with fail
  generalize hq : World.alloc w _ = w0
  have hb0 : Below w.heap.size w w0 := by rw [← hq]; exact below_new w _
  have a0 : w0.cell? ⟨w.heap.size, 0, none⟩ = some (.int .i64 x) := by rw [← hq]; simp
  have a1 : w0.cell? ⟨w.heap.size, 1, none⟩ = some (.int .i64 y) := by rw [← hq]; simp
  have HP0 : Hid (GlobP w0) := HP.out.below hb0
  have HY0 : Hid (GlobY w0) := HY.out.below hb0
  clear hq HP HY
  go_region_with (go_at_call 10; refine (C1.out w0 _ HP0.out HY0.out (Below.refl _ _).drew).mono ?_; rintro e w1 ⟨rfl, hb1⟩)
  clear C1
  have a0' : w1.cell? ⟨w.heap.size, 0, none⟩ = some (.int .i64 x) := by rw [hb1.cell (World.block_lt_of_cell? w0 _ a0)]; exact a0
  have a1' : w1.cell? ⟨w.heap.size, 1, none⟩ = some (.int .i64 y) := by rw [hb1.cell (World.block_lt_of_cell? w0 _ a1)]; exact a1
  obtain ⟨cp, w2, hcv, hcp, R2, hb2⟩ := bytes_new (P := Tryd.prog) w1 9 28 5 S Tryd.underlying9 Tryd.underlying28 Tryd.underlying5
  rw [hSs] at hcv hcp R2
  have hB2 := below_step hb1 (Nat.le_refl _) hb2
  have b0 : w2.cell? ⟨w.heap.size, 0, none⟩ = some (.int .i64 x) := by rw [hB2.cell (World.block_lt_of_cell? w0 _ a0)]; exact a0
  have b1 : w2.cell? ⟨w.heap.size, 1, none⟩ = some (.int .i64 y) := by rw [hB2.cell (World.block_lt_of_cell? w0 _ a1)]; exact a1
  obtain ⟨g, hg⟩ : ∃ g, g = w1.heap.size := ⟨_, rfl⟩
  have hgB : w0.heap.size ≤ g := by rw [hg]; exact hb1.size
  rw [← hg] at hcv R2
  have c2 := R2.cell k (by omega)
  have f2 := R2.free k (by omega)
  obtain ⟨X, hX⟩ : ∃ X, X = bt S k := ⟨_, rfl⟩
  have hxr : bits .xor .u8 (X : Int) (c : Int) = ((X ^^^ c : Nat) : Int) := u8_xor_a X c (by rw [hX]; exact bt_lt S k) HC.out
  have R3 : Row8 (w2.drew.setCell ⟨g, k, none⟩ (.int .u8 ((X ^^^ c : Nat) : Int))) g (s.size + 16) (bentA S k (bt S k ^^^ c)) := by rw [hX]; exact Row8.set (w := w2.drew) R2 k (bt S k ^^^ c)
  have hB3 : Below w0.heap.size w0 (w2.drew.setCell ⟨g, k, none⟩ (.int .u8 ((X ^^^ c : Nat) : Int))) := hB2.drew.setCell hgB _
  have b3 : (w2.drew.setCell ⟨g, k, none⟩ (.int .u8 ((X ^^^ c : Nat) : Int))).cell? ⟨w.heap.size, 0, none⟩ = some (.int .i64 x) := by rw [hB3.cell (World.block_lt_of_cell? w0 _ a0)]; exact a0
  obtain ⟨w3, hw3⟩ : ∃ v, Hid (v = (w2.setCell ⟨g, k, none⟩ (.int .u8 ((X ^^^ c : Nat) : Int))).drew) := ⟨_, rfl⟩
  have R3 : Row8 w3 g (s.size + 16) (bentA S k (bt S k ^^^ c)) := by rw [hw3.out]; exact R3
  have hB3 : Below w0.heap.size w0 w3 := by rw [hw3.out]; exact hB3
  have k1 := Row8.conv (P := Tryd.prog) (w := w3.drew) R3 (bentA_lt S k c HC.out) (s.size + 16) cp (Nat.le_refl _) 28 9 Tryd.underlying28 Tryd.underlying5 Tryd.underlying9
  rw [show (⟨(bytesOf (s.size + 16) (bentA S k (bt S k ^^^ c))).toArray⟩ : ByteArray) = B1 by rw [HB1.out, ← hSs]; rfl] at k1
  rw [← hX] at c2
  clear hg hb1 hb2 a0' a1' hkk R2 R3 hX hB2
  go_wp2_with fail
  refine wp_region_noPanic ?_
  refine wp_region_held_drew (S := fun w' => w'.cell? ⟨w.heap.size, 0, none⟩ = some (.int .i64 x)) (by kernel_rfl) (by first | exact trivial | assumption | exact ⟨by assumption, by assumption⟩) (fun hHeld => ?_)
  refine take_at (i := 0) (v := ?_) rfl rfl (by kernel_rfl) (by kernel_rfl) (by kernel_rfl) (fun _ _ _ h => h) (Or.inl ⟨by rfl, ?_⟩) (by assumption) ?_
  rotate_left
  · intro w hSw; (try dsimp only at hSw); go_simp; try with_reducible rfl
  try simp only [Act.put, List.setIfInBounds_toArray, List.set_cons_zero, List.set_cons_succ]
  refine take_at (i := 1) (v := ?_) rfl rfl (by kernel_rfl) (by kernel_rfl) (by kernel_rfl) (fun _ _ _ h => h) (Or.inl ⟨by rfl, ?_⟩) (by assumption) ?_
  rotate_left
  · intro w hSw; (try dsimp only at hSw); go_simp; try with_reducible rfl
  try simp only [Act.put, List.setIfInBounds_toArray, List.set_cons_zero, List.set_cons_succ]
  refine take_at (i := 2) (v := ?_) rfl rfl (by kernel_rfl) (by kernel_rfl) (by kernel_rfl) (fun _ _ _ h => h) (Or.inl ⟨by rfl, ?_⟩) (by assumption) ?_
  rotate_left
  · intro w hSw; (try dsimp only at hSw); go_simp; try with_reducible rfl
  try simp only [Act.put, List.setIfInBounds_toArray, List.set_cons_zero, List.set_cons_succ]
  refine take_at (i := 3) (v := ?_) rfl rfl (by kernel_rfl) (by kernel_rfl) (by kernel_rfl) (fun _ _ _ h => h) (Or.inl ⟨by rfl, ?_⟩) (by assumption) ?_
  rotate_left
  · intro w hSw; (try dsimp only at hSw); go_simp; try with_reducible rfl
  try simp only [Act.put, List.setIfInBounds_toArray, List.set_cons_zero, List.set_cons_succ]
  refine take_at (i := 4) (v := ?_) rfl rfl (by kernel_rfl) (by kernel_rfl) (by kernel_rfl) (fun _ _ _ h => h) (Or.inl ⟨by rfl, ?_⟩) (by assumption) ?_
  rotate_left
  · intro w hSw; (try dsimp only at hSw); go_simp; try with_reducible rfl
  try simp only [Act.put, List.setIfInBounds_toArray, List.set_cons_zero, List.set_cons_succ]
  refine take_at (i := 6) (v := ?_) rfl rfl (by kernel_rfl) (by kernel_rfl) (by kernel_rfl) (fun _ _ _ h => h) (Or.inl ⟨by rfl, ?_⟩) (by assumption) ?_
  rotate_left
  · intro w hSw; (try dsimp only at hSw); go_simp; try with_reducible rfl
  try simp only [Act.put, List.setIfInBounds_toArray, List.set_cons_zero, List.set_cons_succ]
  refine take_at (i := 7) (v := ?_) rfl rfl (by kernel_rfl) (by kernel_rfl) (by kernel_rfl) (fun _ _ _ h => h) (Or.inl ⟨by rfl, ?_⟩) (by assumption) ?_
  rotate_left
  · intro w hSw; (try dsimp only at hSw); go_simp; try with_reducible rfl
  try simp only [Act.put, List.setIfInBounds_toArray, List.set_cons_zero, List.set_cons_succ]
  refine take_at (i := 8) (v := ?_) rfl rfl (by kernel_rfl) (by kernel_rfl) (by kernel_rfl) (fun _ _ _ h => h) (Or.inl ⟨by rfl, ?_⟩) (by assumption) ?_
  rotate_left
  · intro w hSw; (try dsimp only at hSw); go_simp; try with_reducible rfl
  try simp only [Act.put, List.setIfInBounds_toArray, List.set_cons_zero, List.set_cons_succ]
  refine take_at (i := 9) (v := ?_) rfl rfl (by kernel_rfl) (by kernel_rfl) (by kernel_rfl) (fun _ _ _ h => h) (Or.inl ⟨by rfl, ?_⟩) (by assumption) ?_
  rotate_left
  · intro w hSw; (try dsimp only at hSw); go_simp; try with_reducible rfl
  try simp only [Act.put, List.setIfInBounds_toArray, List.set_cons_zero, List.set_cons_succ]
  refine take_at (i := 10) (v := ?_) rfl rfl (by kernel_rfl) (by kernel_rfl) (by kernel_rfl) (fun _ _ _ h => h) (Or.inl ⟨by rfl, ?_⟩) (by assumption) ?_
  rotate_left
  · intro w hSw; (try dsimp only at hSw); go_simp; try with_reducible rfl
  try simp only [Act.put, List.setIfInBounds_toArray, List.set_cons_zero, List.set_cons_succ]
  refine wpAnyH_ready (rs := [5]) (by kernel_rfl) (by simp) ?_
  refine AllReadyH.cons rfl (fun K hK => ?_) AllReadyH.nil
  go_simp
  refine hK.out _ _ (by assumption) (fun hHeld => ?_)
  clear hK K
  refine take_at (i := 11) (v := ?_) rfl rfl (by kernel_rfl) (by kernel_rfl) (by kernel_rfl) (fun _ _ _ h => h) (Or.inl ⟨by rfl, ?_⟩) (by assumption) ?_
  rotate_left
  · intro w hSw; (try dsimp only at hSw); go_simp; try with_reducible rfl
  try simp only [Act.put, List.setIfInBounds_toArray, List.set_cons_zero, List.set_cons_succ]
  refine take_at (i := 12) (v := ?_) rfl rfl (by kernel_rfl) (by kernel_rfl) (by kernel_rfl) (fun _ _ _ h => h) (Or.inl ⟨by rfl, ?_⟩) (by assumption) ?_
  rotate_left
  · intro w hSw; (try dsimp only at hSw); go_simp; try with_reducible rfl
  try simp only [Act.put, List.setIfInBounds_toArray, List.set_cons_zero, List.set_cons_succ]
  refine wpAnyH_ready (rs := [13]) (by kernel_rfl) (by simp) ?_
  refine AllReadyH.cons rfl (fun K hK => ?_) AllReadyH.nil
  go_simp
  refine hK.out _ _ b3 (fun hHeld => ?_)
  clear hK K
  refine wpAnyH_done (by kernel_rfl) (NoPanic.normal ?_) _
  rw [← hw3.out]
  clear hw3 c2 f2 b0 b1 b3 hcv
  go_wp2_with fail
  go_region_with (go_at_call 12; refine (C2.out w0 _ HP0.out HY0.out hB3.drew).mono ?_; rintro e w4 ⟨rfl, hb4⟩)
  clear C2 k1 hB3
  have b4 : w4.cell? ⟨w.heap.size, 1, none⟩ = some (.int .i64 y) := by rw [hb4.cell (World.block_lt_of_cell? w0 _ a1)]; exact a1
  go_wp2_with fail
  go_region_with (go_at_call 12; refine (C3.out w0 _ HP0.out HY0.out hb4.drew).mono ?_; rintro e w5 ⟨rfl, hb5⟩)
  clear C3
  go_wp2_with fail
  refine (C4.out w0 _ HP0.out HY0.out hb5).mono ?_
  rintro e w6 ⟨rfl, hb6⟩
  have hB6 := below_step hb0 (Nat.le_refl _) hb6
  clear hb6 hb5 hb4 C4
  go_wp2_with fail
  go_ret
  exact ⟨rfl, hB6⟩

set_option maxHeartbeats 1000000 in
theorem aeadTag_walk (keys s : ByteArray) (x y : Int) (w : World) (hG : GlobP w ∧ GlobY w) :
    Calls Tryd.prog 6 #[.string keys, .string s, .agg #[.int .i64 x, .int .i64 y]] w fun e w' => e = .returned (.bool true) ∧ Below w.heap.size w w' := by
  have C : Hid (∀ w', Below w.heap.size w w' → _) := fun w' hb => awake7_on w w' hG.1 hG.2 hb
  by_cases hk : keys.size = 44
  · by_cases h : s.size ≤ 512
    · exact aeadTag_yes keys s x y w hk h hG.1 hG.2
    · have g0 : (((keys.size : Int) != 44)) = false := by rw [bne_eq_false_iff_eq]; omega
      have g1 : decide ((512 : Int) < (s.size : Int)) = true := by simp; omega
      clear hG h
      go_enter Tryd.func6, Tryd.ntmps6
      go_wp2_with fail
      refine (C.out _ (below_new w _)).mono ?_
      rintro e w1 ⟨rfl, hb1⟩
      go_wp2_with fail
      go_ret
      exact ⟨rfl, hb1⟩
  · have g0 : (((keys.size : Int) != 44)) = true := by rw [bne_iff_ne]; omega
    clear hG hk
    go_enter Tryd.func6, Tryd.ntmps6
    go_wp2_with fail
    refine (C.out _ (below_new w _)).mono ?_
    rintro e w1 ⟨rfl, hb1⟩
    go_wp2_with fail
    go_ret
    exact ⟨rfl, hb1⟩
end Go.Proofs.YtjjafkjjehphjaaDoor
