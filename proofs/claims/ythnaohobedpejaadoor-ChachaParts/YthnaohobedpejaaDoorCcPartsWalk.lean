import Derived.Test.YthnaohobedpejaaDoorCcAwake
namespace Go.Proofs.YthnaohobedpejaaDoor
open Go.RowKit
set_option linter.unusedSimpArgs false

theorem cblock_on (key nonce : ByteArray) (c : Nat) (B : ByteArray) (hB : blockB key nonce c = B) (w w' : World) (hP : GlobP w) (hb : Below w.heap.size w w') (hk : key.size = 32) (hn : nonce.size = 12) (hc : c < 4294967296) :
    Calls Tryd.prog 9 #[.string key, .string nonce, .int .i64 (c : Int)] w' fun e w'' => e = .returned (.tuple #[.string B, .int .i64 0]) ∧ Below w.heap.size w w'' := by
  subst hB
  refine (cblock_yes key nonce c w' ⟨hk, hn, by omega, by omega⟩ (hP.below hb)).mono ?_
  rintro e w'' ⟨rfl, hb2⟩
  exact ⟨rfl, below_step hb (Nat.le_refl _) hb2⟩

set_option maxRecDepth 100000 in
set_option maxHeartbeats 4000000 in
theorem chachaParts_yes (keys s : ByteArray) (x y : Int) (w : World) (hk : keys.size = 44) (hs : s.size ≤ 512) (hP : GlobP w) :
    Calls Tryd.prog 6 #[.string keys, .string s, .agg #[.int .i64 x, .int .i64 y]] w fun e w' => e = .returned (.bool true) ∧ Below w.heap.size w w' := by
  obtain ⟨a, ha, ea⟩ : ∃ a : Nat, a < 65536 ∧ x % 65536 = (a : Int) := ⟨(x % 65536).toNat, by omega, by omega⟩
  have hand : bits .and .i64 x 65535 = (a : Int) := by rw [i64_and16, ea]
  obtain ⟨b, hb, eb⟩ : ∃ b : Nat, b < 256 ∧ y % 256 = (b : Int) := ⟨(y % 256).toNat, by omega, by omega⟩
  have hand2 : bits .and .i64 y 255 = (b : Int) := by rw [i64_and255, eb]
  obtain ⟨m, Hm⟩ : ∃ m, Hid (m = s.size / 64) := ⟨_, rfl⟩
  have hm8 : m ≤ 8 := by rw [Hm.out]; omega
  have hq : (s.size : Int) / 64 = (m : Int) := by rw [Hm.out]; omega
  obtain ⟨k, Hk⟩ : ∃ k, Hid (k = b % (m + 1)) := ⟨_, rfl⟩
  have hkm : k ≤ m := by rw [Hk.out]; have := Nat.mod_lt b (show 0 < m + 1 by omega); omega
  have hrem : Int.tmod (b : Int) ((m : Int) + 1) = (k : Int) := by
    rw [show (m : Int) + 1 = ((m + 1 : Nat) : Int) by omega, Hk.out, ← Int.ofNat_tmod]
  have h64 : 64 * k ≤ s.size := by have := Hm.out; omega
  obtain ⟨K, hK⟩ : ∃ K, keys.extract 0 32 = K := ⟨_, rfl⟩
  obtain ⟨N, hN⟩ : ∃ N, keys.extract 32 44 = N := ⟨_, rfl⟩
  have hKs : K.size = 32 := by rw [← hK, ByteArray.size_extract, hk]; rfl
  have hNs : N.size = 12 := by rw [← hN, ByteArray.size_extract, hk]; rfl
  obtain ⟨s1, h1⟩ : ∃ s1, s.extract 0 (64 * k) = s1 := ⟨_, rfl⟩
  obtain ⟨s2, h2⟩ : ∃ s2, s.extract (64 * k) s.size = s2 := ⟨_, rfl⟩
  have h1s : s1.size = 64 * k := by rw [← h1, ByteArray.size_extract]; omega
  have h2s : s2.size = s.size - 64 * k := by rw [← h2, ByteArray.size_extract]; omega
  obtain ⟨S, HS⟩ : ∃ S, Hid (streamB K N a s = S) := ⟨_, rfl⟩
  obtain ⟨S1, HS1⟩ : ∃ S, Hid (streamB K N a s1 = S) := ⟨_, rfl⟩
  obtain ⟨S2, HS2⟩ : ∃ S, Hid (streamB K N (a + k) s2 = S) := ⟨_, rfl⟩
  have hSS : S1 ++ S2 = S := by rw [← HS1.out, ← HS2.out, ← HS.out, ← h1, ← h2, streamB_parts _ _ _ _ _ h64]
  have hS1s : S1.size = s1.size := by rw [← HS1.out, streamB_size]
  have hS2s : S2.size = s2.size := by rw [← HS2.out, streamB_size]
  have hsum : ¬ (9223372036854775807 < S1.size + S2.size) := by omega
  obtain ⟨Z, HZ⟩ : ∃ Z, Hid (Z = zeroB 64) := ⟨_, rfl⟩
  have hZs : Z.size = 64 := by rw [HZ.out, zeroB_size]
  obtain ⟨B, HB⟩ : ∃ B, Hid (blockB K N a = B) := ⟨_, rfl⟩
  have hZB : streamB K N a Z = B := by rw [HZ.out, streamB_noughts, HB.out]
  have C1 : Hid (∀ w', Below w.heap.size w w' → _) := fun w' hb => stream_on K N a s S HS.out w w' hP hb hKs hNs (by omega) (by omega) (by omega)
  have C2 : Hid (∀ w', Below w.heap.size w w' → _) := fun w' hb => stream_on K N a s1 S1 HS1.out w w' hP hb hKs hNs (by omega) (by omega) (by omega)
  have C3' := fun w' hb => stream_on K N (a + k) s2 S2 HS2.out w w' hP hb hKs hNs (by omega) (by omega) (by omega)
  rw [Int.natCast_add] at C3'
  have C3 : Hid (∀ w', Below w.heap.size w w' → _) := C3'
  have C4 : Hid (∀ w', Below w.heap.size w w' → _) := fun w' hb => stream_on K N a Z B hZB w w' hP hb hKs hNs (by omega) (by omega) (by omega)
  have C5 : Hid (∀ w', Below w.heap.size w w' → _) := fun w' hb => cblock_on K N a B HB.out w w' hP hb hKs hNs (by omega)
  have C6 : Hid (∀ w', Below w.heap.size w w' → _) := fun w' hb => awake_on w w' hP hb
  have g0 : (((keys.size : Int) != 44)) = false := by rw [bne_eq_false_iff_eq]; omega
  have g1 : decide ((512 : Int) < (s.size : Int)) = false := by simp; omega
  have t1 : (64 * (k : Int)).toNat = 64 * k := by omega
  have t2 : (64 * (k : Int)) ≤ (s.size : Int) := by omega
  have t3 : (0 : Int) ≤ 64 * (k : Int) := by omega
  have t4 : IntKind.i64.wrap (64 * (k : Int)) = 64 * (k : Int) := by rw [IntKind.wrap_i64]; omega
  have t5 : IntKind.i64.wrap ((a : Int) + (k : Int)) = (a : Int) + (k : Int) := by rw [IntKind.wrap_i64]; omega
  have mk := fun w => make_zeros 64 64 rfl (by decide) w
  have cv : ∀ w : World, (convert 30 9 (.slice (some ⟨w.heap.size, 0, none⟩) 64 64)).run Tryd.prog (w.alloc (.cells (zcells 64) 5)).drew = .ok (.string Z) (w.alloc (.cells (zcells 64) 5)).drew := by
    intro w; rw [HZ.out]; exact conv_zeros (row_zeros 64 w)
  clear hP ea eb C3' hZB
  go_enter Tryd.func6, Tryd.ntmps6
  go_wp2_with fail
  go_region_with (go_at_call 11; refine (C1.out _ (below_new w _).drew).mono ?_; rintro e w1 ⟨rfl, hb1⟩)
  clear C1
  go_wp2_with fail
  go_region_with (go_at_call 11; refine (C2.out _ hb1.drew).mono ?_; rintro e w2 ⟨rfl, hb2⟩)
  clear C2
  go_wp2_with fail
  go_region_with (go_at_call 11; refine (C3.out _ hb2.drew).mono ?_; rintro e w3 ⟨rfl, hb3⟩)
  clear C3
  go_wp2_with fail
  go_region_with (go_at_call 11; refine (C4.out _ (hb3.alloc hb3.size _).drew).mono ?_; rintro e w4 ⟨rfl, hb4⟩)
  clear C4 mk cv
  go_wp2_with fail
  go_region_with (go_at_call 9; refine (C5.out _ hb4.drew).mono ?_; rintro e w5 ⟨rfl, hb5⟩)
  clear C5
  go_wp2_with fail
  refine (C6.out _ hb5).mono ?_
  rintro e w6 ⟨rfl, hb6⟩
  go_wp2_with fail
  go_ret
  exact ⟨rfl, hb6⟩

set_option maxHeartbeats 1000000 in
theorem chachaParts_no (keys s : ByteArray) (x y : Int) (w : World) (h : ¬ (keys.size = 44 ∧ s.size ≤ 512)) (hP : GlobP w) :
    Calls Tryd.prog 6 #[.string keys, .string s, .agg #[.int .i64 x, .int .i64 y]] w fun e w' => e = .returned (.bool true) ∧ Below w.heap.size w w' := by
  have C : Hid (∀ w', Below w.heap.size w w' → _) := fun w' hb => awake_on w w' hP hb
  by_cases h1 : keys.size = 44
  · have g0 : (((keys.size : Int) != 44)) = false := by rw [bne_eq_false_iff_eq]; omega
    have g1 : decide ((512 : Int) < (s.size : Int)) = true := by simp; omega
    clear h h1 hP
    go_enter Tryd.func6, Tryd.ntmps6
    go_wp2_with fail
    refine (C.out _ (below_new w _)).mono ?_
    rintro e w1 ⟨rfl, hb1⟩
    go_wp2_with fail
    go_ret
    exact ⟨rfl, hb1⟩
  · have g0 : (((keys.size : Int) != 44)) = true := by rw [bne_iff_ne]; omega
    clear h h1 hP
    go_enter Tryd.func6, Tryd.ntmps6
    go_wp2_with fail
    refine (C.out _ (below_new w _)).mono ?_
    rintro e w1 ⟨rfl, hb1⟩
    go_wp2_with fail
    go_ret
    exact ⟨rfl, hb1⟩

theorem chachaParts_walk (keys s : ByteArray) (x y : Int) (w : World) (hP : GlobP w) :
    Calls Tryd.prog 6 #[.string keys, .string s, .agg #[.int .i64 x, .int .i64 y]] w fun e w' => e = .returned (.bool true) ∧ Below w.heap.size w w' := by
  by_cases h : keys.size = 44 ∧ s.size ≤ 512
  · exact chachaParts_yes keys s x y w h.1 h.2 hP
  · exact chachaParts_no keys s x y w h hP
end Go.Proofs.YthnaohobedpejaaDoor
