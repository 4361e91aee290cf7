import Derived.Test.YthnaohobedpejaaDoorCcAwake
import Derived.Test.YthnaohobedpejaaDoorR5
namespace Go.Proofs.YthnaohobedpejaaDoor
open Go.RowKit
set_option linter.unusedSimpArgs false

/-- Both streams are one, or neither is. -/
theorem streams_both (key nonce : ByteArray) (c : Int) (s : ByteArray) (w : World) (hP : GlobP w) : ∃ (B : ByteArray) (n : Int),
    (∀ w', Below w.heap.size w w' → Calls Tryd.prog 11 #[.string key, .string nonce, .int .i64 c, .string s] w' fun e w'' => e = .returned (.tuple #[.string B, .int .i64 n]) ∧ Below w.heap.size w w'') ∧
    (∀ w', Below w.heap.size w w' → Calls Tryd.prog 12 #[.string key, .string nonce, .int .i64 c, .string s] w' fun e w'' => e = .returned (.tuple #[.string B, .int .i64 n]) ∧ Below w.heap.size w w'') := by
  by_cases h : Fits key nonce c ∧ s.size ≤ 65536 ∧ (s.size : Int) ≤ (4294967296 - c) * 64
  · obtain ⟨h, h1, h2⟩ := h
    obtain ⟨C, rfl⟩ := Int.eq_ofNat_of_zero_le h.2.2.1
    have hC := h.2.2.2
    refine ⟨streamB key nonce C s, 0, fun w' hb => ?_, fun w' hb => ?_⟩
    · refine (stream_yes key nonce C s w' h h1 (by omega) (hP.below hb)).mono ?_
      rintro e w'' ⟨rfl, hb2⟩
      exact ⟨rfl, below_step hb (Nat.le_refl _) hb2⟩
    · refine (rstream_yes key nonce C s w' h h1 (by omega)).mono ?_
      rintro e w'' ⟨rfl, hb2⟩
      exact ⟨rfl, below_step hb (Nat.le_refl _) hb2⟩
  · refine ⟨⟨#[]⟩, 1, fun w' hb => ?_, fun w' hb => ?_⟩
    · refine (stream_no key nonce c s w' h).mono ?_
      rintro e w'' ⟨rfl, hb2⟩
      exact ⟨rfl, below_step hb (Nat.le_refl _) hb2⟩
    · refine (rstream_no key nonce c s w' h).mono ?_
      rintro e w'' ⟨rfl, hb2⟩
      exact ⟨rfl, below_step hb (Nat.le_refl _) hb2⟩

set_option maxHeartbeats 4000000 in
theorem chachaStreams_short (keys : ByteArray) (c : Int) (s : ByteArray) (w : World) (hk : keys.size < 32) (hl : s.size ≤ 512 ∨ 65536 < s.size) (hP : GlobP w) :
    Calls Tryd.prog 4 #[.string keys, .int .i64 c, .string s] w fun e w' => e = .returned (.bool true) ∧ Below w.heap.size w w' := by
  have C3 : Hid (∀ w', Below w.heap.size w w' → _) := fun w' hb => awake_on w w' hP hb
  have g1 : decide ((128 : Int) < (keys.size : Int)) = false := by simp; omega
  obtain ⟨K, hK⟩ : ∃ K, keys.extract 0 keys.size = K := ⟨_, rfl⟩
  obtain ⟨B, n, D1, D2⟩ := streams_both K ByteArray.empty c s w hP
  have C1 : Hid (∀ w', Below w.heap.size w w' → _) := D1
  have C2 : Hid (∀ w', Below w.heap.size w w' → _) := D2
  have hk' : (keys.size : Int) < 32 := by omega
  clear D1 D2 hP
  rcases hl with hl | hl
  · have g2 : decide ((512 : Int) < (s.size : Int)) = false := by simp; omega
    clear hl
    go_enter Tryd.func4, Tryd.ntmps4
    go_wp2_with fail
    go_region_with (go_at_call 11; refine (C1.out _ (Below.refl _ _).drew).mono ?_; rintro e w1 ⟨rfl, hb1⟩)
    go_wp2_with fail
    go_region_with (go_at_call 12; refine (C2.out _ hb1.drew).mono ?_; rintro e w2 ⟨rfl, hb2⟩)
    go_wp2_with fail
    refine (C3.out _ hb2).mono ?_
    rintro e w3 ⟨rfl, hb3⟩
    go_wp2_with fail
    go_ret
    exact ⟨rfl, hb3⟩
  · have g2 : decide ((512 : Int) < (s.size : Int)) = true := by simp; omega
    have g3 : decide ((s.size : Int) ≤ 65536) = false := by simp; omega
    clear hl
    go_enter Tryd.func4, Tryd.ntmps4
    go_wp2_with fail
    go_region_with (go_at_call 11; refine (C1.out _ (Below.refl _ _).drew).mono ?_; rintro e w1 ⟨rfl, hb1⟩)
    go_wp2_with fail
    go_region_with (go_at_call 12; refine (C2.out _ hb1.drew).mono ?_; rintro e w2 ⟨rfl, hb2⟩)
    go_wp2_with fail
    refine (C3.out _ hb2).mono ?_
    rintro e w3 ⟨rfl, hb3⟩
    go_wp2_with fail
    go_ret
    exact ⟨rfl, hb3⟩

set_option maxHeartbeats 4000000 in
theorem chachaStreams_long (keys : ByteArray) (c : Int) (s : ByteArray) (w : World) (hk : 32 ≤ keys.size) (hk2 : keys.size ≤ 128) (hl : s.size ≤ 512 ∨ 65536 < s.size) (hP : GlobP w) :
    Calls Tryd.prog 4 #[.string keys, .int .i64 c, .string s] w fun e w' => e = .returned (.bool true) ∧ Below w.heap.size w w' := by
  have C3 : Hid (∀ w', Below w.heap.size w w' → _) := fun w' hb => awake_on w w' hP hb
  have g1 : decide ((128 : Int) < (keys.size : Int)) = false := by simp; omega
  obtain ⟨K, hK⟩ : ∃ K, keys.extract 0 32 = K := ⟨_, rfl⟩
  obtain ⟨N, hN⟩ : ∃ N, keys.extract 32 keys.size = N := ⟨_, rfl⟩
  obtain ⟨B, n, D1, D2⟩ := streams_both K N c s w hP
  have C1 : Hid (∀ w', Below w.heap.size w w' → _) := D1
  have C2 : Hid (∀ w', Below w.heap.size w w' → _) := D2
  have hk' : (32 : Int) ≤ (keys.size : Int) := by omega
  clear D1 D2 hP
  rcases hl with hl | hl
  · have g2 : decide ((512 : Int) < (s.size : Int)) = false := by simp; omega
    clear hl
    go_enter Tryd.func4, Tryd.ntmps4
    go_wp2_with fail
    go_region_with (go_at_call 11; refine (C1.out _ (Below.refl _ _).drew).mono ?_; rintro e w1 ⟨rfl, hb1⟩)
    go_wp2_with fail
    go_region_with (go_at_call 12; refine (C2.out _ hb1.drew).mono ?_; rintro e w2 ⟨rfl, hb2⟩)
    go_wp2_with fail
    refine (C3.out _ hb2).mono ?_
    rintro e w3 ⟨rfl, hb3⟩
    go_wp2_with fail
    go_ret
    exact ⟨rfl, hb3⟩
  · have g2 : decide ((512 : Int) < (s.size : Int)) = true := by simp; omega
    have g3 : decide ((s.size : Int) ≤ 65536) = false := by simp; omega
    clear hl
    go_enter Tryd.func4, Tryd.ntmps4
    go_wp2_with fail
    go_region_with (go_at_call 11; refine (C1.out _ (Below.refl _ _).drew).mono ?_; rintro e w1 ⟨rfl, hb1⟩)
    go_wp2_with fail
    go_region_with (go_at_call 12; refine (C2.out _ hb1.drew).mono ?_; rintro e w2 ⟨rfl, hb2⟩)
    go_wp2_with fail
    refine (C3.out _ hb2).mono ?_
    rintro e w3 ⟨rfl, hb3⟩
    go_wp2_with fail
    go_ret
    exact ⟨rfl, hb3⟩

set_option maxHeartbeats 2000000 in
theorem chachaStreams_no (keys : ByteArray) (c : Int) (s : ByteArray) (w : World) (h : 128 < keys.size ∨ (keys.size ≤ 128 ∧ 512 < s.size ∧ s.size ≤ 65536)) (hP : GlobP w) :
    Calls Tryd.prog 4 #[.string keys, .int .i64 c, .string s] w fun e w' => e = .returned (.bool true) ∧ Below w.heap.size w w' := by
  have C3 : Hid (∀ w', Below w.heap.size w w' → _) := fun w' hb => awake_on w w' hP hb
  clear hP
  rcases h with h | ⟨h1, h2, h3⟩
  · have g1 : decide ((128 : Int) < (keys.size : Int)) = true := by simp; omega
    clear h
    go_enter Tryd.func4, Tryd.ntmps4
    go_wp2_with fail
    refine (C3.out _ (Below.refl _ _)).mono ?_
    rintro e w3 ⟨rfl, hb3⟩
    go_wp2_with fail
    go_ret
    exact ⟨rfl, hb3⟩
  · have g1 : decide ((128 : Int) < (keys.size : Int)) = false := by simp; omega
    have g2 : decide ((512 : Int) < (s.size : Int)) = true := by simp; omega
    have g3 : decide ((s.size : Int) ≤ 65536) = true := by simp; omega
    clear h1 h2 h3
    go_enter Tryd.func4, Tryd.ntmps4
    go_wp2_with fail
    refine (C3.out _ (Below.refl _ _)).mono ?_
    rintro e w3 ⟨rfl, hb3⟩
    go_wp2_with fail
    go_ret
    exact ⟨rfl, hb3⟩

theorem chachaStreams_walk (keys : ByteArray) (c : Int) (s : ByteArray) (w : World) (hP : GlobP w) :
    Calls Tryd.prog 4 #[.string keys, .int .i64 c, .string s] w fun e w' => e = .returned (.bool true) ∧ Below w.heap.size w w' := by
  by_cases h : 128 < keys.size ∨ (keys.size ≤ 128 ∧ 512 < s.size ∧ s.size ≤ 65536)
  · exact chachaStreams_no keys c s w h hP
  · by_cases h2 : keys.size < 32
    · exact chachaStreams_short keys c s w h2 (by omega) hP
    · exact chachaStreams_long keys c s w (by omega) (by omega) (by omega) hP
end Go.Proofs.YthnaohobedpejaaDoor
