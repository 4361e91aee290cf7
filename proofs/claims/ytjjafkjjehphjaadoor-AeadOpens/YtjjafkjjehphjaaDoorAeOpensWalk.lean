/- The walk of AeadOpens. -/
import Derived.Test.YtjjafkjjehphjaaDoorL7
import Derived.Test.YtjjafkjjehphjaaDoorR7
namespace Go.Proofs.YtjjafkjjehphjaaDoor
open Go.RowKit
set_option linter.unusedSimpArgs false

/-- Both are opened alike. -/
theorem opens_both (key nonce b t : ByteArray) (w : World) (hP : GlobP w) (hY : GlobY w) (hs : b.size + t.size ≤ 4503599627370496) : ∃ (B : ByteArray) (n : Int),
    (∀ w', Below w.heap.size w w' → Calls Tryd.prog 12 #[.string key, .string nonce, .string b, .string t] w' fun e w'' => e = .returned (.tuple #[.string B, .int .i64 n]) ∧ Below w.heap.size w w'') ∧
    (∀ w', Below w.heap.size w w' → Calls Tryd.prog 13 #[.string key, .string nonce, .string b, .string t] w' fun e w'' => e = .returned (.tuple #[.string B, .int .i64 n]) ∧ Below w.heap.size w w'') := by
  by_cases h : MayA key nonce b.size (cutA t)
  · by_cases ho : OpensA key nonce b t
    · refine ⟨_, 0, fun w' hb => open_on key nonce b t _ rfl w w' hP hY hb h ho, fun w' hb => ?_⟩
      refine (ropen_yes key nonce b t w' h ho).mono ?_
      rintro e w'' ⟨rfl, hb2⟩
      exact ⟨rfl, below_step hb (Nat.le_refl _) hb2⟩
    · refine ⟨⟨#[]⟩, 70, fun w' hb => open_on_bad key nonce b t w w' hP hY hb h ho, fun w' hb => ?_⟩
      by_cases h16 : 16 ≤ t.size
      · refine (ropen_bad key nonce b t w' h h16 ho).mono ?_
        rintro e w'' ⟨rfl, hb2⟩
        exact ⟨rfl, below_step hb (Nat.le_refl _) hb2⟩
      · refine (ropen_short key nonce b t w' h (by omega)).mono ?_
        rintro e w'' ⟨rfl, hb2⟩
        exact ⟨rfl, below_step hb (Nat.le_refl _) hb2⟩
  · refine ⟨⟨#[]⟩, 1, fun w' hb => open_on_arg key nonce b t w w' hb hs h, fun w' hb => ?_⟩
    refine (ropen_arg key nonce b t w' (by omega) (by omega) h).mono ?_
    rintro e w'' ⟨rfl, hb2⟩
    exact ⟨rfl, below_step hb (Nat.le_refl _) hb2⟩

set_option maxHeartbeats 4000000 in
theorem aeadOpens_yes (keys b t : ByteArray) (w : World) (h : keys.size ≤ 512 ∧ b.size ≤ 512 ∧ t.size ≤ 512) (hP : GlobP w) (hY : GlobY w) :
    Calls Tryd.prog 4 #[.string keys, .string b, .string t] w fun e w' => e = .returned (.bool true) ∧ Below w.heap.size w w' := by
  have C3 : Hid (∀ w', Below w.heap.size w w' → _) := fun w' hb => awake7_on w w' hP hY hb
  have C0 : Hid (∀ w, _) := fun w => light7_yes keys b t w h
  obtain ⟨h1, h2, h3⟩ := h
  obtain ⟨k, hk⟩ : ∃ k, k = min 32 keys.size := ⟨_, rfl⟩
  have hmin : min (32 : Int) (keys.size : Int) = (k : Int) := by omega
  have i0 : (0 : Int) ≤ (k : Int) := by omega
  have i1 : (k : Int) ≤ (keys.size : Int) := by omega
  have i2 : k ≤ keys.size := by omega
  obtain ⟨K, hK⟩ : ∃ K, keys.extract 0 k = K := ⟨_, rfl⟩
  obtain ⟨N, hN⟩ : ∃ N, keys.extract k keys.size = N := ⟨_, rfl⟩
  obtain ⟨B, n, D1, D2⟩ := opens_both K N b t w hP hY (by omega)
  have C1 : Hid (∀ w', Below w.heap.size w w' → _) := D1
  have C2 : Hid (∀ w', Below w.heap.size w w' → _) := D2
  clear D1 D2 hP hY hk
  go_enter Tryd.func4, Tryd.ntmps4
  go_wp2_with fail
  refine (C0.out _).mono ?_
  rintro e w0 ⟨rfl, rfl⟩
  go_wp2_with fail
  go_region_with (go_at_call 12; refine (C1.out _ (Below.refl _ _).drew).mono ?_; rintro e w1 ⟨rfl, hb1⟩)
  go_wp2_with fail
  go_region_with (go_at_call 13; refine (C2.out _ hb1.drew).mono ?_; rintro e w2 ⟨rfl, hb2⟩)
  go_wp2_with fail
  refine (C3.out _ hb2).mono ?_
  rintro e w3 ⟨rfl, hb3⟩
  go_wp2_with fail
  go_ret
  exact ⟨rfl, hb3⟩

set_option maxHeartbeats 2000000 in
theorem aeadOpens_walk (keys b t : ByteArray) (w : World) (hG : GlobP w ∧ GlobY w) :
    Calls Tryd.prog 4 #[.string keys, .string b, .string t] w fun e w' => e = .returned (.bool true) ∧ Below w.heap.size w w' := by
  by_cases h : keys.size ≤ 512 ∧ b.size ≤ 512 ∧ t.size ≤ 512
  · exact aeadOpens_yes keys b t w h hG.1 hG.2
  · have C3 : Hid (∀ w', Below w.heap.size w w' → _) := fun w' hb => awake7_on w w' hG.1 hG.2 hb
    have C0 : Hid (∀ w, _) := fun w => light7_no keys b t w h
    clear hG h
    go_enter Tryd.func4, Tryd.ntmps4
    go_wp2_with fail
    refine (C0.out _).mono ?_
    rintro e w0 ⟨rfl, rfl⟩
    go_wp2_with fail
    refine (C3.out _ (Below.refl _ _)).mono ?_
    rintro e w3 ⟨rfl, hb3⟩
    go_wp2_with fail
    go_ret
    exact ⟨rfl, hb3⟩
end Go.Proofs.YtjjafkjjehphjaaDoor
