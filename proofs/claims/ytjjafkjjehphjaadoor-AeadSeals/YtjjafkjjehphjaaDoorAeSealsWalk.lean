/- The walk of AeadSeals. -/
import Derived.Test.YtjjafkjjehphjaaDoorL7
import Derived.Test.YtjjafkjjehphjaaDoorR7
namespace Go.Proofs.YtjjafkjjehphjaaDoor
open Go.RowKit
set_option linter.unusedSimpArgs false

/-- Both seals are one, or neither is. -/
theorem seals_both (key nonce b s : ByteArray) (w : World) (hP : GlobP w) (hY : GlobY w) (hs : b.size + s.size ≤ 4503599627370496) : ∃ (B : ByteArray) (n : Int),
    (∀ w', Below w.heap.size w w' → Calls Tryd.prog 10 #[.string key, .string nonce, .string b, .string s] w' fun e w'' => e = .returned (.tuple #[.string B, .int .i64 n]) ∧ Below w.heap.size w w'') ∧
    (∀ w', Below w.heap.size w w' → Calls Tryd.prog 11 #[.string key, .string nonce, .string b, .string s] w' fun e w'' => e = .returned (.tuple #[.string B, .int .i64 n]) ∧ Below w.heap.size w w'') := by
  by_cases h : MayA key nonce b.size s.size
  · refine ⟨sealB key nonce b s, 0, fun w' hb => seal_on key nonce b s _ rfl w w' hP hY hb h, fun w' hb => ?_⟩
    refine (rseal_yes key nonce b s w' h).mono ?_
    rintro e w'' ⟨rfl, hb2⟩
    exact ⟨rfl, below_step hb (Nat.le_refl _) hb2⟩
  · refine ⟨⟨#[]⟩, 1, fun w' hb => seal_on_no key nonce b s w w' hb hs h, fun w' hb => ?_⟩
    refine (rseal_no key nonce b s w' (by omega) (by omega) h).mono ?_
    rintro e w'' ⟨rfl, hb2⟩
    exact ⟨rfl, below_step hb (Nat.le_refl _) hb2⟩

set_option maxHeartbeats 4000000 in
theorem aeadSeals_yes (keys b s : ByteArray) (w : World) (hk2 : keys.size ≤ 512) (hb : b.size ≤ 512) (hl : s.size ≤ 512 ∨ 32768 < s.size) (hs : s.size ≤ 2251799813685248) (hP : GlobP w) (hY : GlobY w) :
    Calls Tryd.prog 3 #[.string keys, .string b, .string s] w fun e w' => e = .returned (.bool true) ∧ Below w.heap.size w w' := by
  have C3 : Hid (∀ w', Below w.heap.size w w' → _) := fun w' hb => awake7_on w w' hP hY hb
  have C0 : Hid (∀ w, _) := fun w => light7_yes keys b ⟨#[]⟩ w ⟨by omega, hb, by decide⟩
  obtain ⟨k, hk⟩ : ∃ k, k = min 32 keys.size := ⟨_, rfl⟩
  have hmin : min (32 : Int) (keys.size : Int) = (k : Int) := by omega
  have i0 : (0 : Int) ≤ (k : Int) := by omega
  have i1 : (k : Int) ≤ (keys.size : Int) := by omega
  have i2 : k ≤ keys.size := by omega
  obtain ⟨K, hK⟩ : ∃ K, keys.extract 0 k = K := ⟨_, rfl⟩
  obtain ⟨N, hN⟩ : ∃ N, keys.extract k keys.size = N := ⟨_, rfl⟩
  obtain ⟨B, n, D1, D2⟩ := seals_both K N b s w hP hY (by omega)
  have C1 : Hid (∀ w', Below w.heap.size w w' → _) := D1
  have C2 : Hid (∀ w', Below w.heap.size w w' → _) := D2
  clear D1 D2 hP hY hk
  rcases hl with hl | hl
  · have g2 : decide ((512 : Int) < (s.size : Int)) = false := by simp; omega
    clear hl
    go_enter Tryd.func3, Tryd.ntmps3
    go_wp2_with fail
    refine (C0.out _).mono ?_
    rintro e w0 ⟨rfl, rfl⟩
    go_wp2_with fail
    go_region_with (go_at_call 10; refine (C1.out _ (Below.refl _ _).drew).mono ?_; rintro e w1 ⟨rfl, hb1⟩)
    go_wp2_with fail
    go_region_with (go_at_call 11; refine (C2.out _ hb1.drew).mono ?_; rintro e w2 ⟨rfl, hb2⟩)
    go_wp2_with fail
    refine (C3.out _ hb2).mono ?_
    rintro e w3 ⟨rfl, hb3⟩
    go_wp2_with fail
    go_ret
    exact ⟨rfl, hb3⟩
  · have g2 : decide ((512 : Int) < (s.size : Int)) = true := by simp; omega
    have g3 : decide ((s.size : Int) ≤ 32768) = false := by simp; omega
    clear hl
    go_enter Tryd.func3, Tryd.ntmps3
    go_wp2_with fail
    refine (C0.out _).mono ?_
    rintro e w0 ⟨rfl, rfl⟩
    go_wp2_with fail
    go_region_with (go_at_call 10; refine (C1.out _ (Below.refl _ _).drew).mono ?_; rintro e w1 ⟨rfl, hb1⟩)
    go_wp2_with fail
    go_region_with (go_at_call 11; refine (C2.out _ hb1.drew).mono ?_; rintro e w2 ⟨rfl, hb2⟩)
    go_wp2_with fail
    refine (C3.out _ hb2).mono ?_
    rintro e w3 ⟨rfl, hb3⟩
    go_wp2_with fail
    go_ret
    exact ⟨rfl, hb3⟩

set_option maxHeartbeats 2000000 in
theorem aeadSeals_no (keys b s : ByteArray) (w : World) (h : ¬ (keys.size ≤ 512 ∧ b.size ≤ 512) ∨ ((keys.size ≤ 512 ∧ b.size ≤ 512) ∧ 512 < s.size ∧ s.size ≤ 32768)) (hP : GlobP w) (hY : GlobY w) :
    Calls Tryd.prog 3 #[.string keys, .string b, .string s] w fun e w' => e = .returned (.bool true) ∧ Below w.heap.size w w' := by
  have C3 : Hid (∀ w', Below w.heap.size w w' → _) := fun w' hb => awake7_on w w' hP hY hb
  clear hP hY
  rcases h with h | ⟨h1, h2, h3⟩
  · have C0 : Hid (∀ w, _) := fun w => light7_no keys b ⟨#[]⟩ w (fun h' => h ⟨h'.1, h'.2.1⟩)
    clear h
    go_enter Tryd.func3, Tryd.ntmps3
    go_wp2_with fail
    refine (C0.out _).mono ?_
    rintro e w0 ⟨rfl, rfl⟩
    go_wp2_with fail
    refine (C3.out _ (Below.refl _ _)).mono ?_
    rintro e w3 ⟨rfl, hb3⟩
    go_wp2_with fail
    go_ret
    exact ⟨rfl, hb3⟩
  · have C0 : Hid (∀ w, _) := fun w => light7_yes keys b ⟨#[]⟩ w ⟨h1.1, h1.2, by decide⟩
    have g2 : decide ((512 : Int) < (s.size : Int)) = true := by simp; omega
    have g3 : decide ((s.size : Int) ≤ 32768) = true := by simp; omega
    clear h1 h2 h3
    go_enter Tryd.func3, Tryd.ntmps3
    go_wp2_with fail
    refine (C0.out _).mono ?_
    rintro e w0 ⟨rfl, rfl⟩
    go_wp2_with fail
    refine (C3.out _ (Below.refl _ _)).mono ?_
    rintro e w3 ⟨rfl, hb3⟩
    go_wp2_with fail
    go_ret
    exact ⟨rfl, hb3⟩

theorem aeadSeals_walk (keys b s : ByteArray) (w : World) (hG : GlobP w ∧ GlobY w) (hs : s.size ≤ 2251799813685248) :
    Calls Tryd.prog 3 #[.string keys, .string b, .string s] w fun e w' => e = .returned (.bool true) ∧ Below w.heap.size w w' := by
  by_cases h : ¬ (keys.size ≤ 512 ∧ b.size ≤ 512) ∨ ((keys.size ≤ 512 ∧ b.size ≤ 512) ∧ 512 < s.size ∧ s.size ≤ 32768)
  · exact aeadSeals_no keys b s w h hG.1 hG.2
  · exact aeadSeals_yes keys b s w (by omega) (by omega) (by omega) hs hG.1 hG.2
end Go.Proofs.YtjjafkjjehphjaaDoor
