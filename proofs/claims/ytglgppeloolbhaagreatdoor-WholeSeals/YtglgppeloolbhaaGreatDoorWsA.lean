import Derived.Test.YtglgppeloolbhaaGreatDoorTabs
import Derived.Test.YtglgppeloolbhaaGreatDoorR7
import Derived.Test.YtglgppeloolbhaaGreatDoorL4
/- WholeSeals: what it calls, of any texts. -/
namespace Go.Proofs.YtglgppeloolbhaaGreatDoor
open Go.RowKit
set_option maxRecDepth 100000
set_option linter.unusedSimpArgs false

set_option maxHeartbeats 2000000 in
theorem rderiveW_ok (salt s p : ByteArray) (n : Nat) (w : World) (hk : salt.size ≤ 65536) (hs : s.size ≤ 65472) (hp : p.size ≤ 65000) (hn : n ≤ 8160) :
    Calls Tryz.prog 7 #[.string salt, .string s, .string p, .int .i64 (n : Int)] w fun e w' => e = .returned (.tuple #[.string (expandB (macB salt s) p n), .int .i64 0]) ∧ Below w.heap.size w w' := by
  have C1 : Hid (Calls _ _ _ _ _) := rextract_any salt s w hk hs
  have C2 : Hid (∀ w, _) := fun w => rexpand_ok (macB salt s) p n w (by rw [macB_size]; omega) hp hn
  generalize macB salt s = M at *
  generalize expandB M p n = E at *
  go_enter Tryz.func7, Tryz.ntmps7
  go_wp2_with fail
  refine C1.out.mono ?_
  rintro e w1 ⟨rfl, hb1⟩
  go_wp2_with fail
  refine (C2.out w1).mono ?_
  rintro e w2 ⟨rfl, hb2⟩
  have hB2 := below_step hb1 (Nat.le_refl _) hb2
  go_wp2_with fail
  go_ret2
  exact ⟨rfl, hB2⟩

/-- Both seals are one, or neither is. -/
theorem sealsW_both (key nonce b s : ByteArray) (w : World) (hP : GlobP w) (hY : GlobY w) (hs : b.size + s.size ≤ 4503599627370496) : ∃ (B : ByteArray) (n : Int),
    (∀ w', Below w.heap.size w w' → Calls Tryz.prog 4 #[.string key, .string nonce, .string b, .string s] w' fun e w'' => e = .returned (.tuple #[.string B, .int .i64 n]) ∧ Below w.heap.size w w'') ∧
    (∀ w', Below w.heap.size w w' → Calls Tryz.prog 5 #[.string key, .string nonce, .string b, .string s] w' fun e w'' => e = .returned (.tuple #[.string B, .int .i64 n]) ∧ Below w.heap.size w w'') := by
  by_cases h : MayA key nonce b.size s.size
  · refine ⟨sealB key nonce b s, 0, fun w' hb => ?_, fun w' hb => ?_⟩
    · refine (aseal_yes key nonce b s w' h (hP.below hb) (hY.below hb)).mono ?_
      rintro e w'' ⟨rfl, hb2⟩
      exact ⟨rfl, below_step hb (Nat.le_refl _) hb2⟩
    · refine (rseal_yes key nonce b s w' h).mono ?_
      rintro e w'' ⟨rfl, hb2⟩
      exact ⟨rfl, below_step hb (Nat.le_refl _) hb2⟩
  · refine ⟨⟨#[]⟩, 1, fun w' hb => ?_, fun w' hb => ?_⟩
    · refine (aseal_no key nonce b s w' hs h).mono ?_
      rintro e w'' ⟨rfl, hb2⟩
      exact ⟨rfl, below_step hb (Nat.le_refl _) hb2⟩
    · refine (rseal_no key nonce b s w' (by omega) (by omega) h).mono ?_
      rintro e w'' ⟨rfl, hb2⟩
      exact ⟨rfl, below_step hb (Nat.le_refl _) hb2⟩

/-- Both derivations are one. -/
theorem derivesW_both (salt s p : ByteArray) (n : Nat) (w : World) (hT : Tabs w) (hk : salt.size ≤ 512) (hs : s.size ≤ 512) (hp : p.size ≤ 512) (hn : n ≤ 8160) : ∃ (B : ByteArray),
    (∀ w', Below w.heap.size w w' → Calls Tryz.prog 6 #[.string salt, .string s, .string p, .int .i64 (n : Int)] w' fun e w'' => e = .returned (.tuple #[.string B, .int .i64 0]) ∧ Below w.heap.size w w'') ∧
    (∀ w', Below w.heap.size w w' → Calls Tryz.prog 7 #[.string salt, .string s, .string p, .int .i64 (n : Int)] w' fun e w'' => e = .returned (.tuple #[.string B, .int .i64 0]) ∧ Below w.heap.size w w'') := by
  refine ⟨expandB (macB salt s) p n, fun w' hb => ?_, fun w' hb => ?_⟩
  · refine (derive_ok salt s p n w' (by omega) (by omega) (by omega) hn (hT.below hb).1.1 (hT.below hb).1.2).mono ?_
    rintro e w'' ⟨rfl, hb2⟩
    exact ⟨rfl, below_step hb (Nat.le_refl _) hb2⟩
  · refine (rderiveW_ok salt s p n w' (by omega) (by omega) (by omega) hn).mono ?_
    rintro e w'' ⟨rfl, hb2⟩
    exact ⟨rfl, below_step hb (Nat.le_refl _) hb2⟩

/-- 32 bytes, out of the key 'k'. -/
theorem expandW_k (w : World) (hT : Tabs w) : ∃ (B : ByteArray), B.size = 32 ∧
    (∀ w', Below w.heap.size w w' → Calls Tryz.prog 8 #[.string ⟨#[107]⟩, .string ⟨#[]⟩, .int .i64 32] w' fun e w'' => e = .returned (.tuple #[.string B, .int .i64 0]) ∧ Below w.heap.size w w'') := by
  refine ⟨expandB ⟨#[107]⟩ ⟨#[]⟩ 32, expandB_size _ _ _, fun w' hb => ?_⟩
  refine (expand_ok ⟨#[107]⟩ ⟨#[]⟩ 32 w' (by decide) (by decide) (by decide) (hT.below hb).1.1 (hT.below hb).1.2).mono ?_
  rintro e w'' ⟨rfl, hb2⟩
  exact ⟨rfl, below_step hb (Nat.le_refl _) hb2⟩
end Go.Proofs.YtglgppeloolbhaaGreatDoor
