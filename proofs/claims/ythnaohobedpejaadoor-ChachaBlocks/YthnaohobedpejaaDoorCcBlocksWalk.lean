import Derived.Test.YthnaohobedpejaaDoorCcAwake
import Derived.Test.YthnaohobedpejaaDoorR5
namespace Go.Proofs.YthnaohobedpejaaDoor
open Go.RowKit
set_option linter.unusedSimpArgs false

/-- Both blocks are one, or neither is. -/
theorem blocks_both (key nonce : ByteArray) (c : Int) (w : World) (hP : GlobP w) : ∃ (B : ByteArray) (n : Int),
    (∀ w', Below w.heap.size w w' → Calls Tryd.prog 9 #[.string key, .string nonce, .int .i64 c] w' fun e w'' => e = .returned (.tuple #[.string B, .int .i64 n]) ∧ Below w.heap.size w w'') ∧
    (∀ w', Below w.heap.size w w' → Calls Tryd.prog 10 #[.string key, .string nonce, .int .i64 c] w' fun e w'' => e = .returned (.tuple #[.string B, .int .i64 n]) ∧ Below w.heap.size w w'') := by
  by_cases h : Fits key nonce c
  · obtain ⟨C, rfl⟩ := Int.eq_ofNat_of_zero_le h.2.2.1
    refine ⟨blockB key nonce C, 0, fun w' hb => ?_, fun w' hb => ?_⟩
    · refine (cblock_yes key nonce C w' h (hP.below hb)).mono ?_
      rintro e w'' ⟨rfl, hb2⟩
      exact ⟨rfl, below_step hb (Nat.le_refl _) hb2⟩
    · refine (rblock_yes key nonce C w' h).mono ?_
      rintro e w'' ⟨rfl, hb2⟩
      exact ⟨rfl, below_step hb (Nat.le_refl _) hb2⟩
  · refine ⟨⟨#[]⟩, 1, fun w' hb => ?_, fun w' hb => ?_⟩
    · refine (cblock_no key nonce c w' h).mono ?_
      rintro e w'' ⟨rfl, hb2⟩
      exact ⟨rfl, below_step hb (Nat.le_refl _) hb2⟩
    · refine (rblock_no key nonce c w' h).mono ?_
      rintro e w'' ⟨rfl, hb2⟩
      exact ⟨rfl, below_step hb (Nat.le_refl _) hb2⟩

set_option maxHeartbeats 2000000 in
theorem chachaBlocks_walk (key nonce : ByteArray) (c : Int) (w : World) (hP : GlobP w) :
    Calls Tryd.prog 3 #[.string key, .string nonce, .int .i64 c] w fun e w' => e = .returned (.bool true) ∧ Below w.heap.size w w' := by
  have C3 : Hid (∀ w', Below w.heap.size w w' → _) := fun w' hb => awake_on w w' hP hb
  by_cases h1 : key.size ≤ 128
  · have g1 : decide ((128 : Int) < (key.size : Int)) = false := by simp; omega
    by_cases h2 : nonce.size ≤ 128
    · have g2 : decide ((128 : Int) < (nonce.size : Int)) = false := by simp; omega
      obtain ⟨B, n, D1, D2⟩ := blocks_both key nonce c w hP
      have C1 : Hid (∀ w', Below w.heap.size w w' → _) := D1
      have C2 : Hid (∀ w', Below w.heap.size w w' → _) := D2
      clear D1 D2 hP h1 h2
      go_enter Tryd.func3, Tryd.ntmps3
      go_wp2_with fail
      refine (C1.out _ (Below.refl _ _)).mono ?_
      rintro e w1 ⟨rfl, hb1⟩
      go_wp2_with fail
      refine (C2.out _ hb1).mono ?_
      rintro e w2 ⟨rfl, hb2⟩
      go_wp2_with fail
      refine (C3.out _ hb2).mono ?_
      rintro e w3 ⟨rfl, hb3⟩
      go_wp2_with fail
      go_ret
      exact ⟨rfl, hb3⟩
    · have g2 : decide ((128 : Int) < (nonce.size : Int)) = true := by simp; omega
      clear hP h1 h2
      go_enter Tryd.func3, Tryd.ntmps3
      go_wp2_with fail
      refine (C3.out _ (Below.refl _ _)).mono ?_
      rintro e w3 ⟨rfl, hb3⟩
      go_wp2_with fail
      go_ret
      exact ⟨rfl, hb3⟩
  · have g1 : decide ((128 : Int) < (key.size : Int)) = true := by simp; omega
    clear hP h1
    go_enter Tryd.func3, Tryd.ntmps3
    go_wp2_with fail
    refine (C3.out _ (Below.refl _ _)).mono ?_
    rintro e w3 ⟨rfl, hb3⟩
    go_wp2_with fail
    go_ret
    exact ⟨rfl, hb3⟩
end Go.Proofs.YthnaohobedpejaaDoor
