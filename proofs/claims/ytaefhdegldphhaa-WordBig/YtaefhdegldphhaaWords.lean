import Derived.Test.YtaefhdegldphhaaPut
import Derived.Test.YtaefhdegldphhaaTexts
namespace Go.Proofs.Ytaefhdegldphhaa
open Go.RowKit

theorem wl_big : wordsL ⟨#[0, 0, 1, 2]⟩ bsh = [258] := by decide +kernel
theorem wl_small : wordsL ⟨#[2, 1, 0, 0]⟩ ssh = [258] := by decide +kernel
theorem rot_31 : rotN 1 31 = 2147483648 := by decide +kernel

theorem words_big (w : World) : Calls Try.prog 13 #[.string ⟨#[0, 0, 1, 2]⟩] w fun e w' => e = .returned (.tuple #[.slice (some ⟨w.heap.size, 0, none⟩) 1 1, .int .i64 0]) ∧ IntsAt w' .i64 (some ⟨w.heap.size, 0, none⟩) 1 [258] ∧ Below w.heap.size w w' := by
  refine (big_even ⟨#[0, 0, 1, 2]⟩ w (by decide) (by decide)).mono ?_
  rintro e w' ⟨rfl, ho, h⟩
  have hi := ho.ints
  rw [wl_big] at hi
  exact ⟨rfl, hi, h⟩

theorem words_small (w : World) : Calls Try.prog 18 #[.string ⟨#[2, 1, 0, 0]⟩] w fun e w' => e = .returned (.tuple #[.slice (some ⟨w.heap.size, 0, none⟩) 1 1, .int .i64 0]) ∧ IntsAt w' .i64 (some ⟨w.heap.size, 0, none⟩) 1 [258] ∧ Below w.heap.size w w' := by
  refine (small_even ⟨#[2, 1, 0, 0]⟩ w (by decide) (by decide)).mono ?_
  rintro e w' ⟨rfl, ho, h⟩
  have hi := ho.ints
  rw [wl_small] at hi
  exact ⟨rfl, hi, h⟩

theorem words_rot (w : World) : Calls Try.prog 9 #[.int .i64 1, .int .i64 31] w fun e w' => e = .returned (.int .i64 2147483648) ∧ w' = w := by
  refine (rot_nat 1 31 1 31 (by decide) (by decide) w (by decide) (by decide)).mono ?_
  rintro e w' ⟨rfl, rfl⟩
  rw [rot_31]
  exact ⟨rfl, rfl⟩

theorem below_new (w : World) (o : Obj) : Below w.heap.size w (w.alloc o) := (Below.refl _ _).alloc (Nat.le_refl _) o

set_option maxHeartbeats 400000 in
theorem words_any (w : World) : Calls Try.prog 12 #[] w fun e w' => e = .returned (.bool true) ∧ Below w.heap.size w w' := by
  go_enter Try.func12, Try.ntmps12
  go_wp2_with fail
  refine (words_big _).mono ?_
  rintro e w1 ⟨rfl, hi1, hb1⟩
  have HI1 : Hid (IntsAt w1 _ _ _ _) := hi1
  clear hi1
  go_wp2_with fail
  refine (words_small _).mono ?_
  rintro e w2 ⟨rfl, hi2, hb2⟩
  have HI2 : Hid (IntsAt w2 _ _ _ _) := hi2
  clear hi2
  go_wp2_with fail
  refine (sameInts_any _ _ 1 _ _ [258] _ (by omega) ((HI1.out.below hb2).below (below_new _ _)) (ints_lit _ _ _ _)).mono ?_
  rintro e w3 ⟨rfl, hb3⟩
  go_wp2_with fail
  refine (sameInts_any _ _ 1 _ _ [258] _ (by omega) (((HI2.out.below (below_new _ _)).below hb3).below (below_new _ _)) (ints_lit _ _ _ _)).mono ?_
  rintro e w4 ⟨rfl, hb4⟩
  go_wp2_with fail
  refine (words_rot _).mono ?_
  rintro e w5 ⟨rfl, rfl⟩
  go_wp2_with fail
  go_ret
  exact ⟨rfl, below_step (below_step (below_step (below_step (below_step hb1 (Nat.le_refl _) hb2) (Nat.le_refl _) (below_new _ _)) (Nat.le_refl _) hb3) (Nat.le_refl _) (below_new _ _)) (Nat.le_refl _) hb4⟩
end Go.Proofs.Ytaefhdegldphhaa
