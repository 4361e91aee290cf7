import Derived.Test.YtaefhdegldphhaaHex
import Derived.Test.YtaefhdegldphhaaSame
namespace Go.Proofs.Ytaefhdegldphhaa
open Go.RowKit

theorem texts_xor (w : World) : Calls Try.prog 23 #[.string ⟨#[97, 98]⟩, .string ⟨#[97, 98]⟩] w fun e w' => e = .returned (.tuple #[.string ⟨#[0, 0]⟩, .int .i64 0]) ∧ Below w.heap.size w w' := by
  refine (xor_len ⟨#[97, 98]⟩ ⟨#[97, 98]⟩ w (by decide) rfl).mono ?_
  rintro e w' ⟨rfl, h⟩
  exact ⟨rfl, h⟩

theorem texts_unhex (w : World) : Calls Try.prog 26 #[.string ⟨#[48, 97, 70, 102]⟩] w fun e w' => e = .returned (.tuple #[.string ⟨#[10, 255]⟩, .int .i64 0]) ∧ Below w.heap.size w w' := by
  refine (unhex_any ⟨#[48, 97, 70, 102]⟩ w (by decide)).mono ?_
  rintro e w' ⟨rfl, h⟩
  exact ⟨by kernel_rfl, h⟩

theorem texts_hex (w : World) : Calls Try.prog 28 #[.string ⟨#[10, 255]⟩] w fun e w' => e = .returned (.string ⟨#[48, 97, 102, 102]⟩) ∧ Below w.heap.size w w' := by
  refine (hex_any ⟨#[10, 255]⟩ w (by decide)).mono ?_
  rintro e w' ⟨rfl, h⟩
  exact ⟨by kernel_rfl, h⟩

theorem texts_same (w : World) : Calls Try.prog 25 #[.string ⟨#[120]⟩, .string ⟨#[120]⟩] w fun e w' => e = .returned (.bool true) ∧ Below w.heap.size w w' := by
  refine (same_any ⟨#[120]⟩ ⟨#[120]⟩ w (by decide)).mono ?_
  rintro e w' ⟨rfl, h⟩
  exact ⟨by simp, h⟩

theorem below_step {B : Nat} {w w1 w2 : World} (h : Below B w w1) (hB : B ≤ w.heap.size) (h2 : Below w1.heap.size w1 w2) : Below B w w2 :=
  h.trans (h2.mono (Nat.le_trans hB h.size))

set_option maxHeartbeats 400000 in
theorem texts_any (w : World) : Calls Try.prog 22 #[] w fun e w' => e = .returned (.bool true) ∧ Below w.heap.size w w' := by
  go_enter Try.func22, Try.ntmps22
  go_wp2_with fail
  refine (texts_xor _).mono ?_
  rintro e w1 ⟨rfl, hb1⟩
  go_wp2_with fail
  refine (texts_unhex _).mono ?_
  rintro e w2 ⟨rfl, hb2⟩
  go_wp2_with fail
  refine (texts_hex _).mono ?_
  rintro e w3 ⟨rfl, hb3⟩
  go_wp2_with fail
  refine (texts_same _).mono ?_
  rintro e w4 ⟨rfl, hb4⟩
  go_wp2_with fail
  go_ret
  exact ⟨rfl, below_step (below_step (below_step hb1 (Nat.le_refl _) hb2) (Nat.le_refl _) hb3) (Nat.le_refl _) hb4⟩
end Go.Proofs.Ytaefhdegldphhaa
