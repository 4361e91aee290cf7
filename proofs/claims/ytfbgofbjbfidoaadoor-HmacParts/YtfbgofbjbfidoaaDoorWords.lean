import Derived.Test.YtfbgofbjbfidoaaDoorPut
import Derived.Test.YtfbgofbjbfidoaaDoorTexts
namespace Go.Proofs.YtfbgofbjbfidoaaDoor
open Go.RowKit

theorem wl_big : wordsL ⟨#[0, 0, 1, 2]⟩ bsh = [258] := by decide +kernel
theorem wl_small : wordsL ⟨#[2, 1, 0, 0]⟩ ssh = [258] := by decide +kernel
theorem rot_31 : rotN 1 31 = 2147483648 := by decide +kernel

theorem words_big (w : World) : Calls Tryd.prog 49 #[.string ⟨#[0, 0, 1, 2]⟩] w fun e w' => e = .returned (.tuple #[.slice (some ⟨w.heap.size, 0, none⟩) 1 1, .int .i64 0]) ∧ IntsAt w' .i64 (some ⟨w.heap.size, 0, none⟩) 1 [258] ∧ Below w.heap.size w w' := by
  refine (big_even ⟨#[0, 0, 1, 2]⟩ w (by decide) (by decide)).mono ?_
  rintro e w' ⟨rfl, ho, h⟩
  have hi := ho.ints
  rw [wl_big] at hi
  exact ⟨rfl, hi, h⟩

theorem words_rot (w : World) : Calls Tryd.prog 50 #[.int .i64 1, .int .i64 31] w fun e w' => e = .returned (.int .i64 2147483648) ∧ w' = w := by
  refine (rot_nat 1 31 1 31 (by decide) (by decide) w (by decide) (by decide)).mono ?_
  rintro e w' ⟨rfl, rfl⟩
  rw [rot_31]
  exact ⟨rfl, rfl⟩

theorem below_new (w : World) (o : Obj) : Below w.heap.size w (w.alloc o) := (Below.refl _ _).alloc (Nat.le_refl _) o

end Go.Proofs.YtfbgofbjbfidoaaDoor
