import Derived.Test.YtfbgofbjbfidoaaDoorHex
import Derived.Test.YtfbgofbjbfidoaaDoorSame
namespace Go.Proofs.YtfbgofbjbfidoaaDoor
open Go.RowKit

theorem texts_same (w : World) : Calls Tryd.prog 17 #[.string ⟨#[120]⟩, .string ⟨#[120]⟩] w fun e w' => e = .returned (.bool true) ∧ Below w.heap.size w w' := by
  refine (same_any ⟨#[120]⟩ ⟨#[120]⟩ w (by decide)).mono ?_
  rintro e w' ⟨rfl, h⟩
  exact ⟨by simp, h⟩

theorem below_step {B : Nat} {w w1 w2 : World} (h : Below B w w1) (hB : B ≤ w.heap.size) (h2 : Below w1.heap.size w1 w2) : Below B w w2 :=
  h.trans (h2.mono (Nat.le_trans hB h.size))

end Go.Proofs.YtfbgofbjbfidoaaDoor
