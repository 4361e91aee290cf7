import Derived.Test.YtfbgofbjbfidoaaDoorWords
namespace Go.Proofs.YtfbgofbjbfidoaaDoor
open Go.RowKit

theorem nat_mod (x : Int) (m : Nat) (hm : 0 < m) : ∃ X : Nat, X < m ∧ x % (m : Int) = (X : Int) := by
  have h1 := Int.emod_nonneg x (show (m : Int) ≠ 0 by omega)
  have h2 := Int.emod_lt_of_pos x (show (0 : Int) < (m : Int) by omega)
  exact ⟨(x % (m : Int)).toNat, by omega, by omega⟩

end Go.Proofs.YtfbgofbjbfidoaaDoor
