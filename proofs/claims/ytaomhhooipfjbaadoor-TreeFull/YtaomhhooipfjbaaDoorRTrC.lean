/- The document's under (layer 11). -/
import Derived.Test.YtaomhhooipfjbaaDoorRTrB
namespace Go.Proofs.YtaomhhooipfjbaaDoor
open Go.RowKit
set_option linter.unusedSimpArgs false

def findK (l : List ((Int × Int) × (Int × Int) × ByteArray × ByteArray)) (id : Int × Int) : Nat → Nat → Int
  | 0, _ => -1
  | f + 1, k => if (nL l k).1 = id then (k : Int) else findK l id f (k + 1)

def findI (l : List ((Int × Int) × (Int × Int) × ByteArray × ByteArray)) (id : Int × Int) : Int := findK l id l.length 0

theorem findK_E (l : List ((Int × Int) × (Int × Int) × ByteArray × ByteArray)) (id : Int × Int) (f : Nat) : ∀ k, k + f = l.length → (∀ j, j < k → (nL l j).1 ≠ id) → FindE l id (findK l id f k) := by
  induction f with
  | zero => exact fun k hk h => .inl ⟨rfl, fun i hi => h i (by omega)⟩
  | succ f ih =>
    intro k hk h
    unfold findK
    by_cases he : (nL l k).1 = id
    · rw [if_pos he]; exact .inr ⟨k, rfl, by omega, he, h⟩
    · rw [if_neg he]
      refine ih (k + 1) (by omega) (fun j hj => ?_)
      by_cases e : j = k
      · subst e; exact he
      · exact h j (by omega)

theorem findI_E (l : List ((Int × Int) × (Int × Int) × ByteArray × ByteArray)) (id : Int × Int) : FindE l id (findI l id) := findK_E l id l.length 0 (by omega) (fun j hj => absurd hj (Nat.not_lt_zero _))

theorem findI_lt (l : List ((Int × Int) × (Int × Int) × ByteArray × ByteArray)) (id : Int × Int) : findI l id = -1 ∨ ∃ k : Nat, findI l id = (k : Int) ∧ k < l.length ∧ (nL l k).1 = id := by
  rcases findI_E l id with ⟨h1, _⟩ | ⟨i, h1, h2, h3, _⟩
  · exact .inl h1
  · exact .inr ⟨i, h1, h2, h3⟩

/-- Is a stamp a node's, or below it? -/
def underF (l : List ((Int × Int) × (Int × Int) × ByteArray × ByteArray)) (id : Int × Int) : Nat → (Int × Int) → Bool
  | 0, _ => true
  | f + 1, p => if p = id then true else if findI l p < 0 then false else underF l id f (nL l (findI l p).toNat).2.1

end Go.Proofs.YtaomhhooipfjbaaDoor
