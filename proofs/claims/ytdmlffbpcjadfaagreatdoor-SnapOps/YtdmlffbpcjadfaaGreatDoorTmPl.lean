import Derived.Test.YtdmlffbpcjadfaaGreatDoorL1
import Derived.Test.YtdmlffbpcjadfaaGreatDoorP11
import Derived.Test.YtdmlffbpcjadfaaGreatDoorTS
import Derived.Test.YtdmlffbpcjadfaaGreatDoorRT
import Derived.Test.YtdmlffbpcjadfaaGreatDoorTX
import Derived.Test.YtdmlffbpcjadfaaGreatDoorBA
/- The document's tree beside the code's; the laws' same (layer 11). -/
namespace Go.Proofs.YtdmlffbpcjadfaaGreatDoor
open Go.RowKit
set_option linter.unusedSimpArgs false

theorem cell_of_block {w w' : World} {b : Nat} (h : w'.heap[b]? = w.heap[b]?) (o : Nat) : w'.cell? ⟨b, o, none⟩ = w.cell? ⟨b, o, none⟩ := by
  unfold World.cell?
  simp only [h]

/-- A row that is not empty has a block that is not among some. -/
def Far (F : Nat → Prop) (n : Nat) (a : Option Addr) : Prop := 0 < n → ∀ x, a = some x → ¬ F x.block

theorem rows_kept {F : Nat → Prop} {w w' : World} {a : Option Addr} {n c : Nat} {f : Nat → Array Value} (h : RowsAt w a n c f) (hF : Far F n a) (hK : KeptF F w w') : RowsAt w' a n c f := by
  rcases h with h0 | ⟨b, off, ha, hc⟩
  · exact .inl h0
  · by_cases hn : n = 0
    · exact .inl hn
    · refine .inr ⟨b, off, ha, fun i hi j hj => ?_⟩
      obtain ⟨u, h1, h2⟩ := hc i hi j hj
      refine ⟨u, h1, ?_⟩
      rw [cell_of_block (hK.block b (World.block_lt_of_cell? w _ h2) (hF (by omega) _ ha))]
      exact h2

end Go.Proofs.YtdmlffbpcjadfaaGreatDoor
