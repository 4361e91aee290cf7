/- Layer 18, the document's: Open. -/
import Derived.Test.YtaakmcihpdbilaaDoorRStD
namespace Go.Proofs.YtaakmcihpdbilaaDoor
open Go.RowKit
set_option maxRecDepth 100000
set_option linter.unusedSimpArgs false
set_option linter.unusedVariables false
set_option maxRecDepth 100000

def zeroT : StoT := (⟨#[]⟩, [], 0, ⟨#[]⟩)
/-- What a device has. -/
def openP (L : List ByteArray) : StoT :=
  if (halfP L 1).isSome = true ∧ ((halfP L 0).isSome = false ∨ ((halfP L 0).getD zeroT).2.2.1 < ((halfP L 1).getD zeroT).2.2.1) then (halfP L 1).getD zeroT else (halfP L 0).getD zeroT

theorem cell_row_other (w : World) (g b i : Nat) (cs : Array Value) (h : b ≠ g) : (w.setRow g cs).cell? ⟨b, i, none⟩ = w.cell? ⟨b, i, none⟩ := by
  unfold World.cell?
  simp only [setRow_other w g b cs h]

theorem strs_row {w : World} {g n : Nat} {a : Option Addr} {l : List ByteArray} {cs : Array Value} (h : StrsAt w a n l) (hx : ∀ x, a = some x → g < x.block) : StrsAt (w.setRow g cs) a n l := by
  refine ⟨h.1, ?_⟩
  rcases h.2 with h0 | ⟨b, off, ha, hc⟩
  · exact .inl h0
  · refine .inr ⟨b, off, ha, fun i hi => ?_⟩
    rw [cell_row_other w g b (off + i) cs (by have := hx _ ha; have h9 : g < b := this; omega)]
    exact hc i hi

end Go.Proofs.YtaakmcihpdbilaaDoor
