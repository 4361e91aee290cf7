/-
  DERIVED. GIVEN WITH THE SEED: THE CARDS: each row of YtkmdajenbidaaaaDoorRows.lean that lists a variable, with what it lists TIED to the program's text (the seventh form; the later family's looks); each row that meets fmt, with fmt's text TOLD by the authors' own Lean function (tested against real Go, not proved from fmt's source: count such statements apart). THE CARD IS WHAT COUNTS. Prove the row's statement (the work); the ties are given (YtkmdajenbidaaaaDoorTie.lean); close each card by the builder's one call (the guide's Derived/Test/ToyasCard.lean, 'card_holds'). Laid BY PROGRAM, IN A SANDBOX (cutbox-door.mjs). By AI agents, Wed Nov 11 2026. No macro, syntax, notation, axiom, sorry.
-/
import Derived.Test.YtkmdajenbidaaaaDoorRows
import GoSem.ClaimSeven
namespace Go.Proofs.YtkmdajenbidaaaaDoor
namespace Rows

/-- THE TIED CARD OF 'samphirelaw20.GroupRises'. -/
def groupRisesCard : Claim7 := { stood := { row := groupRisesRow, standIns := [], harness := (true, "687e75930c40b0ad1b1360a4f026e02b656440274ec34f0ea956dea7db5da876"), looks := false }, kinds := [], alts := [], laidByText := true, laidKinds := [.data, .pinned], laidTests := true, laidLooks := .later }
def GroupRisesCardSaid : Prop := Claim7.holds Tryd.pinned (.plain (OpenSpec.ofChange groupRisesSpec)) groupRisesCard

/-- THE SECOND FORM's CARD OF 'samphirelaw20.GroupRises'. -/
def groupRisesUptoCard : Claim7 := { stood := { row := groupRisesUptoRow, standIns := [], harness := (true, "687e75930c40b0ad1b1360a4f026e02b656440274ec34f0ea956dea7db5da876"), looks := false }, kinds := [], alts := [], laidByText := true, laidKinds := [.data, .pinned], laidTests := true, laidLooks := .later }
def GroupRisesUptoCardSaid : Prop := Claim7.holds Tryd.pinned (.plain (OpenSpec.upto groupRisesSpec)) groupRisesUptoCard
end Rows
end Go.Proofs.YtkmdajenbidaaaaDoor
