/-
  DERIVED. GIVEN WITH THE SEED: THE CARDS: each row of YtabhkebkbidfhaaGreatDoorRows.lean that lists a variable, with what it lists TIED to the program's text (the seventh form; the later family's looks); each row that meets fmt, with fmt's text TOLD by the authors' own Lean function (tested against real Go, not proved from fmt's source: count such statements apart). THE CARD IS WHAT COUNTS. Prove the row's statement (the work); the ties are given (YtabhkebkbidfhaaGreatDoorTie.lean); close each card by the builder's one call (the guide's Derived/Test/ToyasCard.lean, 'card_holds'). Laid BY PROGRAM, IN A SANDBOX (cutbox-door.mjs). By AI agents, Wed Nov 11 2026. No macro, syntax, notation, axiom, sorry.
-/
import Derived.Test.YtabhkebkbidfhaaGreatDoorRows
import GoSem.ClaimSeven
namespace Go.Proofs.YtabhkebkbidfhaaGreatDoor
namespace Rows

/-- THE TIED CARD OF 'samphirelaw20.GroupWraps'. -/
def groupWrapsCard : Claim7 := { stood := { row := groupWrapsRow, standIns := [], harness := (true, "03c6979d7c7e6493a0239cbcb32551961cf60fcefa337773d1654acccc79a3ba"), looks := false }, kinds := [], alts := [], laidByText := true, laidKinds := [.data, .data, .data, .data, .data, .pinned], laidTests := true, laidLooks := .later }
def GroupWrapsCardSaid : Prop := Claim7.holds Tryz.pinned (.plain (OpenSpec.ofChange groupWrapsSpec)) groupWrapsCard

/-- THE SECOND FORM's CARD OF 'samphirelaw20.GroupWraps'. -/
def groupWrapsUptoCard : Claim7 := { stood := { row := groupWrapsUptoRow, standIns := [], harness := (true, "03c6979d7c7e6493a0239cbcb32551961cf60fcefa337773d1654acccc79a3ba"), looks := false }, kinds := [], alts := [], laidByText := true, laidKinds := [.data, .data, .data, .data, .data, .pinned], laidTests := true, laidLooks := .later }
def GroupWrapsUptoCardSaid : Prop := Claim7.holds Tryz.pinned (.plain (OpenSpec.upto groupWrapsSpec)) groupWrapsUptoCard
end Rows
end Go.Proofs.YtabhkebkbidfhaaGreatDoor
