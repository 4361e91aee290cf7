/-
  DERIVED. GIVEN WITH THE SEED: THE CARDS: each row of YtglgppeloolbhaaGreatDoorRows.lean that lists a variable, with what it lists TIED to the program's text (the seventh form; the later family's looks); each row that meets fmt, with fmt's text TOLD by the authors' own Lean function (tested against real Go, not proved from fmt's source: count such statements apart). THE CARD IS WHAT COUNTS. Prove the row's statement (the work); the ties are given (YtglgppeloolbhaaGreatDoorTie.lean); close each card by the builder's one call (the guide's Derived/Test/ToyasCard.lean, 'card_holds'). Laid BY PROGRAM, IN A SANDBOX (cutbox-door.mjs). By AI agents, Wed Nov 11 2026. No macro, syntax, notation, axiom, sorry.
-/
import Derived.Test.YtglgppeloolbhaaGreatDoorRows
import GoSem.ClaimSeven
namespace Go.Proofs.YtglgppeloolbhaaGreatDoor
namespace Rows

/-- THE TIED CARD OF 'samphiretop.WholeSeals'. -/
def wholeSealsCard : Claim7 := { stood := { row := wholeSealsRow, standIns := [], harness := (true, "5164350662ac981c0963e8ead58ea1da5e9702188ddc84d9ef2da62676f96008"), looks := false }, kinds := [], alts := [], laidByText := true, laidKinds := [.data, .data, .data, .data], laidTests := true, laidLooks := .later }
def WholeSealsCardSaid : Prop := Claim7.holds Tryz.pinned (.plain (OpenSpec.ofChange wholeSealsSpec)) wholeSealsCard

/-- THE SECOND FORM's CARD OF 'samphiretop.WholeSeals'. -/
def wholeSealsUptoCard : Claim7 := { stood := { row := wholeSealsUptoRow, standIns := [], harness := (true, "5164350662ac981c0963e8ead58ea1da5e9702188ddc84d9ef2da62676f96008"), looks := false }, kinds := [], alts := [], laidByText := true, laidKinds := [.data, .data, .data, .data], laidTests := true, laidLooks := .later }
def WholeSealsUptoCardSaid : Prop := Claim7.holds Tryz.pinned (.plain (OpenSpec.upto wholeSealsSpec)) wholeSealsUptoCard
end Rows
end Go.Proofs.YtglgppeloolbhaaGreatDoor
