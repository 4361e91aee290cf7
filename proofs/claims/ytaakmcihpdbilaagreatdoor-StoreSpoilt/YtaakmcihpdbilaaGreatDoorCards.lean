/-
  DERIVED. GIVEN WITH THE SEED: THE CARDS: each row of YtaakmcihpdbilaaGreatDoorRows.lean that lists a variable, with what it lists TIED to the program's text (the seventh form; the later family's looks); each row that meets fmt, with fmt's text TOLD by the authors' own Lean function (tested against real Go, not proved from fmt's source: count such statements apart). THE CARD IS WHAT COUNTS. Prove the row's statement (the work); the ties are given (YtaakmcihpdbilaaGreatDoorTie.lean); close each card by the builder's one call (the guide's Derived/Test/ToyasCard.lean, 'card_holds'). Laid BY PROGRAM, IN A SANDBOX (cutbox-door.mjs). By AI agents, Wed Nov 11 2026. No macro, syntax, notation, axiom, sorry.
-/
import Derived.Test.YtaakmcihpdbilaaGreatDoorRows
import GoSem.ClaimSeven
namespace Go.Proofs.YtaakmcihpdbilaaGreatDoor
namespace Rows

/-- THE TIED CARD OF 'samphirelaw18.StorePlays'. -/
def storePlaysCard : Claim7 := { stood := { row := storePlaysRow, standIns := [], harness := (true, "70f12dd886a1cc933111bed2df1c265dd906d51bfc46d02fab7a39a25ee3eedf"), looks := false }, kinds := [], alts := [], laidByText := true, laidKinds := [.data, .data], laidTests := true, laidLooks := .later }
def StorePlaysCardSaid : Prop := Claim7.holds Tryz.pinned (.plain (OpenSpec.ofChange storePlaysSpec)) storePlaysCard

/-- THE TIED CARD OF 'samphirelaw18.StoreSpoilt'. -/
def storeSpoiltCard : Claim7 := { stood := { row := storeSpoiltRow, standIns := [], harness := (true, "70f12dd886a1cc933111bed2df1c265dd906d51bfc46d02fab7a39a25ee3eedf"), looks := false }, kinds := [], alts := [], laidByText := true, laidKinds := [.data, .data], laidTests := true, laidLooks := .later }
def StoreSpoiltCardSaid : Prop := Claim7.holds Tryz.pinned (.plain (OpenSpec.ofChange storeSpoiltSpec)) storeSpoiltCard

/-- THE SECOND FORM's CARD OF 'samphirelaw18.StorePlays'. -/
def storePlaysUptoCard : Claim7 := { stood := { row := storePlaysUptoRow, standIns := [], harness := (true, "70f12dd886a1cc933111bed2df1c265dd906d51bfc46d02fab7a39a25ee3eedf"), looks := false }, kinds := [], alts := [], laidByText := true, laidKinds := [.data, .data], laidTests := true, laidLooks := .later }
def StorePlaysUptoCardSaid : Prop := Claim7.holds Tryz.pinned (.plain (OpenSpec.upto storePlaysSpec)) storePlaysUptoCard

/-- THE SECOND FORM's CARD OF 'samphirelaw18.StoreSpoilt'. -/
def storeSpoiltUptoCard : Claim7 := { stood := { row := storeSpoiltUptoRow, standIns := [], harness := (true, "70f12dd886a1cc933111bed2df1c265dd906d51bfc46d02fab7a39a25ee3eedf"), looks := false }, kinds := [], alts := [], laidByText := true, laidKinds := [.data, .data], laidTests := true, laidLooks := .later }
def StoreSpoiltUptoCardSaid : Prop := Claim7.holds Tryz.pinned (.plain (OpenSpec.upto storeSpoiltSpec)) storeSpoiltUptoCard
end Rows
end Go.Proofs.YtaakmcihpdbilaaGreatDoor
