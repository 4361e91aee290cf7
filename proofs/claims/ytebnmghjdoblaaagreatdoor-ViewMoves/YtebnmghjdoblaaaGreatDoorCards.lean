/-
  DERIVED. GIVEN WITH THE SEED: THE CARDS: each row of YtebnmghjdoblaaaGreatDoorRows.lean that lists a variable, with what it lists TIED to the program's text (the seventh form; the later family's looks); each row that meets fmt, with fmt's text TOLD by the authors' own Lean function (tested against real Go, not proved from fmt's source: count such statements apart). THE CARD IS WHAT COUNTS. Prove the row's statement (the work); the ties are given (YtebnmghjdoblaaaGreatDoorTie.lean); close each card by the builder's one call (the guide's Derived/Test/ToyasCard.lean, 'card_holds'). Laid BY PROGRAM, IN A SANDBOX (cutbox-door.mjs). By AI agents, Wed Nov 11 2026. No macro, syntax, notation, axiom, sorry.
-/
import Derived.Test.YtebnmghjdoblaaaGreatDoorRows
import GoSem.ClaimSeven
namespace Go.Proofs.YtebnmghjdoblaaaGreatDoor
namespace Rows

/-- THE TIED CARD OF 'samphirelaw12.ViewLines'. -/
def viewLinesCard : Claim7 := { stood := { row := viewLinesRow, standIns := [], harness := (true, "b1b22fe6b0b667142ca234eab356f74082714ebf35031809b2153d086ec014fe"), looks := false }, kinds := [], alts := [], laidByText := true, laidKinds := [.data, .data, .data, .data, .pinned], laidTests := true, laidLooks := .later }
def ViewLinesCardSaid : Prop := Claim7.holds Tryz.pinned (.plain (OpenSpec.ofChange viewLinesSpec)) viewLinesCard

/-- THE TIED CARD OF 'samphirelaw12.ViewPaths'. -/
def viewPathsCard : Claim7 := { stood := { row := viewPathsRow, standIns := [], harness := (true, "b1b22fe6b0b667142ca234eab356f74082714ebf35031809b2153d086ec014fe"), looks := false }, kinds := [], alts := [], laidByText := true, laidKinds := [.data, .data, .data, .data, .pinned], laidTests := true, laidLooks := .later }
def ViewPathsCardSaid : Prop := Claim7.holds Tryz.pinned (.plain (OpenSpec.ofChange viewPathsSpec)) viewPathsCard

/-- THE TIED CARD OF 'samphirelaw12.ViewBack'. -/
def viewBackCard : Claim7 := { stood := { row := viewBackRow, standIns := [], harness := (true, "b1b22fe6b0b667142ca234eab356f74082714ebf35031809b2153d086ec014fe"), looks := false }, kinds := [], alts := [], laidByText := true, laidKinds := [.data, .data, .data, .data, .pinned], laidTests := true, laidLooks := .later }
def ViewBackCardSaid : Prop := Claim7.holds Tryz.pinned (.plain (OpenSpec.ofChange viewBackSpec)) viewBackCard

/-- THE TIED CARD OF 'samphirelaw12.ViewOrders'. -/
def viewOrdersCard : Claim7 := { stood := { row := viewOrdersRow, standIns := [], harness := (true, "b1b22fe6b0b667142ca234eab356f74082714ebf35031809b2153d086ec014fe"), looks := false }, kinds := [], alts := [], laidByText := true, laidKinds := [.data, .data, .data, .data, .pinned], laidTests := true, laidLooks := .later }
def ViewOrdersCardSaid : Prop := Claim7.holds Tryz.pinned (.plain (OpenSpec.ofChange viewOrdersSpec)) viewOrdersCard

/-- THE TIED CARD OF 'samphirelaw12.ViewTexts'. -/
def viewTextsCard : Claim7 := { stood := { row := viewTextsRow, standIns := [], harness := (true, "b1b22fe6b0b667142ca234eab356f74082714ebf35031809b2153d086ec014fe"), looks := false }, kinds := [], alts := [], laidByText := true, laidKinds := [.data, .data, .data, .data, .pinned], laidTests := true, laidLooks := .later }
def ViewTextsCardSaid : Prop := Claim7.holds Tryz.pinned (.plain (OpenSpec.ofChange viewTextsSpec)) viewTextsCard

/-- THE TIED CARD OF 'samphirelaw12.ViewMoves'. -/
def viewMovesCard : Claim7 := { stood := { row := viewMovesRow, standIns := [], harness := (true, "b1b22fe6b0b667142ca234eab356f74082714ebf35031809b2153d086ec014fe"), looks := false }, kinds := [], alts := [], laidByText := true, laidKinds := [.data, .data, .data, .data, .pinned], laidTests := true, laidLooks := .later }
def ViewMovesCardSaid : Prop := Claim7.holds Tryz.pinned (.plain (OpenSpec.ofChange viewMovesSpec)) viewMovesCard

/-- THE SECOND FORM's CARD OF 'samphirelaw12.ViewLines'. -/
def viewLinesUptoCard : Claim7 := { stood := { row := viewLinesUptoRow, standIns := [], harness := (true, "b1b22fe6b0b667142ca234eab356f74082714ebf35031809b2153d086ec014fe"), looks := false }, kinds := [], alts := [], laidByText := true, laidKinds := [.data, .data, .data, .data, .pinned], laidTests := true, laidLooks := .later }
def ViewLinesUptoCardSaid : Prop := Claim7.holds Tryz.pinned (.plain (OpenSpec.upto viewLinesSpec)) viewLinesUptoCard

/-- THE SECOND FORM's CARD OF 'samphirelaw12.ViewPaths'. -/
def viewPathsUptoCard : Claim7 := { stood := { row := viewPathsUptoRow, standIns := [], harness := (true, "b1b22fe6b0b667142ca234eab356f74082714ebf35031809b2153d086ec014fe"), looks := false }, kinds := [], alts := [], laidByText := true, laidKinds := [.data, .data, .data, .data, .pinned], laidTests := true, laidLooks := .later }
def ViewPathsUptoCardSaid : Prop := Claim7.holds Tryz.pinned (.plain (OpenSpec.upto viewPathsSpec)) viewPathsUptoCard

/-- THE SECOND FORM's CARD OF 'samphirelaw12.ViewBack'. -/
def viewBackUptoCard : Claim7 := { stood := { row := viewBackUptoRow, standIns := [], harness := (true, "b1b22fe6b0b667142ca234eab356f74082714ebf35031809b2153d086ec014fe"), looks := false }, kinds := [], alts := [], laidByText := true, laidKinds := [.data, .data, .data, .data, .pinned], laidTests := true, laidLooks := .later }
def ViewBackUptoCardSaid : Prop := Claim7.holds Tryz.pinned (.plain (OpenSpec.upto viewBackSpec)) viewBackUptoCard

/-- THE SECOND FORM's CARD OF 'samphirelaw12.ViewOrders'. -/
def viewOrdersUptoCard : Claim7 := { stood := { row := viewOrdersUptoRow, standIns := [], harness := (true, "b1b22fe6b0b667142ca234eab356f74082714ebf35031809b2153d086ec014fe"), looks := false }, kinds := [], alts := [], laidByText := true, laidKinds := [.data, .data, .data, .data, .pinned], laidTests := true, laidLooks := .later }
def ViewOrdersUptoCardSaid : Prop := Claim7.holds Tryz.pinned (.plain (OpenSpec.upto viewOrdersSpec)) viewOrdersUptoCard

/-- THE SECOND FORM's CARD OF 'samphirelaw12.ViewTexts'. -/
def viewTextsUptoCard : Claim7 := { stood := { row := viewTextsUptoRow, standIns := [], harness := (true, "b1b22fe6b0b667142ca234eab356f74082714ebf35031809b2153d086ec014fe"), looks := false }, kinds := [], alts := [], laidByText := true, laidKinds := [.data, .data, .data, .data, .pinned], laidTests := true, laidLooks := .later }
def ViewTextsUptoCardSaid : Prop := Claim7.holds Tryz.pinned (.plain (OpenSpec.upto viewTextsSpec)) viewTextsUptoCard

/-- THE SECOND FORM's CARD OF 'samphirelaw12.ViewMoves'. -/
def viewMovesUptoCard : Claim7 := { stood := { row := viewMovesUptoRow, standIns := [], harness := (true, "b1b22fe6b0b667142ca234eab356f74082714ebf35031809b2153d086ec014fe"), looks := false }, kinds := [], alts := [], laidByText := true, laidKinds := [.data, .data, .data, .data, .pinned], laidTests := true, laidLooks := .later }
def ViewMovesUptoCardSaid : Prop := Claim7.holds Tryz.pinned (.plain (OpenSpec.upto viewMovesSpec)) viewMovesUptoCard
end Rows
end Go.Proofs.YtebnmghjdoblaaaGreatDoor
