/-
  DERIVED. GIVEN WITH THE SEED: THE CARDS: each row of YtmfckdhincffkabDoorRows.lean that lists a variable, with what it lists TIED to the program's text (the seventh form; the later family's looks); each row that meets fmt, with fmt's text TOLD by the authors' own Lean function (tested against real Go, not proved from fmt's source: count such statements apart). THE CARD IS WHAT COUNTS. Prove the row's statement (the work); the ties are given (YtmfckdhincffkabDoorTie.lean); close each card by the builder's one call (the guide's Derived/Test/ToyasCard.lean, 'card_holds'). Laid BY PROGRAM, IN A SANDBOX (cutbox-door.mjs). By AI agents, Wed Nov 11 2026. No macro, syntax, notation, axiom, sorry.
-/
import Derived.Test.YtmfckdhincffkabDoorRows
import GoSem.ClaimSeven
namespace Go.Proofs.YtmfckdhincffkabDoor
namespace Rows

/-- THE TIED CARD OF 'samphirelaw11.TreeNobody'. -/
def treeNobodyCard : Claim7 := { stood := { row := treeNobodyRow, standIns := [], harness := (true, "8e6cebc813b538e3feaae60f7b1d28f489b3417817374b02cffe1846cffd423b"), looks := false }, kinds := [], alts := [], laidByText := true, laidKinds := [.data, .pinned], laidTests := true, laidLooks := .later }
def TreeNobodyCardSaid : Prop := Claim7.holds Tryd.pinned (.plain (OpenSpec.ofChange treeNobodySpec)) treeNobodyCard

/-- THE TIED CARD OF 'samphirelaw11.TreeLast'. -/
def treeLastCard : Claim7 := { stood := { row := treeLastRow, standIns := [], harness := (true, "8e6cebc813b538e3feaae60f7b1d28f489b3417817374b02cffe1846cffd423b"), looks := false }, kinds := [], alts := [], laidByText := true, laidKinds := [.data, .pinned], laidTests := true, laidLooks := .later }
def TreeLastCardSaid : Prop := Claim7.holds Tryd.pinned (.plain (OpenSpec.ofChange treeLastSpec)) treeLastCard

/-- THE TIED CARD OF 'samphirelaw11.TreeTrash'. -/
def treeTrashCard : Claim7 := { stood := { row := treeTrashRow, standIns := [], harness := (true, "8e6cebc813b538e3feaae60f7b1d28f489b3417817374b02cffe1846cffd423b"), looks := false }, kinds := [], alts := [], laidByText := true, laidKinds := [.data, .pinned], laidTests := true, laidLooks := .later }
def TreeTrashCardSaid : Prop := Claim7.holds Tryd.pinned (.plain (OpenSpec.ofChange treeTrashSpec)) treeTrashCard

/-- THE SECOND FORM's CARD OF 'samphirelaw11.TreeNobody'. -/
def treeNobodyUptoCard : Claim7 := { stood := { row := treeNobodyUptoRow, standIns := [], harness := (true, "8e6cebc813b538e3feaae60f7b1d28f489b3417817374b02cffe1846cffd423b"), looks := false }, kinds := [], alts := [], laidByText := true, laidKinds := [.data, .pinned], laidTests := true, laidLooks := .later }
def TreeNobodyUptoCardSaid : Prop := Claim7.holds Tryd.pinned (.plain (OpenSpec.upto treeNobodySpec)) treeNobodyUptoCard

/-- THE SECOND FORM's CARD OF 'samphirelaw11.TreeLast'. -/
def treeLastUptoCard : Claim7 := { stood := { row := treeLastUptoRow, standIns := [], harness := (true, "8e6cebc813b538e3feaae60f7b1d28f489b3417817374b02cffe1846cffd423b"), looks := false }, kinds := [], alts := [], laidByText := true, laidKinds := [.data, .pinned], laidTests := true, laidLooks := .later }
def TreeLastUptoCardSaid : Prop := Claim7.holds Tryd.pinned (.plain (OpenSpec.upto treeLastSpec)) treeLastUptoCard

/-- THE SECOND FORM's CARD OF 'samphirelaw11.TreeTrash'. -/
def treeTrashUptoCard : Claim7 := { stood := { row := treeTrashUptoRow, standIns := [], harness := (true, "8e6cebc813b538e3feaae60f7b1d28f489b3417817374b02cffe1846cffd423b"), looks := false }, kinds := [], alts := [], laidByText := true, laidKinds := [.data, .pinned], laidTests := true, laidLooks := .later }
def TreeTrashUptoCardSaid : Prop := Claim7.holds Tryd.pinned (.plain (OpenSpec.upto treeTrashSpec)) treeTrashUptoCard
end Rows
end Go.Proofs.YtmfckdhincffkabDoor
