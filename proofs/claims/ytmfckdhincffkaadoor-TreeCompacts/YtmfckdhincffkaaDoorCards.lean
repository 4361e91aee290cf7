/-
  DERIVED. GIVEN WITH THE SEED: THE CARDS: each row of YtmfckdhincffkaaDoorRows.lean that lists a variable, with what it lists TIED to the program's text (the seventh form; the later family's looks); each row that meets fmt, with fmt's text TOLD by the authors' own Lean function (tested against real Go, not proved from fmt's source: count such statements apart). THE CARD IS WHAT COUNTS. Prove the row's statement (the work); the ties are given (YtmfckdhincffkaaDoorTie.lean); close each card by the builder's one call (the guide's Derived/Test/ToyasCard.lean, 'card_holds'). Laid BY PROGRAM, IN A SANDBOX (cutbox-door.mjs). By AI agents, Wed Nov 11 2026. No macro, syntax, notation, axiom, sorry.
-/
import Derived.Test.YtmfckdhincffkaaDoorRows
import GoSem.ClaimSeven
namespace Go.Proofs.YtmfckdhincffkaaDoor
namespace Rows

/-- THE TIED CARD OF 'samphirelaw11.TreeOrders'. -/
def treeOrdersCard : Claim7 := { stood := { row := treeOrdersRow, standIns := [], harness := (true, "aff202ceb6864a98dc1ccd73d8f491380b9cbb119db6cc45dc57eeebc7e955c9"), looks := false }, kinds := [], alts := [], laidByText := true, laidKinds := [.data, .pinned], laidTests := true, laidLooks := .later }
def TreeOrdersCardSaid : Prop := Claim7.holds Tryd.pinned (.plain (OpenSpec.ofChange treeOrdersSpec)) treeOrdersCard

/-- THE TIED CARD OF 'samphirelaw11.TreeRooted'. -/
def treeRootedCard : Claim7 := { stood := { row := treeRootedRow, standIns := [], harness := (true, "aff202ceb6864a98dc1ccd73d8f491380b9cbb119db6cc45dc57eeebc7e955c9"), looks := false }, kinds := [], alts := [], laidByText := true, laidKinds := [.data, .pinned], laidTests := true, laidLooks := .later }
def TreeRootedCardSaid : Prop := Claim7.holds Tryd.pinned (.plain (OpenSpec.ofChange treeRootedSpec)) treeRootedCard

/-- THE TIED CARD OF 'samphirelaw11.TreeCompacts'. -/
def treeCompactsCard : Claim7 := { stood := { row := treeCompactsRow, standIns := [], harness := (true, "aff202ceb6864a98dc1ccd73d8f491380b9cbb119db6cc45dc57eeebc7e955c9"), looks := false }, kinds := [], alts := [], laidByText := true, laidKinds := [.data, .pinned], laidTests := true, laidLooks := .later }
def TreeCompactsCardSaid : Prop := Claim7.holds Tryd.pinned (.plain (OpenSpec.ofChange treeCompactsSpec)) treeCompactsCard

/-- THE TIED CARD OF 'samphirelaw11.TreeFull'. -/
def treeFullCard : Claim7 := { stood := { row := treeFullRow, standIns := [], harness := (true, "aff202ceb6864a98dc1ccd73d8f491380b9cbb119db6cc45dc57eeebc7e955c9"), looks := false }, kinds := [], alts := [], laidByText := true, laidKinds := [.data, .pinned], laidTests := true, laidLooks := .later }
def TreeFullCardSaid : Prop := Claim7.holds Tryd.pinned (.plain (OpenSpec.ofChange treeFullSpec)) treeFullCard

/-- THE SECOND FORM's CARD OF 'samphirelaw11.TreeOrders'. -/
def treeOrdersUptoCard : Claim7 := { stood := { row := treeOrdersUptoRow, standIns := [], harness := (true, "aff202ceb6864a98dc1ccd73d8f491380b9cbb119db6cc45dc57eeebc7e955c9"), looks := false }, kinds := [], alts := [], laidByText := true, laidKinds := [.data, .pinned], laidTests := true, laidLooks := .later }
def TreeOrdersUptoCardSaid : Prop := Claim7.holds Tryd.pinned (.plain (OpenSpec.upto treeOrdersSpec)) treeOrdersUptoCard

/-- THE SECOND FORM's CARD OF 'samphirelaw11.TreeRooted'. -/
def treeRootedUptoCard : Claim7 := { stood := { row := treeRootedUptoRow, standIns := [], harness := (true, "aff202ceb6864a98dc1ccd73d8f491380b9cbb119db6cc45dc57eeebc7e955c9"), looks := false }, kinds := [], alts := [], laidByText := true, laidKinds := [.data, .pinned], laidTests := true, laidLooks := .later }
def TreeRootedUptoCardSaid : Prop := Claim7.holds Tryd.pinned (.plain (OpenSpec.upto treeRootedSpec)) treeRootedUptoCard

/-- THE SECOND FORM's CARD OF 'samphirelaw11.TreeCompacts'. -/
def treeCompactsUptoCard : Claim7 := { stood := { row := treeCompactsUptoRow, standIns := [], harness := (true, "aff202ceb6864a98dc1ccd73d8f491380b9cbb119db6cc45dc57eeebc7e955c9"), looks := false }, kinds := [], alts := [], laidByText := true, laidKinds := [.data, .pinned], laidTests := true, laidLooks := .later }
def TreeCompactsUptoCardSaid : Prop := Claim7.holds Tryd.pinned (.plain (OpenSpec.upto treeCompactsSpec)) treeCompactsUptoCard

/-- THE SECOND FORM's CARD OF 'samphirelaw11.TreeFull'. -/
def treeFullUptoCard : Claim7 := { stood := { row := treeFullUptoRow, standIns := [], harness := (true, "aff202ceb6864a98dc1ccd73d8f491380b9cbb119db6cc45dc57eeebc7e955c9"), looks := false }, kinds := [], alts := [], laidByText := true, laidKinds := [.data, .pinned], laidTests := true, laidLooks := .later }
def TreeFullUptoCardSaid : Prop := Claim7.holds Tryd.pinned (.plain (OpenSpec.upto treeFullSpec)) treeFullUptoCard
end Rows
end Go.Proofs.YtmfckdhincffkaaDoor
