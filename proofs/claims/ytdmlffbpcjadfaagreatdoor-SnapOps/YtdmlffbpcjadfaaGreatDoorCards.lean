/-
  DERIVED. GIVEN WITH THE SEED: THE CARDS: each row of YtdmlffbpcjadfaaGreatDoorRows.lean that lists a variable, with what it lists TIED to the program's text (the seventh form; the later family's looks); each row that meets fmt, with fmt's text TOLD by the authors' own Lean function (tested against real Go, not proved from fmt's source: count such statements apart). THE CARD IS WHAT COUNTS. Prove the row's statement (the work); the ties are given (YtdmlffbpcjadfaaGreatDoorTie.lean); close each card by the builder's one call (the guide's Derived/Test/ToyasCard.lean, 'card_holds'). Laid BY PROGRAM, IN A SANDBOX (cutbox-door.mjs). By AI agents, Wed Nov 11 2026. No macro, syntax, notation, axiom, sorry.
-/
import Derived.Test.YtdmlffbpcjadfaaGreatDoorRows
import GoSem.ClaimSeven
namespace Go.Proofs.YtdmlffbpcjadfaaGreatDoor
namespace Rows

/-- THE TIED CARD OF 'samphirelaw13.SnapOps'. -/
def snapOpsCard : Claim7 := { stood := { row := snapOpsRow, standIns := [], harness := (true, "eaaf66675d1231879d3d26820eaae68061fe3da946818a4398d3fde6a46e3e6c"), looks := false }, kinds := [], alts := [], laidByText := true, laidKinds := [.data, .pinned], laidTests := true, laidLooks := .later }
def SnapOpsCardSaid : Prop := Claim7.holds Tryz.pinned (.plain (OpenSpec.ofChange snapOpsSpec)) snapOpsCard

/-- THE TIED CARD OF 'samphirelaw13.SnapPuts'. -/
def snapPutsCard : Claim7 := { stood := { row := snapPutsRow, standIns := [], harness := (true, "eaaf66675d1231879d3d26820eaae68061fe3da946818a4398d3fde6a46e3e6c"), looks := false }, kinds := [], alts := [], laidByText := true, laidKinds := [.data, .pinned], laidTests := true, laidLooks := .later }
def SnapPutsCardSaid : Prop := Claim7.holds Tryz.pinned (.plain (OpenSpec.ofChange snapPutsSpec)) snapPutsCard

/-- THE TIED CARD OF 'samphirelaw13.SnapTakes'. -/
def snapTakesCard : Claim7 := { stood := { row := snapTakesRow, standIns := [], harness := (true, "eaaf66675d1231879d3d26820eaae68061fe3da946818a4398d3fde6a46e3e6c"), looks := false }, kinds := [], alts := [], laidByText := true, laidKinds := [.data, .pinned], laidTests := true, laidLooks := .later }
def SnapTakesCardSaid : Prop := Claim7.holds Tryz.pinned (.plain (OpenSpec.ofChange snapTakesSpec)) snapTakesCard

/-- THE SECOND FORM's CARD OF 'samphirelaw13.SnapOps'. -/
def snapOpsUptoCard : Claim7 := { stood := { row := snapOpsUptoRow, standIns := [], harness := (true, "eaaf66675d1231879d3d26820eaae68061fe3da946818a4398d3fde6a46e3e6c"), looks := false }, kinds := [], alts := [], laidByText := true, laidKinds := [.data, .pinned], laidTests := true, laidLooks := .later }
def SnapOpsUptoCardSaid : Prop := Claim7.holds Tryz.pinned (.plain (OpenSpec.upto snapOpsSpec)) snapOpsUptoCard

/-- THE SECOND FORM's CARD OF 'samphirelaw13.SnapPuts'. -/
def snapPutsUptoCard : Claim7 := { stood := { row := snapPutsUptoRow, standIns := [], harness := (true, "eaaf66675d1231879d3d26820eaae68061fe3da946818a4398d3fde6a46e3e6c"), looks := false }, kinds := [], alts := [], laidByText := true, laidKinds := [.data, .pinned], laidTests := true, laidLooks := .later }
def SnapPutsUptoCardSaid : Prop := Claim7.holds Tryz.pinned (.plain (OpenSpec.upto snapPutsSpec)) snapPutsUptoCard

/-- THE SECOND FORM's CARD OF 'samphirelaw13.SnapTakes'. -/
def snapTakesUptoCard : Claim7 := { stood := { row := snapTakesUptoRow, standIns := [], harness := (true, "eaaf66675d1231879d3d26820eaae68061fe3da946818a4398d3fde6a46e3e6c"), looks := false }, kinds := [], alts := [], laidByText := true, laidKinds := [.data, .pinned], laidTests := true, laidLooks := .later }
def SnapTakesUptoCardSaid : Prop := Claim7.holds Tryz.pinned (.plain (OpenSpec.upto snapTakesSpec)) snapTakesUptoCard
end Rows
end Go.Proofs.YtdmlffbpcjadfaaGreatDoor
