/-
  DERIVED. GIVEN WITH THE SEED: THE CARDS: each row of YtdmlffbpcjadfaaDoorRows.lean that lists a variable, with what it lists TIED to the program's text (the seventh form; the later family's looks); each row that meets fmt, with fmt's text TOLD by the authors' own Lean function (tested against real Go, not proved from fmt's source: count such statements apart). THE CARD IS WHAT COUNTS. Prove the row's statement (the work); the ties are given (YtdmlffbpcjadfaaDoorTie.lean); close each card by the builder's one call (the guide's Derived/Test/ToyasCard.lean, 'card_holds'). Laid BY PROGRAM, IN A SANDBOX (cutbox-door.mjs). By AI agents, Wed Nov 11 2026. No macro, syntax, notation, axiom, sorry.
-/
import Derived.Test.YtdmlffbpcjadfaaDoorRows
import GoSem.ClaimSeven
namespace Go.Proofs.YtdmlffbpcjadfaaDoor
namespace Rows

/-- THE TIED CARD OF 'samphirelaw13.SnapTrees'. -/
def snapTreesCard : Claim7 := { stood := { row := snapTreesRow, standIns := [], harness := (true, "aac0d15ed5226e88e9a2743ffe72c2ce604548d7a6fcf3b769ed1b8dc0078bef"), looks := false }, kinds := [], alts := [], laidByText := true, laidKinds := [.data, .pinned], laidTests := true, laidLooks := .later }
def SnapTreesCardSaid : Prop := Claim7.holds Tryd.pinned (.plain (OpenSpec.ofChange snapTreesSpec)) snapTreesCard

/-- THE TIED CARD OF 'samphirelaw13.SnapCuts'. -/
def snapCutsCard : Claim7 := { stood := { row := snapCutsRow, standIns := [], harness := (true, "aac0d15ed5226e88e9a2743ffe72c2ce604548d7a6fcf3b769ed1b8dc0078bef"), looks := false }, kinds := [], alts := [], laidByText := true, laidKinds := [.data, .pinned], laidTests := true, laidLooks := .later }
def SnapCutsCardSaid : Prop := Claim7.holds Tryd.pinned (.plain (OpenSpec.ofChange snapCutsSpec)) snapCutsCard

/-- THE SECOND FORM's CARD OF 'samphirelaw13.SnapTrees'. -/
def snapTreesUptoCard : Claim7 := { stood := { row := snapTreesUptoRow, standIns := [], harness := (true, "aac0d15ed5226e88e9a2743ffe72c2ce604548d7a6fcf3b769ed1b8dc0078bef"), looks := false }, kinds := [], alts := [], laidByText := true, laidKinds := [.data, .pinned], laidTests := true, laidLooks := .later }
def SnapTreesUptoCardSaid : Prop := Claim7.holds Tryd.pinned (.plain (OpenSpec.upto snapTreesSpec)) snapTreesUptoCard

/-- THE SECOND FORM's CARD OF 'samphirelaw13.SnapCuts'. -/
def snapCutsUptoCard : Claim7 := { stood := { row := snapCutsUptoRow, standIns := [], harness := (true, "aac0d15ed5226e88e9a2743ffe72c2ce604548d7a6fcf3b769ed1b8dc0078bef"), looks := false }, kinds := [], alts := [], laidByText := true, laidKinds := [.data, .pinned], laidTests := true, laidLooks := .later }
def SnapCutsUptoCardSaid : Prop := Claim7.holds Tryd.pinned (.plain (OpenSpec.upto snapCutsSpec)) snapCutsUptoCard
end Rows
end Go.Proofs.YtdmlffbpcjadfaaDoor
