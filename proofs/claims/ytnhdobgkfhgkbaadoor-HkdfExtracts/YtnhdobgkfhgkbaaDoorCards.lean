/-
  DERIVED. GIVEN WITH THE SEED: THE CARDS: each row of YtnhdobgkfhgkbaaDoorRows.lean that lists a variable, with what it lists TIED to the program's text (the seventh form; the later family's looks); each row that meets fmt, with fmt's text TOLD by the authors' own Lean function (tested against real Go, not proved from fmt's source: count such statements apart). THE CARD IS WHAT COUNTS. Prove the row's statement (the work); the ties are given (YtnhdobgkfhgkbaaDoorTie.lean); close each card by the builder's one call (the guide's Derived/Test/ToyasCard.lean, 'card_holds'). Laid BY PROGRAM, IN A SANDBOX (cutbox-door.mjs). By AI agents, Wed Nov 11 2026. No macro, syntax, notation, axiom, sorry.
-/
import Derived.Test.YtnhdobgkfhgkbaaDoorRows
import GoSem.ClaimSeven
namespace Go.Proofs.YtnhdobgkfhgkbaaDoor
namespace Rows

/-- THE TIED CARD OF 'samphirelaw04.HkdfExpands'. -/
def hkdfExpandsCard : Claim7 := { stood := { row := hkdfExpandsRow, standIns := [], harness := (true, "3a7064632b4622bae56c7184b004955c2e54b3ca29d90188ba66eb42acba7edb"), looks := false }, kinds := [], alts := [], laidByText := true, laidKinds := [.data, .data], laidTests := true, laidLooks := .later }
def HkdfExpandsCardSaid : Prop := Claim7.holds Tryd.pinned (.plain (OpenSpec.ofChange hkdfExpandsSpec)) hkdfExpandsCard

/-- THE TIED CARD OF 'samphirelaw04.HkdfExtracts'. -/
def hkdfExtractsCard : Claim7 := { stood := { row := hkdfExtractsRow, standIns := [], harness := (true, "3a7064632b4622bae56c7184b004955c2e54b3ca29d90188ba66eb42acba7edb"), looks := false }, kinds := [], alts := [], laidByText := true, laidKinds := [.data, .data], laidTests := true, laidLooks := .later }
def HkdfExtractsCardSaid : Prop := Claim7.holds Tryd.pinned (.plain (OpenSpec.ofChange hkdfExtractsSpec)) hkdfExtractsCard

/-- THE TIED CARD OF 'samphirelaw04.HkdfDerives'. -/
def hkdfDerivesCard : Claim7 := { stood := { row := hkdfDerivesRow, standIns := [], harness := (true, "3a7064632b4622bae56c7184b004955c2e54b3ca29d90188ba66eb42acba7edb"), looks := false }, kinds := [], alts := [], laidByText := true, laidKinds := [.data, .data], laidTests := true, laidLooks := .later }
def HkdfDerivesCardSaid : Prop := Claim7.holds Tryd.pinned (.plain (OpenSpec.ofChange hkdfDerivesSpec)) hkdfDerivesCard

/-- THE TIED CARD OF 'samphirelaw04.HkdfChains'. -/
def hkdfChainsCard : Claim7 := { stood := { row := hkdfChainsRow, standIns := [], harness := (true, "3a7064632b4622bae56c7184b004955c2e54b3ca29d90188ba66eb42acba7edb"), looks := false }, kinds := [], alts := [], laidByText := true, laidKinds := [.data, .data], laidTests := true, laidLooks := .later }
def HkdfChainsCardSaid : Prop := Claim7.holds Tryd.pinned (.plain (OpenSpec.ofChange hkdfChainsSpec)) hkdfChainsCard

/-- THE TIED CARD OF 'samphirelaw04.HkdfMost'. -/
def hkdfMostCard : Claim7 := { stood := { row := hkdfMostRow, standIns := [], harness := (true, "3a7064632b4622bae56c7184b004955c2e54b3ca29d90188ba66eb42acba7edb"), looks := false }, kinds := [], alts := [], laidByText := true, laidKinds := [.data, .data], laidTests := true, laidLooks := .later }
def HkdfMostCardSaid : Prop := Claim7.holds Tryd.pinned (.plain (OpenSpec.ofChange hkdfMostSpec)) hkdfMostCard

/-- THE SECOND FORM's CARD OF 'samphirelaw04.HkdfExpands'. -/
def hkdfExpandsUptoCard : Claim7 := { stood := { row := hkdfExpandsUptoRow, standIns := [], harness := (true, "3a7064632b4622bae56c7184b004955c2e54b3ca29d90188ba66eb42acba7edb"), looks := false }, kinds := [], alts := [], laidByText := true, laidKinds := [.data, .data], laidTests := true, laidLooks := .later }
def HkdfExpandsUptoCardSaid : Prop := Claim7.holds Tryd.pinned (.plain (OpenSpec.upto hkdfExpandsSpec)) hkdfExpandsUptoCard

/-- THE SECOND FORM's CARD OF 'samphirelaw04.HkdfExtracts'. -/
def hkdfExtractsUptoCard : Claim7 := { stood := { row := hkdfExtractsUptoRow, standIns := [], harness := (true, "3a7064632b4622bae56c7184b004955c2e54b3ca29d90188ba66eb42acba7edb"), looks := false }, kinds := [], alts := [], laidByText := true, laidKinds := [.data, .data], laidTests := true, laidLooks := .later }
def HkdfExtractsUptoCardSaid : Prop := Claim7.holds Tryd.pinned (.plain (OpenSpec.upto hkdfExtractsSpec)) hkdfExtractsUptoCard

/-- THE SECOND FORM's CARD OF 'samphirelaw04.HkdfDerives'. -/
def hkdfDerivesUptoCard : Claim7 := { stood := { row := hkdfDerivesUptoRow, standIns := [], harness := (true, "3a7064632b4622bae56c7184b004955c2e54b3ca29d90188ba66eb42acba7edb"), looks := false }, kinds := [], alts := [], laidByText := true, laidKinds := [.data, .data], laidTests := true, laidLooks := .later }
def HkdfDerivesUptoCardSaid : Prop := Claim7.holds Tryd.pinned (.plain (OpenSpec.upto hkdfDerivesSpec)) hkdfDerivesUptoCard

/-- THE SECOND FORM's CARD OF 'samphirelaw04.HkdfChains'. -/
def hkdfChainsUptoCard : Claim7 := { stood := { row := hkdfChainsUptoRow, standIns := [], harness := (true, "3a7064632b4622bae56c7184b004955c2e54b3ca29d90188ba66eb42acba7edb"), looks := false }, kinds := [], alts := [], laidByText := true, laidKinds := [.data, .data], laidTests := true, laidLooks := .later }
def HkdfChainsUptoCardSaid : Prop := Claim7.holds Tryd.pinned (.plain (OpenSpec.upto hkdfChainsSpec)) hkdfChainsUptoCard

/-- THE SECOND FORM's CARD OF 'samphirelaw04.HkdfMost'. -/
def hkdfMostUptoCard : Claim7 := { stood := { row := hkdfMostUptoRow, standIns := [], harness := (true, "3a7064632b4622bae56c7184b004955c2e54b3ca29d90188ba66eb42acba7edb"), looks := false }, kinds := [], alts := [], laidByText := true, laidKinds := [.data, .data], laidTests := true, laidLooks := .later }
def HkdfMostUptoCardSaid : Prop := Claim7.holds Tryd.pinned (.plain (OpenSpec.upto hkdfMostSpec)) hkdfMostUptoCard
end Rows
end Go.Proofs.YtnhdobgkfhgkbaaDoor
