/-
  DERIVED. GIVEN WITH THE SEED: THE CARDS: each row of YtfajkkjppelgcaaDoorRows.lean that lists a variable, with what it lists TIED to the program's text (the seventh form; the later family's looks); each row that meets fmt, with fmt's text TOLD by the authors' own Lean function (tested against real Go, not proved from fmt's source: count such statements apart). THE CARD IS WHAT COUNTS. Prove the row's statement (the work); the ties are given (YtfajkkjppelgcaaDoorTie.lean); close each card by the builder's one call (the guide's Derived/Test/ToyasCard.lean, 'card_holds'). Laid BY PROGRAM, IN A SANDBOX (cutbox-door.mjs). By AI agents, Wed Nov 11 2026. No macro, syntax, notation, axiom, sorry.
-/
import Derived.Test.YtfajkkjppelgcaaDoorRows
import GoSem.ClaimSeven
namespace Go.Proofs.YtfajkkjppelgcaaDoor
namespace Rows

/-- THE TIED CARD OF 'samphirelaw16.VaultBack'. -/
def vaultBackCard : Claim7 := { stood := { row := vaultBackRow, standIns := [], harness := (true, "4f0808abed2ad757fafd34dd3ee861895d99ad79933b0e80d4c756e2aaae895e"), looks := true }, kinds := [], alts := [], laidByText := true, laidKinds := [.data, .data], laidTests := true, laidLooks := .later }
def VaultBackCardSaid : Prop := Claim7.holds Tryd.pinned (.plain (OpenSpec.ofChange vaultBackSpec)) vaultBackCard

/-- THE TIED CARD OF 'samphirelaw16.VaultDraws'. -/
def vaultDrawsCard : Claim7 := { stood := { row := vaultDrawsRow, standIns := [], harness := (true, "4f0808abed2ad757fafd34dd3ee861895d99ad79933b0e80d4c756e2aaae895e"), looks := true }, kinds := [], alts := [], laidByText := true, laidKinds := [.data, .data], laidTests := true, laidLooks := .later }
def VaultDrawsCardSaid : Prop := Claim7.holds Tryd.pinned (.plain (OpenSpec.ofChange vaultDrawsSpec)) vaultDrawsCard

/-- THE TIED CARD OF 'samphirelaw16.VaultNobody'. -/
def vaultNobodyCard : Claim7 := { stood := { row := vaultNobodyRow, standIns := [], harness := (true, "4f0808abed2ad757fafd34dd3ee861895d99ad79933b0e80d4c756e2aaae895e"), looks := true }, kinds := [], alts := [], laidByText := true, laidKinds := [.data, .data], laidTests := true, laidLooks := .later }
def VaultNobodyCardSaid : Prop := Claim7.holds Tryd.pinned (.plain (OpenSpec.ofChange vaultNobodySpec)) vaultNobodyCard

/-- THE SECOND FORM's CARD OF 'samphirelaw16.VaultBack'. -/
def vaultBackUptoCard : Claim7 := { stood := { row := vaultBackUptoRow, standIns := [], harness := (true, "4f0808abed2ad757fafd34dd3ee861895d99ad79933b0e80d4c756e2aaae895e"), looks := true }, kinds := [], alts := [], laidByText := true, laidKinds := [.data, .data], laidTests := true, laidLooks := .later }
def VaultBackUptoCardSaid : Prop := Claim7.holds Tryd.pinned (.plain (OpenSpec.upto vaultBackSpec)) vaultBackUptoCard

/-- THE SECOND FORM's CARD OF 'samphirelaw16.VaultDraws'. -/
def vaultDrawsUptoCard : Claim7 := { stood := { row := vaultDrawsUptoRow, standIns := [], harness := (true, "4f0808abed2ad757fafd34dd3ee861895d99ad79933b0e80d4c756e2aaae895e"), looks := true }, kinds := [], alts := [], laidByText := true, laidKinds := [.data, .data], laidTests := true, laidLooks := .later }
def VaultDrawsUptoCardSaid : Prop := Claim7.holds Tryd.pinned (.plain (OpenSpec.upto vaultDrawsSpec)) vaultDrawsUptoCard

/-- THE SECOND FORM's CARD OF 'samphirelaw16.VaultNobody'. -/
def vaultNobodyUptoCard : Claim7 := { stood := { row := vaultNobodyUptoRow, standIns := [], harness := (true, "4f0808abed2ad757fafd34dd3ee861895d99ad79933b0e80d4c756e2aaae895e"), looks := true }, kinds := [], alts := [], laidByText := true, laidKinds := [.data, .data], laidTests := true, laidLooks := .later }
def VaultNobodyUptoCardSaid : Prop := Claim7.holds Tryd.pinned (.plain (OpenSpec.upto vaultNobodySpec)) vaultNobodyUptoCard
end Rows
end Go.Proofs.YtfajkkjppelgcaaDoor
