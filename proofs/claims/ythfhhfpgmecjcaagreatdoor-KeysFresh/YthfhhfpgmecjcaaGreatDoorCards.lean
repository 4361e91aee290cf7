/-
  DERIVED. GIVEN WITH THE SEED: THE CARDS: each row of YthfhhfpgmecjcaaGreatDoorRows.lean that lists a variable, with what it lists TIED to the program's text (the seventh form; the later family's looks); each row that meets fmt, with fmt's text TOLD by the authors' own Lean function (tested against real Go, not proved from fmt's source: count such statements apart). THE CARD IS WHAT COUNTS. Prove the row's statement (the work); the ties are given (YthfhhfpgmecjcaaGreatDoorTie.lean); close each card by the builder's one call (the guide's Derived/Test/ToyasCard.lean, 'card_holds'). Laid BY PROGRAM, IN A SANDBOX (cutbox-door.mjs). By AI agents, Wed Nov 11 2026. No macro, syntax, notation, axiom, sorry.
-/
import Derived.Test.YthfhhfpgmecjcaaGreatDoorRows
import GoSem.ClaimSeven
namespace Go.Proofs.YthfhhfpgmecjcaaGreatDoor
namespace Rows

/-- THE TIED CARD OF 'samphirelaw15.KeysSend'. -/
def keysSendCard : Claim7 := { stood := { row := keysSendRow, standIns := [], harness := (true, "0453e48964e506a964507527dbdba30fa995040a0455dbee701e4cd08ba57946"), looks := false }, kinds := [], alts := [], laidByText := true, laidKinds := [.data, .data, .data, .data], laidTests := true, laidLooks := .later }
def KeysSendCardSaid : Prop := Claim7.holds Tryz.pinned (.plain (OpenSpec.ofChange keysSendSpec)) keysSendCard

/-- THE TIED CARD OF 'samphirelaw15.KeysWraps'. -/
def keysWrapsCard : Claim7 := { stood := { row := keysWrapsRow, standIns := [], harness := (true, "0453e48964e506a964507527dbdba30fa995040a0455dbee701e4cd08ba57946"), looks := false }, kinds := [], alts := [], laidByText := true, laidKinds := [.data, .data, .data, .data], laidTests := true, laidLooks := .later }
def KeysWrapsCardSaid : Prop := Claim7.holds Tryz.pinned (.plain (OpenSpec.ofChange keysWrapsSpec)) keysWrapsCard

/-- THE TIED CARD OF 'samphirelaw15.KeysUnwraps'. -/
def keysUnwrapsCard : Claim7 := { stood := { row := keysUnwrapsRow, standIns := [], harness := (true, "0453e48964e506a964507527dbdba30fa995040a0455dbee701e4cd08ba57946"), looks := false }, kinds := [], alts := [], laidByText := true, laidKinds := [.data, .data, .data, .data], laidTests := true, laidLooks := .later }
def KeysUnwrapsCardSaid : Prop := Claim7.holds Tryz.pinned (.plain (OpenSpec.ofChange keysUnwrapsSpec)) keysUnwrapsCard

/-- THE TIED CARD OF 'samphirelaw15.KeysFresh'. -/
def keysFreshCard : Claim7 := { stood := { row := keysFreshRow, standIns := [], harness := (true, "0453e48964e506a964507527dbdba30fa995040a0455dbee701e4cd08ba57946"), looks := false }, kinds := [], alts := [], laidByText := true, laidKinds := [.data, .data, .data, .data], laidTests := true, laidLooks := .later }
def KeysFreshCardSaid : Prop := Claim7.holds Tryz.pinned (.plain (OpenSpec.ofChange keysFreshSpec)) keysFreshCard

/-- THE SECOND FORM's CARD OF 'samphirelaw15.KeysSend'. -/
def keysSendUptoCard : Claim7 := { stood := { row := keysSendUptoRow, standIns := [], harness := (true, "0453e48964e506a964507527dbdba30fa995040a0455dbee701e4cd08ba57946"), looks := false }, kinds := [], alts := [], laidByText := true, laidKinds := [.data, .data, .data, .data], laidTests := true, laidLooks := .later }
def KeysSendUptoCardSaid : Prop := Claim7.holds Tryz.pinned (.plain (OpenSpec.upto keysSendSpec)) keysSendUptoCard

/-- THE SECOND FORM's CARD OF 'samphirelaw15.KeysWraps'. -/
def keysWrapsUptoCard : Claim7 := { stood := { row := keysWrapsUptoRow, standIns := [], harness := (true, "0453e48964e506a964507527dbdba30fa995040a0455dbee701e4cd08ba57946"), looks := false }, kinds := [], alts := [], laidByText := true, laidKinds := [.data, .data, .data, .data], laidTests := true, laidLooks := .later }
def KeysWrapsUptoCardSaid : Prop := Claim7.holds Tryz.pinned (.plain (OpenSpec.upto keysWrapsSpec)) keysWrapsUptoCard

/-- THE SECOND FORM's CARD OF 'samphirelaw15.KeysUnwraps'. -/
def keysUnwrapsUptoCard : Claim7 := { stood := { row := keysUnwrapsUptoRow, standIns := [], harness := (true, "0453e48964e506a964507527dbdba30fa995040a0455dbee701e4cd08ba57946"), looks := false }, kinds := [], alts := [], laidByText := true, laidKinds := [.data, .data, .data, .data], laidTests := true, laidLooks := .later }
def KeysUnwrapsUptoCardSaid : Prop := Claim7.holds Tryz.pinned (.plain (OpenSpec.upto keysUnwrapsSpec)) keysUnwrapsUptoCard

/-- THE SECOND FORM's CARD OF 'samphirelaw15.KeysFresh'. -/
def keysFreshUptoCard : Claim7 := { stood := { row := keysFreshUptoRow, standIns := [], harness := (true, "0453e48964e506a964507527dbdba30fa995040a0455dbee701e4cd08ba57946"), looks := false }, kinds := [], alts := [], laidByText := true, laidKinds := [.data, .data, .data, .data], laidTests := true, laidLooks := .later }
def KeysFreshUptoCardSaid : Prop := Claim7.holds Tryz.pinned (.plain (OpenSpec.upto keysFreshSpec)) keysFreshUptoCard
end Rows
end Go.Proofs.YthfhhfpgmecjcaaGreatDoor
