/-
  DERIVED. GIVEN WITH THE SEED: THE CARDS: each row of YtjjafkjjehphjaaDoorRows.lean that lists a variable, with what it lists TIED to the program's text (the seventh form; the later family's looks); each row that meets fmt, with fmt's text TOLD by the authors' own Lean function (tested against real Go, not proved from fmt's source: count such statements apart). THE CARD IS WHAT COUNTS. Prove the row's statement (the work); the ties are given (YtjjafkjjehphjaaDoorTie.lean); close each card by the builder's one call (the guide's Derived/Test/ToyasCard.lean, 'card_holds'). Laid BY PROGRAM, IN A SANDBOX (cutbox-door.mjs). By AI agents, Wed Nov 11 2026. No macro, syntax, notation, axiom, sorry.
-/
import Derived.Test.YtjjafkjjehphjaaDoorRows
import GoSem.ClaimSeven
namespace Go.Proofs.YtjjafkjjehphjaaDoor
namespace Rows

/-- THE TIED CARD OF 'samphirelaw07.AeadSeals'. -/
def aeadSealsCard : Claim7 := { stood := { row := aeadSealsRow, standIns := [], harness := (true, "eee6915977f27066812f2ef51b34327736277cbb919c1ed80074e505f6d4e8ab"), looks := false }, kinds := [], alts := [], laidByText := true, laidKinds := [.data, .data], laidTests := true, laidLooks := .later }
def AeadSealsCardSaid : Prop := Claim7.holds Tryd.pinned (.plain (OpenSpec.ofChange aeadSealsSpec)) aeadSealsCard

/-- THE TIED CARD OF 'samphirelaw07.AeadOpens'. -/
def aeadOpensCard : Claim7 := { stood := { row := aeadOpensRow, standIns := [], harness := (true, "eee6915977f27066812f2ef51b34327736277cbb919c1ed80074e505f6d4e8ab"), looks := false }, kinds := [], alts := [], laidByText := true, laidKinds := [.data, .data], laidTests := true, laidLooks := .later }
def AeadOpensCardSaid : Prop := Claim7.holds Tryd.pinned (.plain (OpenSpec.ofChange aeadOpensSpec)) aeadOpensCard

/-- THE TIED CARD OF 'samphirelaw07.AeadBack'. -/
def aeadBackCard : Claim7 := { stood := { row := aeadBackRow, standIns := [], harness := (true, "eee6915977f27066812f2ef51b34327736277cbb919c1ed80074e505f6d4e8ab"), looks := false }, kinds := [], alts := [], laidByText := true, laidKinds := [.data, .data], laidTests := true, laidLooks := .later }
def AeadBackCardSaid : Prop := Claim7.holds Tryd.pinned (.plain (OpenSpec.ofChange aeadBackSpec)) aeadBackCard

/-- THE TIED CARD OF 'samphirelaw07.AeadTag'. -/
def aeadTagCard : Claim7 := { stood := { row := aeadTagRow, standIns := [], harness := (true, "eee6915977f27066812f2ef51b34327736277cbb919c1ed80074e505f6d4e8ab"), looks := false }, kinds := [], alts := [], laidByText := true, laidKinds := [.data, .data], laidTests := true, laidLooks := .later }
def AeadTagCardSaid : Prop := Claim7.holds Tryd.pinned (.plain (OpenSpec.ofChange aeadTagSpec)) aeadTagCard

/-- THE TIED CARD OF 'samphirelaw07.AeadMost'. -/
def aeadMostCard : Claim7 := { stood := { row := aeadMostRow, standIns := [], harness := (true, "eee6915977f27066812f2ef51b34327736277cbb919c1ed80074e505f6d4e8ab"), looks := false }, kinds := [], alts := [], laidByText := true, laidKinds := [.data, .data], laidTests := true, laidLooks := .later }
def AeadMostCardSaid : Prop := Claim7.holds Tryd.pinned (.plain (OpenSpec.ofChange aeadMostSpec)) aeadMostCard

/-- THE SECOND FORM's CARD OF 'samphirelaw07.AeadSeals'. -/
def aeadSealsUptoCard : Claim7 := { stood := { row := aeadSealsUptoRow, standIns := [], harness := (true, "eee6915977f27066812f2ef51b34327736277cbb919c1ed80074e505f6d4e8ab"), looks := false }, kinds := [], alts := [], laidByText := true, laidKinds := [.data, .data], laidTests := true, laidLooks := .later }
def AeadSealsUptoCardSaid : Prop := Claim7.holds Tryd.pinned (.plain (OpenSpec.upto aeadSealsSpec)) aeadSealsUptoCard

/-- THE SECOND FORM's CARD OF 'samphirelaw07.AeadOpens'. -/
def aeadOpensUptoCard : Claim7 := { stood := { row := aeadOpensUptoRow, standIns := [], harness := (true, "eee6915977f27066812f2ef51b34327736277cbb919c1ed80074e505f6d4e8ab"), looks := false }, kinds := [], alts := [], laidByText := true, laidKinds := [.data, .data], laidTests := true, laidLooks := .later }
def AeadOpensUptoCardSaid : Prop := Claim7.holds Tryd.pinned (.plain (OpenSpec.upto aeadOpensSpec)) aeadOpensUptoCard

/-- THE SECOND FORM's CARD OF 'samphirelaw07.AeadBack'. -/
def aeadBackUptoCard : Claim7 := { stood := { row := aeadBackUptoRow, standIns := [], harness := (true, "eee6915977f27066812f2ef51b34327736277cbb919c1ed80074e505f6d4e8ab"), looks := false }, kinds := [], alts := [], laidByText := true, laidKinds := [.data, .data], laidTests := true, laidLooks := .later }
def AeadBackUptoCardSaid : Prop := Claim7.holds Tryd.pinned (.plain (OpenSpec.upto aeadBackSpec)) aeadBackUptoCard

/-- THE SECOND FORM's CARD OF 'samphirelaw07.AeadTag'. -/
def aeadTagUptoCard : Claim7 := { stood := { row := aeadTagUptoRow, standIns := [], harness := (true, "eee6915977f27066812f2ef51b34327736277cbb919c1ed80074e505f6d4e8ab"), looks := false }, kinds := [], alts := [], laidByText := true, laidKinds := [.data, .data], laidTests := true, laidLooks := .later }
def AeadTagUptoCardSaid : Prop := Claim7.holds Tryd.pinned (.plain (OpenSpec.upto aeadTagSpec)) aeadTagUptoCard

/-- THE SECOND FORM's CARD OF 'samphirelaw07.AeadMost'. -/
def aeadMostUptoCard : Claim7 := { stood := { row := aeadMostUptoRow, standIns := [], harness := (true, "eee6915977f27066812f2ef51b34327736277cbb919c1ed80074e505f6d4e8ab"), looks := false }, kinds := [], alts := [], laidByText := true, laidKinds := [.data, .data], laidTests := true, laidLooks := .later }
def AeadMostUptoCardSaid : Prop := Claim7.holds Tryd.pinned (.plain (OpenSpec.upto aeadMostSpec)) aeadMostUptoCard
end Rows
end Go.Proofs.YtjjafkjjehphjaaDoor
