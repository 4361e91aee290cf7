/-
  DERIVED. GIVEN WITH THE SEED: THE CARDS: each row of YtaakmcihpdbilaaDoorRows.lean that lists a variable, with what it lists TIED to the program's text (the seventh form; the later family's looks); each row that meets fmt, with fmt's text TOLD by the authors' own Lean function (tested against real Go, not proved from fmt's source: count such statements apart). THE CARD IS WHAT COUNTS. Prove the row's statement (the work); the ties are given (YtaakmcihpdbilaaDoorTie.lean); close each card by the builder's one call (the guide's Derived/Test/ToyasCard.lean, 'card_holds'). Laid BY PROGRAM, IN A SANDBOX (cutbox-door.mjs). By AI agents, Wed Nov 11 2026. No macro, syntax, notation, axiom, sorry.
-/
import Derived.Test.YtaakmcihpdbilaaDoorRows
import GoSem.ClaimSeven
namespace Go.Proofs.YtaakmcihpdbilaaDoor
namespace Rows

/-- THE TIED CARD OF 'samphirelaw18.StoreBefore'. -/
def storeBeforeCard : Claim7 := { stood := { row := storeBeforeRow, standIns := [], harness := (true, "41a3988076fba6efbeaa0b5a2c074721fe252c6c608fbc1d0d570f7b8ef0d0c3"), looks := false }, kinds := [], alts := [], laidByText := true, laidKinds := [.data, .data], laidTests := true, laidLooks := .later }
def StoreBeforeCardSaid : Prop := Claim7.holds Tryd.pinned (.plain (OpenSpec.ofChange storeBeforeSpec)) storeBeforeCard

/-- THE TIED CARD OF 'samphirelaw18.StoreTurns'. -/
def storeTurnsCard : Claim7 := { stood := { row := storeTurnsRow, standIns := [], harness := (true, "41a3988076fba6efbeaa0b5a2c074721fe252c6c608fbc1d0d570f7b8ef0d0c3"), looks := false }, kinds := [], alts := [], laidByText := true, laidKinds := [.data, .data], laidTests := true, laidLooks := .later }
def StoreTurnsCardSaid : Prop := Claim7.holds Tryd.pinned (.plain (OpenSpec.ofChange storeTurnsSpec)) storeTurnsCard

/-- THE TIED CARD OF 'samphirelaw18.StoreNobody'. -/
def storeNobodyCard : Claim7 := { stood := { row := storeNobodyRow, standIns := [], harness := (true, "41a3988076fba6efbeaa0b5a2c074721fe252c6c608fbc1d0d570f7b8ef0d0c3"), looks := false }, kinds := [], alts := [], laidByText := true, laidKinds := [.data, .data], laidTests := true, laidLooks := .later }
def StoreNobodyCardSaid : Prop := Claim7.holds Tryd.pinned (.plain (OpenSpec.ofChange storeNobodySpec)) storeNobodyCard

/-- THE SECOND FORM's CARD OF 'samphirelaw18.StoreBefore'. -/
def storeBeforeUptoCard : Claim7 := { stood := { row := storeBeforeUptoRow, standIns := [], harness := (true, "41a3988076fba6efbeaa0b5a2c074721fe252c6c608fbc1d0d570f7b8ef0d0c3"), looks := false }, kinds := [], alts := [], laidByText := true, laidKinds := [.data, .data], laidTests := true, laidLooks := .later }
def StoreBeforeUptoCardSaid : Prop := Claim7.holds Tryd.pinned (.plain (OpenSpec.upto storeBeforeSpec)) storeBeforeUptoCard

/-- THE SECOND FORM's CARD OF 'samphirelaw18.StoreTurns'. -/
def storeTurnsUptoCard : Claim7 := { stood := { row := storeTurnsUptoRow, standIns := [], harness := (true, "41a3988076fba6efbeaa0b5a2c074721fe252c6c608fbc1d0d570f7b8ef0d0c3"), looks := false }, kinds := [], alts := [], laidByText := true, laidKinds := [.data, .data], laidTests := true, laidLooks := .later }
def StoreTurnsUptoCardSaid : Prop := Claim7.holds Tryd.pinned (.plain (OpenSpec.upto storeTurnsSpec)) storeTurnsUptoCard

/-- THE SECOND FORM's CARD OF 'samphirelaw18.StoreNobody'. -/
def storeNobodyUptoCard : Claim7 := { stood := { row := storeNobodyUptoRow, standIns := [], harness := (true, "41a3988076fba6efbeaa0b5a2c074721fe252c6c608fbc1d0d570f7b8ef0d0c3"), looks := false }, kinds := [], alts := [], laidByText := true, laidKinds := [.data, .data], laidTests := true, laidLooks := .later }
def StoreNobodyUptoCardSaid : Prop := Claim7.holds Tryd.pinned (.plain (OpenSpec.upto storeNobodySpec)) storeNobodyUptoCard
end Rows
end Go.Proofs.YtaakmcihpdbilaaDoor
