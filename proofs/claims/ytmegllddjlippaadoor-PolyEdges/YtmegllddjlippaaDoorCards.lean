/-
  DERIVED. GIVEN WITH THE SEED: THE CARDS: each row of YtmegllddjlippaaDoorRows.lean that lists a variable, with what it lists TIED to the program's text (the seventh form; the later family's looks); each row that meets fmt, with fmt's text TOLD by the authors' own Lean function (tested against real Go, not proved from fmt's source: count such statements apart). THE CARD IS WHAT COUNTS. Prove the row's statement (the work); the ties are given (YtmegllddjlippaaDoorTie.lean); close each card by the builder's one call (the guide's Derived/Test/ToyasCard.lean, 'card_holds'). Laid BY PROGRAM, IN A SANDBOX (cutbox-door.mjs). By AI agents, Wed Nov 11 2026. No macro, syntax, notation, axiom, sorry.
-/
import Derived.Test.YtmegllddjlippaaDoorRows
import GoSem.ClaimSeven
namespace Go.Proofs.YtmegllddjlippaaDoor
namespace Rows

/-- THE TIED CARD OF 'samphirelaw06.PolyMacs'. -/
def polyMacsCard : Claim7 := { stood := { row := polyMacsRow, standIns := [], harness := (true, "25db03358ac0ba746c011bcee51cfc02bb57f0dc12bab810f2b293281d518997"), looks := false }, kinds := [], alts := [], laidByText := true, laidKinds := [.data], laidTests := true, laidLooks := .later }
def PolyMacsCardSaid : Prop := Claim7.holds Tryd.pinned (.plain (OpenSpec.ofChange polyMacsSpec)) polyMacsCard

/-- THE TIED CARD OF 'samphirelaw06.PolyClamps'. -/
def polyClampsCard : Claim7 := { stood := { row := polyClampsRow, standIns := [], harness := (true, "25db03358ac0ba746c011bcee51cfc02bb57f0dc12bab810f2b293281d518997"), looks := false }, kinds := [], alts := [], laidByText := true, laidKinds := [.data], laidTests := true, laidLooks := .later }
def PolyClampsCardSaid : Prop := Claim7.holds Tryd.pinned (.plain (OpenSpec.ofChange polyClampsSpec)) polyClampsCard

/-- THE TIED CARD OF 'samphirelaw06.PolySecond'. -/
def polySecondCard : Claim7 := { stood := { row := polySecondRow, standIns := [], harness := (true, "25db03358ac0ba746c011bcee51cfc02bb57f0dc12bab810f2b293281d518997"), looks := false }, kinds := [], alts := [], laidByText := true, laidKinds := [.data], laidTests := true, laidLooks := .later }
def PolySecondCardSaid : Prop := Claim7.holds Tryd.pinned (.plain (OpenSpec.ofChange polySecondSpec)) polySecondCard

/-- THE TIED CARD OF 'samphirelaw06.PolyOne'. -/
def polyOneCard : Claim7 := { stood := { row := polyOneRow, standIns := [], harness := (true, "25db03358ac0ba746c011bcee51cfc02bb57f0dc12bab810f2b293281d518997"), looks := false }, kinds := [], alts := [], laidByText := true, laidKinds := [.data], laidTests := true, laidLooks := .later }
def PolyOneCardSaid : Prop := Claim7.holds Tryd.pinned (.plain (OpenSpec.ofChange polyOneSpec)) polyOneCard

/-- THE TIED CARD OF 'samphirelaw06.PolyEdges'. -/
def polyEdgesCard : Claim7 := { stood := { row := polyEdgesRow, standIns := [], harness := (true, "25db03358ac0ba746c011bcee51cfc02bb57f0dc12bab810f2b293281d518997"), looks := false }, kinds := [], alts := [], laidByText := true, laidKinds := [.data], laidTests := true, laidLooks := .later }
def PolyEdgesCardSaid : Prop := Claim7.holds Tryd.pinned (.plain (OpenSpec.ofChange polyEdgesSpec)) polyEdgesCard

/-- THE SECOND FORM's CARD OF 'samphirelaw06.PolyMacs'. -/
def polyMacsUptoCard : Claim7 := { stood := { row := polyMacsUptoRow, standIns := [], harness := (true, "25db03358ac0ba746c011bcee51cfc02bb57f0dc12bab810f2b293281d518997"), looks := false }, kinds := [], alts := [], laidByText := true, laidKinds := [.data], laidTests := true, laidLooks := .later }
def PolyMacsUptoCardSaid : Prop := Claim7.holds Tryd.pinned (.plain (OpenSpec.upto polyMacsSpec)) polyMacsUptoCard

/-- THE SECOND FORM's CARD OF 'samphirelaw06.PolyClamps'. -/
def polyClampsUptoCard : Claim7 := { stood := { row := polyClampsUptoRow, standIns := [], harness := (true, "25db03358ac0ba746c011bcee51cfc02bb57f0dc12bab810f2b293281d518997"), looks := false }, kinds := [], alts := [], laidByText := true, laidKinds := [.data], laidTests := true, laidLooks := .later }
def PolyClampsUptoCardSaid : Prop := Claim7.holds Tryd.pinned (.plain (OpenSpec.upto polyClampsSpec)) polyClampsUptoCard

/-- THE SECOND FORM's CARD OF 'samphirelaw06.PolySecond'. -/
def polySecondUptoCard : Claim7 := { stood := { row := polySecondUptoRow, standIns := [], harness := (true, "25db03358ac0ba746c011bcee51cfc02bb57f0dc12bab810f2b293281d518997"), looks := false }, kinds := [], alts := [], laidByText := true, laidKinds := [.data], laidTests := true, laidLooks := .later }
def PolySecondUptoCardSaid : Prop := Claim7.holds Tryd.pinned (.plain (OpenSpec.upto polySecondSpec)) polySecondUptoCard

/-- THE SECOND FORM's CARD OF 'samphirelaw06.PolyOne'. -/
def polyOneUptoCard : Claim7 := { stood := { row := polyOneUptoRow, standIns := [], harness := (true, "25db03358ac0ba746c011bcee51cfc02bb57f0dc12bab810f2b293281d518997"), looks := false }, kinds := [], alts := [], laidByText := true, laidKinds := [.data], laidTests := true, laidLooks := .later }
def PolyOneUptoCardSaid : Prop := Claim7.holds Tryd.pinned (.plain (OpenSpec.upto polyOneSpec)) polyOneUptoCard

/-- THE SECOND FORM's CARD OF 'samphirelaw06.PolyEdges'. -/
def polyEdgesUptoCard : Claim7 := { stood := { row := polyEdgesUptoRow, standIns := [], harness := (true, "25db03358ac0ba746c011bcee51cfc02bb57f0dc12bab810f2b293281d518997"), looks := false }, kinds := [], alts := [], laidByText := true, laidKinds := [.data], laidTests := true, laidLooks := .later }
def PolyEdgesUptoCardSaid : Prop := Claim7.holds Tryd.pinned (.plain (OpenSpec.upto polyEdgesSpec)) polyEdgesUptoCard
end Rows
end Go.Proofs.YtmegllddjlippaaDoor
