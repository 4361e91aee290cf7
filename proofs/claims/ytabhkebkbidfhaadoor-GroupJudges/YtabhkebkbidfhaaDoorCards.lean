/-
  DERIVED. GIVEN WITH THE SEED: THE CARDS: each row of YtabhkebkbidfhaaDoorRows.lean that lists a variable, with what it lists TIED to the program's text (the seventh form; the later family's looks); each row that meets fmt, with fmt's text TOLD by the authors' own Lean function (tested against real Go, not proved from fmt's source: count such statements apart). THE CARD IS WHAT COUNTS. Prove the row's statement (the work); the ties are given (YtabhkebkbidfhaaDoorTie.lean); close each card by the builder's one call (the guide's Derived/Test/ToyasCard.lean, 'card_holds'). Laid BY PROGRAM, IN A SANDBOX (cutbox-door.mjs). By AI agents, Wed Nov 11 2026. No macro, syntax, notation, axiom, sorry.
-/
import Derived.Test.YtabhkebkbidfhaaDoorRows
import GoSem.ClaimSeven
namespace Go.Proofs.YtabhkebkbidfhaaDoor
namespace Rows

/-- THE TIED CARD OF 'samphirelaw20.GroupJudges'. -/
def groupJudgesCard : Claim7 := { stood := { row := groupJudgesRow, standIns := [], harness := (true, "06d1af5ae715205edf971bb310cc18df78a66636625c263011d4589c082d357f"), looks := false }, kinds := [], alts := [], laidByText := true, laidKinds := [.data, .pinned], laidTests := true, laidLooks := .later }
def GroupJudgesCardSaid : Prop := Claim7.holds Tryd.pinned (.plain (OpenSpec.ofChange groupJudgesSpec)) groupJudgesCard

/-- THE TIED CARD OF 'samphirelaw20.GroupRises'. -/
def groupRisesCard : Claim7 := { stood := { row := groupRisesRow, standIns := [], harness := (true, "06d1af5ae715205edf971bb310cc18df78a66636625c263011d4589c082d357f"), looks := false }, kinds := [], alts := [], laidByText := true, laidKinds := [.data, .pinned], laidTests := true, laidLooks := .later }
def GroupRisesCardSaid : Prop := Claim7.holds Tryd.pinned (.plain (OpenSpec.ofChange groupRisesSpec)) groupRisesCard

/-- THE TIED CARD OF 'samphirelaw20.GroupBytes'. -/
def groupBytesCard : Claim7 := { stood := { row := groupBytesRow, standIns := [], harness := (true, "06d1af5ae715205edf971bb310cc18df78a66636625c263011d4589c082d357f"), looks := false }, kinds := [], alts := [], laidByText := true, laidKinds := [.data, .pinned], laidTests := true, laidLooks := .later }
def GroupBytesCardSaid : Prop := Claim7.holds Tryd.pinned (.plain (OpenSpec.ofChange groupBytesSpec)) groupBytesCard

/-- THE TIED CARD OF 'samphirelaw20.GroupFull'. -/
def groupFullCard : Claim7 := { stood := { row := groupFullRow, standIns := [], harness := (true, "06d1af5ae715205edf971bb310cc18df78a66636625c263011d4589c082d357f"), looks := false }, kinds := [], alts := [], laidByText := true, laidKinds := [.data, .pinned], laidTests := true, laidLooks := .later }
def GroupFullCardSaid : Prop := Claim7.holds Tryd.pinned (.plain (OpenSpec.ofChange groupFullSpec)) groupFullCard

/-- THE TIED CARD OF 'samphirelaw20.GroupAdds'. -/
def groupAddsCard : Claim7 := { stood := { row := groupAddsRow, standIns := [], harness := (true, "06d1af5ae715205edf971bb310cc18df78a66636625c263011d4589c082d357f"), looks := false }, kinds := [], alts := [], laidByText := true, laidKinds := [.data, .pinned], laidTests := true, laidLooks := .later }
def GroupAddsCardSaid : Prop := Claim7.holds Tryd.pinned (.plain (OpenSpec.ofChange groupAddsSpec)) groupAddsCard

/-- THE SECOND FORM's CARD OF 'samphirelaw20.GroupJudges'. -/
def groupJudgesUptoCard : Claim7 := { stood := { row := groupJudgesUptoRow, standIns := [], harness := (true, "06d1af5ae715205edf971bb310cc18df78a66636625c263011d4589c082d357f"), looks := false }, kinds := [], alts := [], laidByText := true, laidKinds := [.data, .pinned], laidTests := true, laidLooks := .later }
def GroupJudgesUptoCardSaid : Prop := Claim7.holds Tryd.pinned (.plain (OpenSpec.upto groupJudgesSpec)) groupJudgesUptoCard

/-- THE SECOND FORM's CARD OF 'samphirelaw20.GroupRises'. -/
def groupRisesUptoCard : Claim7 := { stood := { row := groupRisesUptoRow, standIns := [], harness := (true, "06d1af5ae715205edf971bb310cc18df78a66636625c263011d4589c082d357f"), looks := false }, kinds := [], alts := [], laidByText := true, laidKinds := [.data, .pinned], laidTests := true, laidLooks := .later }
def GroupRisesUptoCardSaid : Prop := Claim7.holds Tryd.pinned (.plain (OpenSpec.upto groupRisesSpec)) groupRisesUptoCard

/-- THE SECOND FORM's CARD OF 'samphirelaw20.GroupBytes'. -/
def groupBytesUptoCard : Claim7 := { stood := { row := groupBytesUptoRow, standIns := [], harness := (true, "06d1af5ae715205edf971bb310cc18df78a66636625c263011d4589c082d357f"), looks := false }, kinds := [], alts := [], laidByText := true, laidKinds := [.data, .pinned], laidTests := true, laidLooks := .later }
def GroupBytesUptoCardSaid : Prop := Claim7.holds Tryd.pinned (.plain (OpenSpec.upto groupBytesSpec)) groupBytesUptoCard

/-- THE SECOND FORM's CARD OF 'samphirelaw20.GroupFull'. -/
def groupFullUptoCard : Claim7 := { stood := { row := groupFullUptoRow, standIns := [], harness := (true, "06d1af5ae715205edf971bb310cc18df78a66636625c263011d4589c082d357f"), looks := false }, kinds := [], alts := [], laidByText := true, laidKinds := [.data, .pinned], laidTests := true, laidLooks := .later }
def GroupFullUptoCardSaid : Prop := Claim7.holds Tryd.pinned (.plain (OpenSpec.upto groupFullSpec)) groupFullUptoCard

/-- THE SECOND FORM's CARD OF 'samphirelaw20.GroupAdds'. -/
def groupAddsUptoCard : Claim7 := { stood := { row := groupAddsUptoRow, standIns := [], harness := (true, "06d1af5ae715205edf971bb310cc18df78a66636625c263011d4589c082d357f"), looks := false }, kinds := [], alts := [], laidByText := true, laidKinds := [.data, .pinned], laidTests := true, laidLooks := .later }
def GroupAddsUptoCardSaid : Prop := Claim7.holds Tryd.pinned (.plain (OpenSpec.upto groupAddsSpec)) groupAddsUptoCard
end Rows
end Go.Proofs.YtabhkebkbidfhaaDoor
