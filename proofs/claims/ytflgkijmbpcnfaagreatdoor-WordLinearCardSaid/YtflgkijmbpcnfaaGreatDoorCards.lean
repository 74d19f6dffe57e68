/-
  DERIVED. GIVEN WITH THE SEED: THE CARDS: each row of YtflgkijmbpcnfaaGreatDoorRows.lean that lists a variable, with what it lists TIED to the program's text (the seventh form; the later family's looks); each row that meets fmt, with fmt's text TOLD by the authors' own Lean function (tested against real Go, not proved from fmt's source: count such statements apart). THE CARD IS WHAT COUNTS. Prove the row's statement (the work); the ties are given (YtflgkijmbpcnfaaGreatDoorTie.lean); close each card by the builder's one call (the guide's Derived/Test/ToyasCard.lean, 'card_holds'). Laid BY PROGRAM, IN A SANDBOX (cutbox-door.mjs). By AI agents, Wed Nov 11 2026. No macro, syntax, notation, axiom, sorry.
-/
import Derived.Test.YtflgkijmbpcnfaaGreatDoorRows
import GoSem.ClaimSeven
namespace Go.Proofs.YtflgkijmbpcnfaaGreatDoor
namespace Rows

/-- THE TIED CARD OF 'katabasislaw02.StepRuns'. -/
def stepRunsCard : Claim7 := { stood := { row := stepRunsRow, standIns := [], harness := (true, "cb708b3d8dc2a19d7d8344620a327460790a844eae2af82738bdb8b3aa0cde8c"), looks := true }, kinds := [], alts := [], laidByText := true, laidKinds := [.data, .data, .data, .sentinel, .sentinel], laidTests := true, laidLooks := .later }
def StepRunsCardSaid : Prop := Claim7.holds Tryz.pinned (.plain (OpenSpec.ofChange stepRunsSpec)) stepRunsCard

/-- THE TIED CARD OF 'katabasislaw02.StepOrbits'. -/
def stepOrbitsCard : Claim7 := { stood := { row := stepOrbitsRow, standIns := [], harness := (true, "cb708b3d8dc2a19d7d8344620a327460790a844eae2af82738bdb8b3aa0cde8c"), looks := true }, kinds := [], alts := [], laidByText := true, laidKinds := [.data, .data, .data, .sentinel, .sentinel], laidTests := true, laidLooks := .later }
def StepOrbitsCardSaid : Prop := Claim7.holds Tryz.pinned (.plain (OpenSpec.ofChange stepOrbitsSpec)) stepOrbitsCard

/-- THE TIED CARD OF 'katabasislaw02.StepFalls'. -/
def stepFallsCard : Claim7 := { stood := { row := stepFallsRow, standIns := [], harness := (true, "cb708b3d8dc2a19d7d8344620a327460790a844eae2af82738bdb8b3aa0cde8c"), looks := true }, kinds := [], alts := [], laidByText := true, laidKinds := [.data, .data, .data, .sentinel, .sentinel], laidTests := true, laidLooks := .later }
def StepFallsCardSaid : Prop := Claim7.holds Tryz.pinned (.plain (OpenSpec.ofChange stepFallsSpec)) stepFallsCard

/-- THE TIED CARD OF 'katabasislaw02.StepAlike'. -/
def stepAlikeCard : Claim7 := { stood := { row := stepAlikeRow, standIns := [], harness := (true, "cb708b3d8dc2a19d7d8344620a327460790a844eae2af82738bdb8b3aa0cde8c"), looks := true }, kinds := [], alts := [], laidByText := true, laidKinds := [.data, .data, .data, .sentinel, .sentinel], laidTests := true, laidLooks := .later }
def StepAlikeCardSaid : Prop := Claim7.holds Tryz.pinned (.plain (OpenSpec.ofChange stepAlikeSpec)) stepAlikeCard

/-- THE TIED CARD OF 'katabasislaw03.WordReads'. -/
def wordReadsCard : Claim7 := { stood := { row := wordReadsRow, standIns := [], harness := (true, "cb708b3d8dc2a19d7d8344620a327460790a844eae2af82738bdb8b3aa0cde8c"), looks := true }, kinds := [], alts := [], laidByText := true, laidKinds := [.data, .data, .data, .sentinel, .sentinel], laidTests := true, laidLooks := .later }
def WordReadsCardSaid : Prop := Claim7.holds Tryz.pinned (.plain (OpenSpec.ofChange wordReadsSpec)) wordReadsCard

/-- THE TIED CARD OF 'katabasislaw03.WordLines'. -/
def wordLinesCard : Claim7 := { stood := { row := wordLinesRow, standIns := [], harness := (true, "cb708b3d8dc2a19d7d8344620a327460790a844eae2af82738bdb8b3aa0cde8c"), looks := true }, kinds := [], alts := [], laidByText := true, laidKinds := [.data, .data, .data, .sentinel, .sentinel], laidTests := true, laidLooks := .later }
def WordLinesCardSaid : Prop := Claim7.holds Tryz.pinned (.plain (OpenSpec.ofChange wordLinesSpec)) wordLinesCard

/-- THE TIED CARD OF 'katabasislaw03.WordApplies'. -/
def wordAppliesCard : Claim7 := { stood := { row := wordAppliesRow, standIns := [], harness := (true, "cb708b3d8dc2a19d7d8344620a327460790a844eae2af82738bdb8b3aa0cde8c"), looks := true }, kinds := [], alts := [], laidByText := true, laidKinds := [.data, .data, .data, .sentinel, .sentinel], laidTests := true, laidLooks := .later }
def WordAppliesCardSaid : Prop := Claim7.holds Tryz.pinned (.plain (OpenSpec.ofChange wordAppliesSpec)) wordAppliesCard

/-- THE TIED CARD OF 'katabasislaw03.WordTerras'. -/
def wordTerrasCard : Claim7 := { stood := { row := wordTerrasRow, standIns := [], harness := (true, "cb708b3d8dc2a19d7d8344620a327460790a844eae2af82738bdb8b3aa0cde8c"), looks := true }, kinds := [], alts := [], laidByText := true, laidKinds := [.data, .data, .data, .sentinel, .sentinel], laidTests := true, laidLooks := .later }
def WordTerrasCardSaid : Prop := Claim7.holds Tryz.pinned (.plain (OpenSpec.ofChange wordTerrasSpec)) wordTerrasCard

/-- THE TIED CARD OF 'katabasislaw03.WordLinear'. -/
def wordLinearCard : Claim7 := { stood := { row := wordLinearRow, standIns := [], harness := (true, "cb708b3d8dc2a19d7d8344620a327460790a844eae2af82738bdb8b3aa0cde8c"), looks := true }, kinds := [], alts := [], laidByText := true, laidKinds := [.data, .data, .data, .sentinel, .sentinel], laidTests := true, laidLooks := .later }
def WordLinearCardSaid : Prop := Claim7.holds Tryz.pinned (.plain (OpenSpec.ofChange wordLinearSpec)) wordLinearCard

/-- THE TIED CARD OF 'katabasislaw03.WordParts'. -/
def wordPartsCard : Claim7 := { stood := { row := wordPartsRow, standIns := [], harness := (true, "cb708b3d8dc2a19d7d8344620a327460790a844eae2af82738bdb8b3aa0cde8c"), looks := true }, kinds := [], alts := [], laidByText := true, laidKinds := [.data, .data, .data, .sentinel, .sentinel], laidTests := true, laidLooks := .later }
def WordPartsCardSaid : Prop := Claim7.holds Tryz.pinned (.plain (OpenSpec.ofChange wordPartsSpec)) wordPartsCard

/-- THE TIED CARD OF 'katabasislaw03.WordPowers'. -/
def wordPowersCard : Claim7 := { stood := { row := wordPowersRow, standIns := [], harness := (true, "cb708b3d8dc2a19d7d8344620a327460790a844eae2af82738bdb8b3aa0cde8c"), looks := true }, kinds := [], alts := [], laidByText := true, laidKinds := [.data, .data, .data, .sentinel, .sentinel], laidTests := true, laidLooks := .later }
def WordPowersCardSaid : Prop := Claim7.holds Tryz.pinned (.plain (OpenSpec.ofChange wordPowersSpec)) wordPowersCard

/-- THE SECOND FORM's CARD OF 'katabasislaw02.StepRuns'. -/
def stepRunsUptoCard : Claim7 := { stood := { row := stepRunsUptoRow, standIns := [], harness := (true, "cb708b3d8dc2a19d7d8344620a327460790a844eae2af82738bdb8b3aa0cde8c"), looks := true }, kinds := [], alts := [], laidByText := true, laidKinds := [.data, .data, .data, .sentinel, .sentinel], laidTests := true, laidLooks := .later }
def StepRunsUptoCardSaid : Prop := Claim7.holds Tryz.pinned (.plain (OpenSpec.upto stepRunsSpec)) stepRunsUptoCard

/-- THE SECOND FORM's CARD OF 'katabasislaw02.StepOrbits'. -/
def stepOrbitsUptoCard : Claim7 := { stood := { row := stepOrbitsUptoRow, standIns := [], harness := (true, "cb708b3d8dc2a19d7d8344620a327460790a844eae2af82738bdb8b3aa0cde8c"), looks := true }, kinds := [], alts := [], laidByText := true, laidKinds := [.data, .data, .data, .sentinel, .sentinel], laidTests := true, laidLooks := .later }
def StepOrbitsUptoCardSaid : Prop := Claim7.holds Tryz.pinned (.plain (OpenSpec.upto stepOrbitsSpec)) stepOrbitsUptoCard

/-- THE SECOND FORM's CARD OF 'katabasislaw02.StepFalls'. -/
def stepFallsUptoCard : Claim7 := { stood := { row := stepFallsUptoRow, standIns := [], harness := (true, "cb708b3d8dc2a19d7d8344620a327460790a844eae2af82738bdb8b3aa0cde8c"), looks := true }, kinds := [], alts := [], laidByText := true, laidKinds := [.data, .data, .data, .sentinel, .sentinel], laidTests := true, laidLooks := .later }
def StepFallsUptoCardSaid : Prop := Claim7.holds Tryz.pinned (.plain (OpenSpec.upto stepFallsSpec)) stepFallsUptoCard

/-- THE SECOND FORM's CARD OF 'katabasislaw02.StepAlike'. -/
def stepAlikeUptoCard : Claim7 := { stood := { row := stepAlikeUptoRow, standIns := [], harness := (true, "cb708b3d8dc2a19d7d8344620a327460790a844eae2af82738bdb8b3aa0cde8c"), looks := true }, kinds := [], alts := [], laidByText := true, laidKinds := [.data, .data, .data, .sentinel, .sentinel], laidTests := true, laidLooks := .later }
def StepAlikeUptoCardSaid : Prop := Claim7.holds Tryz.pinned (.plain (OpenSpec.upto stepAlikeSpec)) stepAlikeUptoCard

/-- THE SECOND FORM's CARD OF 'katabasislaw03.WordReads'. -/
def wordReadsUptoCard : Claim7 := { stood := { row := wordReadsUptoRow, standIns := [], harness := (true, "cb708b3d8dc2a19d7d8344620a327460790a844eae2af82738bdb8b3aa0cde8c"), looks := true }, kinds := [], alts := [], laidByText := true, laidKinds := [.data, .data, .data, .sentinel, .sentinel], laidTests := true, laidLooks := .later }
def WordReadsUptoCardSaid : Prop := Claim7.holds Tryz.pinned (.plain (OpenSpec.upto wordReadsSpec)) wordReadsUptoCard

/-- THE SECOND FORM's CARD OF 'katabasislaw03.WordLines'. -/
def wordLinesUptoCard : Claim7 := { stood := { row := wordLinesUptoRow, standIns := [], harness := (true, "cb708b3d8dc2a19d7d8344620a327460790a844eae2af82738bdb8b3aa0cde8c"), looks := true }, kinds := [], alts := [], laidByText := true, laidKinds := [.data, .data, .data, .sentinel, .sentinel], laidTests := true, laidLooks := .later }
def WordLinesUptoCardSaid : Prop := Claim7.holds Tryz.pinned (.plain (OpenSpec.upto wordLinesSpec)) wordLinesUptoCard

/-- THE SECOND FORM's CARD OF 'katabasislaw03.WordApplies'. -/
def wordAppliesUptoCard : Claim7 := { stood := { row := wordAppliesUptoRow, standIns := [], harness := (true, "cb708b3d8dc2a19d7d8344620a327460790a844eae2af82738bdb8b3aa0cde8c"), looks := true }, kinds := [], alts := [], laidByText := true, laidKinds := [.data, .data, .data, .sentinel, .sentinel], laidTests := true, laidLooks := .later }
def WordAppliesUptoCardSaid : Prop := Claim7.holds Tryz.pinned (.plain (OpenSpec.upto wordAppliesSpec)) wordAppliesUptoCard

/-- THE SECOND FORM's CARD OF 'katabasislaw03.WordTerras'. -/
def wordTerrasUptoCard : Claim7 := { stood := { row := wordTerrasUptoRow, standIns := [], harness := (true, "cb708b3d8dc2a19d7d8344620a327460790a844eae2af82738bdb8b3aa0cde8c"), looks := true }, kinds := [], alts := [], laidByText := true, laidKinds := [.data, .data, .data, .sentinel, .sentinel], laidTests := true, laidLooks := .later }
def WordTerrasUptoCardSaid : Prop := Claim7.holds Tryz.pinned (.plain (OpenSpec.upto wordTerrasSpec)) wordTerrasUptoCard

/-- THE SECOND FORM's CARD OF 'katabasislaw03.WordLinear'. -/
def wordLinearUptoCard : Claim7 := { stood := { row := wordLinearUptoRow, standIns := [], harness := (true, "cb708b3d8dc2a19d7d8344620a327460790a844eae2af82738bdb8b3aa0cde8c"), looks := true }, kinds := [], alts := [], laidByText := true, laidKinds := [.data, .data, .data, .sentinel, .sentinel], laidTests := true, laidLooks := .later }
def WordLinearUptoCardSaid : Prop := Claim7.holds Tryz.pinned (.plain (OpenSpec.upto wordLinearSpec)) wordLinearUptoCard

/-- THE SECOND FORM's CARD OF 'katabasislaw03.WordParts'. -/
def wordPartsUptoCard : Claim7 := { stood := { row := wordPartsUptoRow, standIns := [], harness := (true, "cb708b3d8dc2a19d7d8344620a327460790a844eae2af82738bdb8b3aa0cde8c"), looks := true }, kinds := [], alts := [], laidByText := true, laidKinds := [.data, .data, .data, .sentinel, .sentinel], laidTests := true, laidLooks := .later }
def WordPartsUptoCardSaid : Prop := Claim7.holds Tryz.pinned (.plain (OpenSpec.upto wordPartsSpec)) wordPartsUptoCard

/-- THE SECOND FORM's CARD OF 'katabasislaw03.WordPowers'. -/
def wordPowersUptoCard : Claim7 := { stood := { row := wordPowersUptoRow, standIns := [], harness := (true, "cb708b3d8dc2a19d7d8344620a327460790a844eae2af82738bdb8b3aa0cde8c"), looks := true }, kinds := [], alts := [], laidByText := true, laidKinds := [.data, .data, .data, .sentinel, .sentinel], laidTests := true, laidLooks := .later }
def WordPowersUptoCardSaid : Prop := Claim7.holds Tryz.pinned (.plain (OpenSpec.upto wordPowersSpec)) wordPowersUptoCard
end Rows
end Go.Proofs.YtflgkijmbpcnfaaGreatDoor
