/-
  DERIVED. GIVEN WITH THE SEED: THE CARDS: each row of YtoilkfohhhidpaaGreatDoorRows.lean that lists a variable, with what it lists TIED to the program's text (the seventh form; the later family's looks); each row that meets fmt, with fmt's text TOLD by the authors' own Lean function (tested against real Go, not proved from fmt's source: count such statements apart). THE CARD IS WHAT COUNTS. Prove the row's statement (the work); the ties are given (YtoilkfohhhidpaaGreatDoorTie.lean); close each card by the builder's one call (the guide's Derived/Test/ToyasCard.lean, 'card_holds'). Laid BY PROGRAM, IN A SANDBOX (cutbox-door.mjs). By AI agents, Wed Nov 11 2026. No macro, syntax, notation, axiom, sorry.
-/
import Derived.Test.YtoilkfohhhidpaaGreatDoorRows
import GoSem.ClaimSeven
namespace Go.Proofs.YtoilkfohhhidpaaGreatDoor
namespace Rows

/-- THE TIED CARD OF 'katabasislaw02.StepRuns'. -/
def stepRunsCard : Claim7 := { stood := { row := stepRunsRow, standIns := [], harness := (true, "2933a0b1536536e0038ec1e467ab42d80d983d3513b47242a7b684418cd30024"), looks := true }, kinds := [], alts := [], laidByText := true, laidKinds := [.data, .data, .data, .sentinel, .sentinel], laidTests := true, laidLooks := .later }
def StepRunsCardSaid : Prop := Claim7.holds Tryz.pinned (.plain (OpenSpec.ofChange stepRunsSpec)) stepRunsCard

/-- THE TIED CARD OF 'katabasislaw02.StepOrbits'. -/
def stepOrbitsCard : Claim7 := { stood := { row := stepOrbitsRow, standIns := [], harness := (true, "2933a0b1536536e0038ec1e467ab42d80d983d3513b47242a7b684418cd30024"), looks := true }, kinds := [], alts := [], laidByText := true, laidKinds := [.data, .data, .data, .sentinel, .sentinel], laidTests := true, laidLooks := .later }
def StepOrbitsCardSaid : Prop := Claim7.holds Tryz.pinned (.plain (OpenSpec.ofChange stepOrbitsSpec)) stepOrbitsCard

/-- THE TIED CARD OF 'katabasislaw02.StepFalls'. -/
def stepFallsCard : Claim7 := { stood := { row := stepFallsRow, standIns := [], harness := (true, "2933a0b1536536e0038ec1e467ab42d80d983d3513b47242a7b684418cd30024"), looks := true }, kinds := [], alts := [], laidByText := true, laidKinds := [.data, .data, .data, .sentinel, .sentinel], laidTests := true, laidLooks := .later }
def StepFallsCardSaid : Prop := Claim7.holds Tryz.pinned (.plain (OpenSpec.ofChange stepFallsSpec)) stepFallsCard

/-- THE TIED CARD OF 'katabasislaw02.StepAlike'. -/
def stepAlikeCard : Claim7 := { stood := { row := stepAlikeRow, standIns := [], harness := (true, "2933a0b1536536e0038ec1e467ab42d80d983d3513b47242a7b684418cd30024"), looks := true }, kinds := [], alts := [], laidByText := true, laidKinds := [.data, .data, .data, .sentinel, .sentinel], laidTests := true, laidLooks := .later }
def StepAlikeCardSaid : Prop := Claim7.holds Tryz.pinned (.plain (OpenSpec.ofChange stepAlikeSpec)) stepAlikeCard

/-- THE TIED CARD OF 'katabasislaw02.StepFirst'. -/
def stepFirstCard : Claim7 := { stood := { row := stepFirstRow, standIns := [], harness := (true, "2933a0b1536536e0038ec1e467ab42d80d983d3513b47242a7b684418cd30024"), looks := true }, kinds := [], alts := [], laidByText := true, laidKinds := [.data, .data, .data, .sentinel, .sentinel], laidTests := true, laidLooks := .later }
def StepFirstCardSaid : Prop := Claim7.holds Tryz.pinned (.plain (OpenSpec.ofChange stepFirstSpec)) stepFirstCard

/-- THE SECOND FORM's CARD OF 'katabasislaw02.StepRuns'. -/
def stepRunsUptoCard : Claim7 := { stood := { row := stepRunsUptoRow, standIns := [], harness := (true, "2933a0b1536536e0038ec1e467ab42d80d983d3513b47242a7b684418cd30024"), looks := true }, kinds := [], alts := [], laidByText := true, laidKinds := [.data, .data, .data, .sentinel, .sentinel], laidTests := true, laidLooks := .later }
def StepRunsUptoCardSaid : Prop := Claim7.holds Tryz.pinned (.plain (OpenSpec.upto stepRunsSpec)) stepRunsUptoCard

/-- THE SECOND FORM's CARD OF 'katabasislaw02.StepOrbits'. -/
def stepOrbitsUptoCard : Claim7 := { stood := { row := stepOrbitsUptoRow, standIns := [], harness := (true, "2933a0b1536536e0038ec1e467ab42d80d983d3513b47242a7b684418cd30024"), looks := true }, kinds := [], alts := [], laidByText := true, laidKinds := [.data, .data, .data, .sentinel, .sentinel], laidTests := true, laidLooks := .later }
def StepOrbitsUptoCardSaid : Prop := Claim7.holds Tryz.pinned (.plain (OpenSpec.upto stepOrbitsSpec)) stepOrbitsUptoCard

/-- THE SECOND FORM's CARD OF 'katabasislaw02.StepFalls'. -/
def stepFallsUptoCard : Claim7 := { stood := { row := stepFallsUptoRow, standIns := [], harness := (true, "2933a0b1536536e0038ec1e467ab42d80d983d3513b47242a7b684418cd30024"), looks := true }, kinds := [], alts := [], laidByText := true, laidKinds := [.data, .data, .data, .sentinel, .sentinel], laidTests := true, laidLooks := .later }
def StepFallsUptoCardSaid : Prop := Claim7.holds Tryz.pinned (.plain (OpenSpec.upto stepFallsSpec)) stepFallsUptoCard

/-- THE SECOND FORM's CARD OF 'katabasislaw02.StepAlike'. -/
def stepAlikeUptoCard : Claim7 := { stood := { row := stepAlikeUptoRow, standIns := [], harness := (true, "2933a0b1536536e0038ec1e467ab42d80d983d3513b47242a7b684418cd30024"), looks := true }, kinds := [], alts := [], laidByText := true, laidKinds := [.data, .data, .data, .sentinel, .sentinel], laidTests := true, laidLooks := .later }
def StepAlikeUptoCardSaid : Prop := Claim7.holds Tryz.pinned (.plain (OpenSpec.upto stepAlikeSpec)) stepAlikeUptoCard

/-- THE SECOND FORM's CARD OF 'katabasislaw02.StepFirst'. -/
def stepFirstUptoCard : Claim7 := { stood := { row := stepFirstUptoRow, standIns := [], harness := (true, "2933a0b1536536e0038ec1e467ab42d80d983d3513b47242a7b684418cd30024"), looks := true }, kinds := [], alts := [], laidByText := true, laidKinds := [.data, .data, .data, .sentinel, .sentinel], laidTests := true, laidLooks := .later }
def StepFirstUptoCardSaid : Prop := Claim7.holds Tryz.pinned (.plain (OpenSpec.upto stepFirstSpec)) stepFirstUptoCard
end Rows
end Go.Proofs.YtoilkfohhhidpaaGreatDoor
