/-
  DERIVED. GIVEN WITH THE SEED: THE CARDS: each row of YtleccblkafcidaaGreatDoorRows.lean that lists a variable, with what it lists TIED to the program's text (the seventh form; the later family's looks); each row that meets fmt, with fmt's text TOLD by the authors' own Lean function (tested against real Go, not proved from fmt's source: count such statements apart). THE CARD IS WHAT COUNTS. Prove the row's statement (the work); the ties are given (YtleccblkafcidaaGreatDoorTie.lean); close each card by the builder's one call (the guide's Derived/Test/ToyasCard.lean, 'card_holds'). Laid BY PROGRAM, IN A SANDBOX (cutbox-door.mjs). By AI agents, Wed Nov 11 2026. No macro, syntax, notation, axiom, sorry.
-/
import Derived.Test.YtleccblkafcidaaGreatDoorRows
import GoSem.ClaimSeven
namespace Go.Proofs.YtleccblkafcidaaGreatDoor
namespace Rows

/-- THE TIED CARD OF 'katabasislaw04.SieveTells'. -/
def sieveTellsCard : Claim7 := { stood := { row := sieveTellsRow, standIns := [], harness := (true, "79c33ea0d75ad8f9e4dcb05bfbfe73652d4ee15b9200491b0299798ce3824cde"), looks := true }, kinds := [], alts := [], laidByText := true, laidKinds := [.data, .data, .data], laidTests := true, laidLooks := .later }
def SieveTellsCardSaid : Prop := Claim7.holds Tryz.pinned (.plain (OpenSpec.ofChange sieveTellsSpec)) sieveTellsCard

/-- THE TIED CARD OF 'katabasislaw04.SieveFinds'. -/
def sieveFindsCard : Claim7 := { stood := { row := sieveFindsRow, standIns := [], harness := (true, "79c33ea0d75ad8f9e4dcb05bfbfe73652d4ee15b9200491b0299798ce3824cde"), looks := true }, kinds := [], alts := [], laidByText := true, laidKinds := [.data, .data, .data], laidTests := true, laidLooks := .later }
def SieveFindsCardSaid : Prop := Claim7.holds Tryz.pinned (.plain (OpenSpec.ofChange sieveFindsSpec)) sieveFindsCard

/-- THE TIED CARD OF 'katabasislaw04.SieveAll'. -/
def sieveAllCard : Claim7 := { stood := { row := sieveAllRow, standIns := [], harness := (true, "79c33ea0d75ad8f9e4dcb05bfbfe73652d4ee15b9200491b0299798ce3824cde"), looks := true }, kinds := [], alts := [], laidByText := true, laidKinds := [.data, .data, .data], laidTests := true, laidLooks := .later }
def SieveAllCardSaid : Prop := Claim7.holds Tryz.pinned (.plain (OpenSpec.ofChange sieveAllSpec)) sieveAllCard

/-- THE TIED CARD OF 'katabasislaw04.SieveLeft'. -/
def sieveLeftCard : Claim7 := { stood := { row := sieveLeftRow, standIns := [], harness := (true, "79c33ea0d75ad8f9e4dcb05bfbfe73652d4ee15b9200491b0299798ce3824cde"), looks := true }, kinds := [], alts := [], laidByText := true, laidKinds := [.data, .data, .data], laidTests := true, laidLooks := .later }
def SieveLeftCardSaid : Prop := Claim7.holds Tryz.pinned (.plain (OpenSpec.ofChange sieveLeftSpec)) sieveLeftCard

/-- THE TIED CARD OF 'katabasislaw06.CycleFixes'. -/
def cycleFixesCard : Claim7 := { stood := { row := cycleFixesRow, standIns := [], harness := (true, "79c33ea0d75ad8f9e4dcb05bfbfe73652d4ee15b9200491b0299798ce3824cde"), looks := true }, kinds := [], alts := [], laidByText := true, laidKinds := [.data, .data, .data, .sentinel, .sentinel], laidTests := true, laidLooks := .later }
def CycleFixesCardSaid : Prop := Claim7.holds Tryz.pinned (.plain (OpenSpec.ofChange cycleFixesSpec)) cycleFixesCard

/-- THE TIED CARD OF 'katabasislaw06.CycleLoops'. -/
def cycleLoopsCard : Claim7 := { stood := { row := cycleLoopsRow, standIns := [], harness := (true, "79c33ea0d75ad8f9e4dcb05bfbfe73652d4ee15b9200491b0299798ce3824cde"), looks := true }, kinds := [], alts := [], laidByText := true, laidKinds := [.data, .data, .data, .sentinel, .sentinel], laidTests := true, laidLooks := .later }
def CycleLoopsCardSaid : Prop := Claim7.holds Tryz.pinned (.plain (OpenSpec.ofChange cycleLoopsSpec)) cycleLoopsCard

/-- THE TIED CARD OF 'katabasislaw06.CycleFixed'. -/
def cycleFixedCard : Claim7 := { stood := { row := cycleFixedRow, standIns := [], harness := (true, "79c33ea0d75ad8f9e4dcb05bfbfe73652d4ee15b9200491b0299798ce3824cde"), looks := true }, kinds := [], alts := [], laidByText := true, laidKinds := [.data, .data, .data, .sentinel, .sentinel], laidTests := true, laidLooks := .later }
def CycleFixedCardSaid : Prop := Claim7.holds Tryz.pinned (.plain (OpenSpec.ofChange cycleFixedSpec)) cycleFixedCard

/-- THE TIED CARD OF 'katabasislaw06.CycleTurns'. -/
def cycleTurnsCard : Claim7 := { stood := { row := cycleTurnsRow, standIns := [], harness := (true, "79c33ea0d75ad8f9e4dcb05bfbfe73652d4ee15b9200491b0299798ce3824cde"), looks := true }, kinds := [], alts := [], laidByText := true, laidKinds := [.data, .data, .data, .sentinel, .sentinel], laidTests := true, laidLooks := .later }
def CycleTurnsCardSaid : Prop := Claim7.holds Tryz.pinned (.plain (OpenSpec.ofChange cycleTurnsSpec)) cycleTurnsCard

/-- THE TIED CARD OF 'katabasislaw06.CycleIntegers'. -/
def cycleIntegersCard : Claim7 := { stood := { row := cycleIntegersRow, standIns := [], harness := (true, "79c33ea0d75ad8f9e4dcb05bfbfe73652d4ee15b9200491b0299798ce3824cde"), looks := true }, kinds := [], alts := [], laidByText := true, laidKinds := [.data, .data, .data, .sentinel, .sentinel], laidTests := true, laidLooks := .later }
def CycleIntegersCardSaid : Prop := Claim7.holds Tryz.pinned (.plain (OpenSpec.ofChange cycleIntegersSpec)) cycleIntegersCard

/-- THE TIED CARD OF 'katabasislaw06.CycleWords'. -/
def cycleWordsCard : Claim7 := { stood := { row := cycleWordsRow, standIns := [], harness := (true, "79c33ea0d75ad8f9e4dcb05bfbfe73652d4ee15b9200491b0299798ce3824cde"), looks := true }, kinds := [], alts := [], laidByText := true, laidKinds := [.data, .data, .data, .sentinel, .sentinel], laidTests := true, laidLooks := .later }
def CycleWordsCardSaid : Prop := Claim7.holds Tryz.pinned (.plain (OpenSpec.ofChange cycleWordsSpec)) cycleWordsCard

/-- THE TIED CARD OF 'katabasistop.TopFalls'. -/
def topFallsCard : Claim7 := { stood := { row := topFallsRow, standIns := [], harness := (true, "79c33ea0d75ad8f9e4dcb05bfbfe73652d4ee15b9200491b0299798ce3824cde"), looks := true }, kinds := [], alts := [], laidByText := true, laidKinds := [.data, .data, .data], laidTests := true, laidLooks := .later }
def TopFallsCardSaid : Prop := Claim7.holds Tryz.pinned (.plain (OpenSpec.ofChange topFallsSpec)) topFallsCard

/-- THE SECOND FORM's CARD OF 'katabasislaw04.SieveTells'. -/
def sieveTellsUptoCard : Claim7 := { stood := { row := sieveTellsUptoRow, standIns := [], harness := (true, "79c33ea0d75ad8f9e4dcb05bfbfe73652d4ee15b9200491b0299798ce3824cde"), looks := true }, kinds := [], alts := [], laidByText := true, laidKinds := [.data, .data, .data], laidTests := true, laidLooks := .later }
def SieveTellsUptoCardSaid : Prop := Claim7.holds Tryz.pinned (.plain (OpenSpec.upto sieveTellsSpec)) sieveTellsUptoCard

/-- THE SECOND FORM's CARD OF 'katabasislaw04.SieveFinds'. -/
def sieveFindsUptoCard : Claim7 := { stood := { row := sieveFindsUptoRow, standIns := [], harness := (true, "79c33ea0d75ad8f9e4dcb05bfbfe73652d4ee15b9200491b0299798ce3824cde"), looks := true }, kinds := [], alts := [], laidByText := true, laidKinds := [.data, .data, .data], laidTests := true, laidLooks := .later }
def SieveFindsUptoCardSaid : Prop := Claim7.holds Tryz.pinned (.plain (OpenSpec.upto sieveFindsSpec)) sieveFindsUptoCard

/-- THE SECOND FORM's CARD OF 'katabasislaw04.SieveAll'. -/
def sieveAllUptoCard : Claim7 := { stood := { row := sieveAllUptoRow, standIns := [], harness := (true, "79c33ea0d75ad8f9e4dcb05bfbfe73652d4ee15b9200491b0299798ce3824cde"), looks := true }, kinds := [], alts := [], laidByText := true, laidKinds := [.data, .data, .data], laidTests := true, laidLooks := .later }
def SieveAllUptoCardSaid : Prop := Claim7.holds Tryz.pinned (.plain (OpenSpec.upto sieveAllSpec)) sieveAllUptoCard

/-- THE SECOND FORM's CARD OF 'katabasislaw04.SieveLeft'. -/
def sieveLeftUptoCard : Claim7 := { stood := { row := sieveLeftUptoRow, standIns := [], harness := (true, "79c33ea0d75ad8f9e4dcb05bfbfe73652d4ee15b9200491b0299798ce3824cde"), looks := true }, kinds := [], alts := [], laidByText := true, laidKinds := [.data, .data, .data], laidTests := true, laidLooks := .later }
def SieveLeftUptoCardSaid : Prop := Claim7.holds Tryz.pinned (.plain (OpenSpec.upto sieveLeftSpec)) sieveLeftUptoCard

/-- THE SECOND FORM's CARD OF 'katabasislaw06.CycleFixes'. -/
def cycleFixesUptoCard : Claim7 := { stood := { row := cycleFixesUptoRow, standIns := [], harness := (true, "79c33ea0d75ad8f9e4dcb05bfbfe73652d4ee15b9200491b0299798ce3824cde"), looks := true }, kinds := [], alts := [], laidByText := true, laidKinds := [.data, .data, .data, .sentinel, .sentinel], laidTests := true, laidLooks := .later }
def CycleFixesUptoCardSaid : Prop := Claim7.holds Tryz.pinned (.plain (OpenSpec.upto cycleFixesSpec)) cycleFixesUptoCard

/-- THE SECOND FORM's CARD OF 'katabasislaw06.CycleLoops'. -/
def cycleLoopsUptoCard : Claim7 := { stood := { row := cycleLoopsUptoRow, standIns := [], harness := (true, "79c33ea0d75ad8f9e4dcb05bfbfe73652d4ee15b9200491b0299798ce3824cde"), looks := true }, kinds := [], alts := [], laidByText := true, laidKinds := [.data, .data, .data, .sentinel, .sentinel], laidTests := true, laidLooks := .later }
def CycleLoopsUptoCardSaid : Prop := Claim7.holds Tryz.pinned (.plain (OpenSpec.upto cycleLoopsSpec)) cycleLoopsUptoCard

/-- THE SECOND FORM's CARD OF 'katabasislaw06.CycleFixed'. -/
def cycleFixedUptoCard : Claim7 := { stood := { row := cycleFixedUptoRow, standIns := [], harness := (true, "79c33ea0d75ad8f9e4dcb05bfbfe73652d4ee15b9200491b0299798ce3824cde"), looks := true }, kinds := [], alts := [], laidByText := true, laidKinds := [.data, .data, .data, .sentinel, .sentinel], laidTests := true, laidLooks := .later }
def CycleFixedUptoCardSaid : Prop := Claim7.holds Tryz.pinned (.plain (OpenSpec.upto cycleFixedSpec)) cycleFixedUptoCard

/-- THE SECOND FORM's CARD OF 'katabasislaw06.CycleTurns'. -/
def cycleTurnsUptoCard : Claim7 := { stood := { row := cycleTurnsUptoRow, standIns := [], harness := (true, "79c33ea0d75ad8f9e4dcb05bfbfe73652d4ee15b9200491b0299798ce3824cde"), looks := true }, kinds := [], alts := [], laidByText := true, laidKinds := [.data, .data, .data, .sentinel, .sentinel], laidTests := true, laidLooks := .later }
def CycleTurnsUptoCardSaid : Prop := Claim7.holds Tryz.pinned (.plain (OpenSpec.upto cycleTurnsSpec)) cycleTurnsUptoCard

/-- THE SECOND FORM's CARD OF 'katabasislaw06.CycleIntegers'. -/
def cycleIntegersUptoCard : Claim7 := { stood := { row := cycleIntegersUptoRow, standIns := [], harness := (true, "79c33ea0d75ad8f9e4dcb05bfbfe73652d4ee15b9200491b0299798ce3824cde"), looks := true }, kinds := [], alts := [], laidByText := true, laidKinds := [.data, .data, .data, .sentinel, .sentinel], laidTests := true, laidLooks := .later }
def CycleIntegersUptoCardSaid : Prop := Claim7.holds Tryz.pinned (.plain (OpenSpec.upto cycleIntegersSpec)) cycleIntegersUptoCard

/-- THE SECOND FORM's CARD OF 'katabasislaw06.CycleWords'. -/
def cycleWordsUptoCard : Claim7 := { stood := { row := cycleWordsUptoRow, standIns := [], harness := (true, "79c33ea0d75ad8f9e4dcb05bfbfe73652d4ee15b9200491b0299798ce3824cde"), looks := true }, kinds := [], alts := [], laidByText := true, laidKinds := [.data, .data, .data, .sentinel, .sentinel], laidTests := true, laidLooks := .later }
def CycleWordsUptoCardSaid : Prop := Claim7.holds Tryz.pinned (.plain (OpenSpec.upto cycleWordsSpec)) cycleWordsUptoCard

/-- THE SECOND FORM's CARD OF 'katabasistop.TopFalls'. -/
def topFallsUptoCard : Claim7 := { stood := { row := topFallsUptoRow, standIns := [], harness := (true, "79c33ea0d75ad8f9e4dcb05bfbfe73652d4ee15b9200491b0299798ce3824cde"), looks := true }, kinds := [], alts := [], laidByText := true, laidKinds := [.data, .data, .data], laidTests := true, laidLooks := .later }
def TopFallsUptoCardSaid : Prop := Claim7.holds Tryz.pinned (.plain (OpenSpec.upto topFallsSpec)) topFallsUptoCard
end Rows
end Go.Proofs.YtleccblkafcidaaGreatDoor
