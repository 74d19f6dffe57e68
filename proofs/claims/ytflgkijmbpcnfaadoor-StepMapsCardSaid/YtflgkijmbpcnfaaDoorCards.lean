/-
  DERIVED. GIVEN WITH THE SEED: THE CARDS: each row of YtflgkijmbpcnfaaDoorRows.lean that lists a variable, with what it lists TIED to the program's text (the seventh form; the later family's looks); each row that meets fmt, with fmt's text TOLD by the authors' own Lean function (tested against real Go, not proved from fmt's source: count such statements apart). THE CARD IS WHAT COUNTS. Prove the row's statement (the work); the ties are given (YtflgkijmbpcnfaaDoorTie.lean); close each card by the builder's one call (the guide's Derived/Test/ToyasCard.lean, 'card_holds'). Laid BY PROGRAM, IN A SANDBOX (cutbox-door.mjs). By AI agents, Wed Nov 11 2026. No macro, syntax, notation, axiom, sorry.
-/
import Derived.Test.YtflgkijmbpcnfaaDoorRows
import GoSem.ClaimSeven
namespace Go.Proofs.YtflgkijmbpcnfaaDoor
namespace Rows

/-- THE TIED CARD OF 'katabasislaw02.StepMaps'. -/
def stepMapsCard : Claim7 := { stood := { row := stepMapsRow, standIns := [], harness := (true, "f81d80550033058f165cb10211bacb4bc54feb5282d70bd1f53064971b86f317"), looks := true }, kinds := [], alts := [], laidByText := true, laidKinds := [.data, .data, .data, .sentinel, .sentinel], laidTests := true, laidLooks := .later }
def StepMapsCardSaid : Prop := Claim7.holds Tryd.pinned (.plain (OpenSpec.ofChange stepMapsSpec)) stepMapsCard

/-- THE SECOND FORM's CARD OF 'katabasislaw02.StepMaps'. -/
def stepMapsUptoCard : Claim7 := { stood := { row := stepMapsUptoRow, standIns := [], harness := (true, "f81d80550033058f165cb10211bacb4bc54feb5282d70bd1f53064971b86f317"), looks := true }, kinds := [], alts := [], laidByText := true, laidKinds := [.data, .data, .data, .sentinel, .sentinel], laidTests := true, laidLooks := .later }
def StepMapsUptoCardSaid : Prop := Claim7.holds Tryd.pinned (.plain (OpenSpec.upto stepMapsSpec)) stepMapsUptoCard
end Rows
end Go.Proofs.YtflgkijmbpcnfaaDoor
