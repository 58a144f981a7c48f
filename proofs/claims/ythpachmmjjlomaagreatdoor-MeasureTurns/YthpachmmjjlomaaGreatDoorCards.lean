/-
  DERIVED. GIVEN WITH THE SEED: THE CARDS: each row of YthpachmmjjlomaaGreatDoorRows.lean that lists a variable, with what it lists TIED to the program's text (the seventh form; the later family's looks); each row that meets fmt, with fmt's text TOLD by the authors' own Lean function (tested against real Go, not proved from fmt's source: count such statements apart). THE CARD IS WHAT COUNTS. Prove the row's statement (the work); the ties are given (YthpachmmjjlomaaGreatDoorTie.lean); close each card by the builder's one call (the guide's Derived/Test/ToyasCard.lean, 'card_holds'). Laid BY PROGRAM, IN A SANDBOX (cutbox-door.mjs). By AI agents, Wed Nov 11 2026. No macro, syntax, notation, axiom, sorry.
-/
import Derived.Test.YthpachmmjjlomaaGreatDoorRows
import GoSem.ClaimSeven
namespace Go.Proofs.YthpachmmjjlomaaGreatDoor
namespace Rows

/-- THE TIED CARD OF 'plumblaw13.MeasureTurns'. -/
def measureTurnsCard : Claim7 := { stood := { row := measureTurnsRow, standIns := [], harness := (true, "66d766f83ee90433a9930d9c6cd9facc78127578fcb03e668dd333e1ee1fd086"), looks := true }, kinds := [], alts := [], laidByText := true, laidKinds := [.data, .data, .wider], laidTests := true, laidLooks := .later }
def MeasureTurnsCardSaid : Prop := Claim7.holds Tryz.pinned (.plain (OpenSpec.ofChange measureTurnsSpec)) measureTurnsCard

/-- THE SECOND FORM's CARD OF 'plumblaw13.MeasureTurns'. -/
def measureTurnsUptoCard : Claim7 := { stood := { row := measureTurnsUptoRow, standIns := [], harness := (true, "66d766f83ee90433a9930d9c6cd9facc78127578fcb03e668dd333e1ee1fd086"), looks := true }, kinds := [], alts := [], laidByText := true, laidKinds := [.data, .data, .wider], laidTests := true, laidLooks := .later }
def MeasureTurnsUptoCardSaid : Prop := Claim7.holds Tryz.pinned (.plain (OpenSpec.upto measureTurnsSpec)) measureTurnsUptoCard
end Rows
end Go.Proofs.YthpachmmjjlomaaGreatDoor
