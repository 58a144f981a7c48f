/-
  DERIVED. GIVEN WITH THE SEED: THE CARDS: each row of YtmmnoneehiibiaaGreatDoorRows.lean that lists a variable, with what it lists TIED to the program's text (the seventh form; the later family's looks); each row that meets fmt, with fmt's text TOLD by the authors' own Lean function (tested against real Go, not proved from fmt's source: count such statements apart). THE CARD IS WHAT COUNTS. Prove the row's statement (the work); the ties are given (YtmmnoneehiibiaaGreatDoorTie.lean); close each card by the builder's one call (the guide's Derived/Test/ToyasCard.lean, 'card_holds'). Laid BY PROGRAM, IN A SANDBOX (cutbox-door.mjs). By AI agents, Wed Nov 11 2026. No macro, syntax, notation, axiom, sorry.
-/
import Derived.Test.YtmmnoneehiibiaaGreatDoorRows
import GoSem.ClaimSeven
namespace Go.Proofs.YtmmnoneehiibiaaGreatDoor
namespace Rows

/-- THE TIED CARD OF 'plumblaw13.MeasureBetween'. -/
def measureBetweenCard : Claim7 := { stood := { row := measureBetweenRow, standIns := [], harness := (true, "e3fd562444df321dddd290162eccfb69b380427b7106f17cd696379fea3acfe2"), looks := true }, kinds := [], alts := [], laidByText := true, laidKinds := [.data, .data, .wider], laidTests := true, laidLooks := .later }
def MeasureBetweenCardSaid : Prop := Claim7.holds Tryz.pinned (.plain (OpenSpec.ofChange measureBetweenSpec)) measureBetweenCard

/-- THE SECOND FORM's CARD OF 'plumblaw13.MeasureBetween'. -/
def measureBetweenUptoCard : Claim7 := { stood := { row := measureBetweenUptoRow, standIns := [], harness := (true, "e3fd562444df321dddd290162eccfb69b380427b7106f17cd696379fea3acfe2"), looks := true }, kinds := [], alts := [], laidByText := true, laidKinds := [.data, .data, .wider], laidTests := true, laidLooks := .later }
def MeasureBetweenUptoCardSaid : Prop := Claim7.holds Tryz.pinned (.plain (OpenSpec.upto measureBetweenSpec)) measureBetweenUptoCard
end Rows
end Go.Proofs.YtmmnoneehiibiaaGreatDoor
