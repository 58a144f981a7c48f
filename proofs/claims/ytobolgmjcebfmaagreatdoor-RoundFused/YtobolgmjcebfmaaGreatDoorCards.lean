/-
  DERIVED. GIVEN WITH THE SEED: THE CARDS: each row of YtobolgmjcebfmaaGreatDoorRows.lean that lists a variable, with what it lists TIED to the program's text (the seventh form; the later family's looks); each row that meets fmt, with fmt's text TOLD by the authors' own Lean function (tested against real Go, not proved from fmt's source: count such statements apart). THE CARD IS WHAT COUNTS. Prove the row's statement (the work); the ties are given (YtobolgmjcebfmaaGreatDoorTie.lean); close each card by the builder's one call (the guide's Derived/Test/ToyasCard.lean, 'card_holds'). Laid BY PROGRAM, IN A SANDBOX (cutbox-door.mjs). By AI agents, Wed Nov 11 2026. No macro, syntax, notation, axiom, sorry.
-/
import Derived.Test.YtobolgmjcebfmaaGreatDoorRows
import GoSem.ClaimSeven
namespace Go.Proofs.YtobolgmjcebfmaaGreatDoor
namespace Rows

/-- THE TIED CARD OF 'plumblaw4.RoundFused'. -/
def roundFusedCard : Claim7 := { stood := { row := roundFusedRow, standIns := [], harness := (true, "f5e915d27d1f969ce7b721384aaa45d959b8a71a0e2bc1632009f4eeba099009"), looks := true }, kinds := [], alts := [], laidByText := true, laidKinds := [.data, .data, .wider, .wider], laidTests := true, laidLooks := .later }
def RoundFusedCardSaid : Prop := Claim7.holds Tryz.pinned (.plain (OpenSpec.ofChange roundFusedSpec)) roundFusedCard

/-- THE SECOND FORM's CARD OF 'plumblaw4.RoundFused'. -/
def roundFusedUptoCard : Claim7 := { stood := { row := roundFusedUptoRow, standIns := [], harness := (true, "f5e915d27d1f969ce7b721384aaa45d959b8a71a0e2bc1632009f4eeba099009"), looks := true }, kinds := [], alts := [], laidByText := true, laidKinds := [.data, .data, .wider, .wider], laidTests := true, laidLooks := .later }
def RoundFusedUptoCardSaid : Prop := Claim7.holds Tryz.pinned (.plain (OpenSpec.upto roundFusedSpec)) roundFusedUptoCard
end Rows
end Go.Proofs.YtobolgmjcebfmaaGreatDoor
