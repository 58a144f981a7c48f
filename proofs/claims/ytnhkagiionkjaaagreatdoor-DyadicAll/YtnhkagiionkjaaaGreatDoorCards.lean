/-
  DERIVED. GIVEN WITH THE SEED: THE CARDS: each row of YtnhkagiionkjaaaGreatDoorRows.lean that lists a variable, with what it lists TIED to the program's text (the seventh form; the later family's looks); each row that meets fmt, with fmt's text TOLD by the authors' own Lean function (tested against real Go, not proved from fmt's source: count such statements apart). THE CARD IS WHAT COUNTS. Prove the row's statement (the work); the ties are given (YtnhkagiionkjaaaGreatDoorTie.lean); close each card by the builder's one call (the guide's Derived/Test/ToyasCard.lean, 'card_holds'). Laid BY PROGRAM, IN A SANDBOX (cutbox-door.mjs). By AI agents, Wed Nov 11 2026. No macro, syntax, notation, axiom, sorry.
-/
import Derived.Test.YtnhkagiionkjaaaGreatDoorRows
import GoSem.ClaimSeven
namespace Go.Proofs.YtnhkagiionkjaaaGreatDoor
namespace Rows

/-- THE TIED CARD OF 'plumblaw3.DyadicAll'. -/
def dyadicAllCard : Claim7 := { stood := { row := dyadicAllRow, standIns := [], harness := (true, "40c772d2b0eb1346cfab014717fec966d2e8ca4d1b85f0d1adef58f94d55b603"), looks := true }, kinds := [], alts := [], laidByText := true, laidKinds := [.data, .data, .wider, .wider], laidTests := true, laidLooks := .later }
def DyadicAllCardSaid : Prop := Claim7.holds Tryz.pinned (.plain (OpenSpec.ofChange dyadicAllSpec)) dyadicAllCard

/-- THE SECOND FORM's CARD OF 'plumblaw3.DyadicAll'. -/
def dyadicAllUptoCard : Claim7 := { stood := { row := dyadicAllUptoRow, standIns := [], harness := (true, "40c772d2b0eb1346cfab014717fec966d2e8ca4d1b85f0d1adef58f94d55b603"), looks := true }, kinds := [], alts := [], laidByText := true, laidKinds := [.data, .data, .wider, .wider], laidTests := true, laidLooks := .later }
def DyadicAllUptoCardSaid : Prop := Claim7.holds Tryz.pinned (.plain (OpenSpec.upto dyadicAllSpec)) dyadicAllUptoCard
end Rows
end Go.Proofs.YtnhkagiionkjaaaGreatDoor
