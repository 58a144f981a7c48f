/-
  DERIVED. GIVEN WITH THE SEED: THE CARDS: each row of YtcpjdgfnblkfpaaGreatDoorRows.lean that lists a variable, with what it lists TIED to the program's text (the seventh form; the later family's looks); each row that meets fmt, with fmt's text TOLD by the authors' own Lean function (tested against real Go, not proved from fmt's source: count such statements apart). THE CARD IS WHAT COUNTS. Prove the row's statement (the work); the ties are given (YtcpjdgfnblkfpaaGreatDoorTie.lean); close each card by the builder's one call (the guide's Derived/Test/ToyasCard.lean, 'card_holds'). Laid BY PROGRAM, IN A SANDBOX (cutbox-door.mjs). By AI agents, Wed Nov 11 2026. No macro, syntax, notation, axiom, sorry.
-/
import Derived.Test.YtcpjdgfnblkfpaaGreatDoorRows
import GoSem.ClaimSeven
namespace Go.Proofs.YtcpjdgfnblkfpaaGreatDoor
namespace Rows

/-- THE TIED CARD OF 'plumblaw13.MeasureRight'. -/
def measureRightCard : Claim7 := { stood := { row := measureRightRow, standIns := [], harness := (true, "7fb6a0e6b67c67cd97125e33dcd22564f65c59f77e4d4767230d128cc254da16"), looks := true }, kinds := [], alts := [], laidByText := true, laidKinds := [.data, .data, .wider], laidTests := true, laidLooks := .later }
def MeasureRightCardSaid : Prop := Claim7.holds Tryz.pinned (.plain (OpenSpec.ofChange measureRightSpec)) measureRightCard

/-- THE SECOND FORM's CARD OF 'plumblaw13.MeasureRight'. -/
def measureRightUptoCard : Claim7 := { stood := { row := measureRightUptoRow, standIns := [], harness := (true, "7fb6a0e6b67c67cd97125e33dcd22564f65c59f77e4d4767230d128cc254da16"), looks := true }, kinds := [], alts := [], laidByText := true, laidKinds := [.data, .data, .wider], laidTests := true, laidLooks := .later }
def MeasureRightUptoCardSaid : Prop := Claim7.holds Tryz.pinned (.plain (OpenSpec.upto measureRightSpec)) measureRightUptoCard
end Rows
end Go.Proofs.YtcpjdgfnblkfpaaGreatDoor
