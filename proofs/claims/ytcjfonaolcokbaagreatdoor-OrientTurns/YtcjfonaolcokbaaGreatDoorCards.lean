/-
  DERIVED. GIVEN WITH THE SEED: THE CARDS: each row of YtcjfonaolcokbaaGreatDoorRows.lean that lists a variable, with what it lists TIED to the program's text (the seventh form; the later family's looks); each row that meets fmt, with fmt's text TOLD by the authors' own Lean function (tested against real Go, not proved from fmt's source: count such statements apart). THE CARD IS WHAT COUNTS. Prove the row's statement (the work); the ties are given (YtcjfonaolcokbaaGreatDoorTie.lean); close each card by the builder's one call (the guide's Derived/Test/ToyasCard.lean, 'card_holds'). Laid BY PROGRAM, IN A SANDBOX (cutbox-door.mjs). By AI agents, Wed Nov 11 2026. No macro, syntax, notation, axiom, sorry.
-/
import Derived.Test.YtcjfonaolcokbaaGreatDoorRows
import GoSem.ClaimSeven
namespace Go.Proofs.YtcjfonaolcokbaaGreatDoor
namespace Rows

/-- THE TIED CARD OF 'plumblaw10.OrientTurns'. -/
def orientTurnsCard : Claim7 := { stood := { row := orientTurnsRow, standIns := [], harness := (true, "b80ed4be1f7f0841af14eea0b6e034ad2d5a4c0836fb244baa713327d4981a33"), looks := true }, kinds := [], alts := [], laidByText := true, laidKinds := [.data, .data, .wider], laidTests := true, laidLooks := .later }
def OrientTurnsCardSaid : Prop := Claim7.holds Tryz.pinned (.plain (OpenSpec.ofChange orientTurnsSpec)) orientTurnsCard

/-- THE SECOND FORM's CARD OF 'plumblaw10.OrientTurns'. -/
def orientTurnsUptoCard : Claim7 := { stood := { row := orientTurnsUptoRow, standIns := [], harness := (true, "b80ed4be1f7f0841af14eea0b6e034ad2d5a4c0836fb244baa713327d4981a33"), looks := true }, kinds := [], alts := [], laidByText := true, laidKinds := [.data, .data, .wider], laidTests := true, laidLooks := .later }
def OrientTurnsUptoCardSaid : Prop := Claim7.holds Tryz.pinned (.plain (OpenSpec.upto orientTurnsSpec)) orientTurnsUptoCard
end Rows
end Go.Proofs.YtcjfonaolcokbaaGreatDoor
