/-
  DERIVED. GIVEN WITH THE SEED: THE CARDS: each row of YtelnilmjhdneoaaGreatDoorRows.lean that lists a variable, with what it lists TIED to the program's text (the seventh form; the later family's looks); each row that meets fmt, with fmt's text TOLD by the authors' own Lean function (tested against real Go, not proved from fmt's source: count such statements apart). THE CARD IS WHAT COUNTS. Prove the row's statement (the work); the ties are given (YtelnilmjhdneoaaGreatDoorTie.lean); close each card by the builder's one call (the guide's Derived/Test/ToyasCard.lean, 'card_holds'). Laid BY PROGRAM, IN A SANDBOX (cutbox-door.mjs). By AI agents, Wed Nov 11 2026. No macro, syntax, notation, axiom, sorry.
-/
import Derived.Test.YtelnilmjhdneoaaGreatDoorRows
import GoSem.ClaimSeven
namespace Go.Proofs.YtelnilmjhdneoaaGreatDoor
namespace Rows

/-- THE TIED CARD OF 'plumblaw10.OrientExact'. -/
def orientExactCard : Claim7 := { stood := { row := orientExactRow, standIns := [], harness := (true, "8070ed49bcf1a2d4e79a53952a4f3ca27405cbfd696f17b548ce8587e98b114e"), looks := true }, kinds := [], alts := [], laidByText := true, laidKinds := [.data, .data, .wider], laidTests := true, laidLooks := .later }
def OrientExactCardSaid : Prop := Claim7.holds Tryz.pinned (.plain (OpenSpec.ofChange orientExactSpec)) orientExactCard

/-- THE SECOND FORM's CARD OF 'plumblaw10.OrientExact'. -/
def orientExactUptoCard : Claim7 := { stood := { row := orientExactUptoRow, standIns := [], harness := (true, "8070ed49bcf1a2d4e79a53952a4f3ca27405cbfd696f17b548ce8587e98b114e"), looks := true }, kinds := [], alts := [], laidByText := true, laidKinds := [.data, .data, .wider], laidTests := true, laidLooks := .later }
def OrientExactUptoCardSaid : Prop := Claim7.holds Tryz.pinned (.plain (OpenSpec.upto orientExactSpec)) orientExactUptoCard
end Rows
end Go.Proofs.YtelnilmjhdneoaaGreatDoor
