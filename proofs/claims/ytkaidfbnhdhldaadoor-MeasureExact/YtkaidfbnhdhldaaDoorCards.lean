/-
  DERIVED. GIVEN WITH THE SEED: THE CARDS: each row of YtkaidfbnhdhldaaDoorRows.lean that lists a variable, with what it lists TIED to the program's text (the seventh form; the later family's looks); each row that meets fmt, with fmt's text TOLD by the authors' own Lean function (tested against real Go, not proved from fmt's source: count such statements apart). THE CARD IS WHAT COUNTS. Prove the row's statement (the work); the ties are given (YtkaidfbnhdhldaaDoorTie.lean); close each card by the builder's one call (the guide's Derived/Test/ToyasCard.lean, 'card_holds'). Laid BY PROGRAM, IN A SANDBOX (cutbox-door.mjs). By AI agents, Wed Nov 11 2026. No macro, syntax, notation, axiom, sorry.
-/
import Derived.Test.YtkaidfbnhdhldaaDoorRows
import GoSem.ClaimSeven
namespace Go.Proofs.YtkaidfbnhdhldaaDoor
namespace Rows

/-- THE TIED CARD OF 'plumblaw13.MeasureExact'. -/
def measureExactCard : Claim7 := { stood := { row := measureExactRow, standIns := [], harness := (true, "e40a9b6c0f7d958f4eed4b6eca4d93878e58f40158bd7004da9df71a3e726bda"), looks := true }, kinds := [], alts := [], laidByText := true, laidKinds := [.data, .data, .wider], laidTests := true, laidLooks := .later }
def MeasureExactCardSaid : Prop := Claim7.holds Tryd.pinned (.plain (OpenSpec.ofChange measureExactSpec)) measureExactCard

/-- THE SECOND FORM's CARD OF 'plumblaw13.MeasureExact'. -/
def measureExactUptoCard : Claim7 := { stood := { row := measureExactUptoRow, standIns := [], harness := (true, "e40a9b6c0f7d958f4eed4b6eca4d93878e58f40158bd7004da9df71a3e726bda"), looks := true }, kinds := [], alts := [], laidByText := true, laidKinds := [.data, .data, .wider], laidTests := true, laidLooks := .later }
def MeasureExactUptoCardSaid : Prop := Claim7.holds Tryd.pinned (.plain (OpenSpec.upto measureExactSpec)) measureExactUptoCard
end Rows
end Go.Proofs.YtkaidfbnhdhldaaDoor
