/-
  DERIVED. GIVEN WITH THE SEED: THE CARDS: each row of YtdcppnnodgnojaaDoorRows.lean that lists a variable, with what it lists TIED to the program's text (the seventh form; the later family's looks); each row that meets fmt, with fmt's text TOLD by the authors' own Lean function (tested against real Go, not proved from fmt's source: count such statements apart). THE CARD IS WHAT COUNTS. Prove the row's statement (the work); the ties are given (YtdcppnnodgnojaaDoorTie.lean); close each card by the builder's one call (the guide's Derived/Test/ToyasCard.lean, 'card_holds'). Laid BY PROGRAM, IN A SANDBOX (cutbox-door.mjs). By AI agents, Wed Nov 11 2026. No macro, syntax, notation, axiom, sorry.
-/
import Derived.Test.YtdcppnnodgnojaaDoorRows
import GoSem.ClaimSeven
namespace Go.Proofs.YtdcppnnodgnojaaDoor
namespace Rows

/-- THE TIED CARD OF 'plumblaw12.SolidTrue'. -/
def solidTrueCard : Claim7 := { stood := { row := solidTrueRow, standIns := [], harness := (true, "760a7ea1fcc2b4d815a478c768cbf1117738071ee6ebafc8090a2011073fd052"), looks := true }, kinds := [], alts := [], laidByText := true, laidKinds := [.data, .data, .wider], laidTests := true, laidLooks := .later }
def SolidTrueCardSaid : Prop := Claim7.holds Tryd.pinned (.plain (OpenSpec.ofChange solidTrueSpec)) solidTrueCard

/-- THE TIED CARD OF 'plumblaw12.SolidFlat'. -/
def solidFlatCard : Claim7 := { stood := { row := solidFlatRow, standIns := [], harness := (true, "760a7ea1fcc2b4d815a478c768cbf1117738071ee6ebafc8090a2011073fd052"), looks := true }, kinds := [], alts := [], laidByText := true, laidKinds := [.data, .data, .wider], laidTests := true, laidLooks := .later }
def SolidFlatCardSaid : Prop := Claim7.holds Tryd.pinned (.plain (OpenSpec.ofChange solidFlatSpec)) solidFlatCard

/-- THE SECOND FORM's CARD OF 'plumblaw12.SolidTrue'. -/
def solidTrueUptoCard : Claim7 := { stood := { row := solidTrueUptoRow, standIns := [], harness := (true, "760a7ea1fcc2b4d815a478c768cbf1117738071ee6ebafc8090a2011073fd052"), looks := true }, kinds := [], alts := [], laidByText := true, laidKinds := [.data, .data, .wider], laidTests := true, laidLooks := .later }
def SolidTrueUptoCardSaid : Prop := Claim7.holds Tryd.pinned (.plain (OpenSpec.upto solidTrueSpec)) solidTrueUptoCard

/-- THE SECOND FORM's CARD OF 'plumblaw12.SolidFlat'. -/
def solidFlatUptoCard : Claim7 := { stood := { row := solidFlatUptoRow, standIns := [], harness := (true, "760a7ea1fcc2b4d815a478c768cbf1117738071ee6ebafc8090a2011073fd052"), looks := true }, kinds := [], alts := [], laidByText := true, laidKinds := [.data, .data, .wider], laidTests := true, laidLooks := .later }
def SolidFlatUptoCardSaid : Prop := Claim7.holds Tryd.pinned (.plain (OpenSpec.upto solidFlatSpec)) solidFlatUptoCard
end Rows
end Go.Proofs.YtdcppnnodgnojaaDoor
