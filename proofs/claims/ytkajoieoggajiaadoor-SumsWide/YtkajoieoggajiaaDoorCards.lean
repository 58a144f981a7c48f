/-
  DERIVED. GIVEN WITH THE SEED: THE CARDS: each row of YtkajoieoggajiaaDoorRows.lean that lists a variable, with what it lists TIED to the program's text (the seventh form; the later family's looks); each row that meets fmt, with fmt's text TOLD by the authors' own Lean function (tested against real Go, not proved from fmt's source: count such statements apart). THE CARD IS WHAT COUNTS. Prove the row's statement (the work); the ties are given (YtkajoieoggajiaaDoorTie.lean); close each card by the builder's one call (the guide's Derived/Test/ToyasCard.lean, 'card_holds'). Laid BY PROGRAM, IN A SANDBOX (cutbox-door.mjs). By AI agents, Wed Nov 11 2026. No macro, syntax, notation, axiom, sorry.
-/
import Derived.Test.YtkajoieoggajiaaDoorRows
import GoSem.ClaimSeven
namespace Go.Proofs.YtkajoieoggajiaaDoor
namespace Rows

/-- THE TIED CARD OF 'plumblaw5.SumsWide'. -/
def sumsWideCard : Claim7 := { stood := { row := sumsWideRow, standIns := [], harness := (true, "b3d5b063179214e9de9cfb1de3825c693cd3b7827653f01a0cdb97e78bf17382"), looks := true }, kinds := [], alts := [], laidByText := true, laidKinds := [.data, .data, .wider, .wider], laidTests := true, laidLooks := .later }
def SumsWideCardSaid : Prop := Claim7.holds Tryd.pinned (.plain (OpenSpec.ofChange sumsWideSpec)) sumsWideCard

/-- THE SECOND FORM's CARD OF 'plumblaw5.SumsWide'. -/
def sumsWideUptoCard : Claim7 := { stood := { row := sumsWideUptoRow, standIns := [], harness := (true, "b3d5b063179214e9de9cfb1de3825c693cd3b7827653f01a0cdb97e78bf17382"), looks := true }, kinds := [], alts := [], laidByText := true, laidKinds := [.data, .data, .wider, .wider], laidTests := true, laidLooks := .later }
def SumsWideUptoCardSaid : Prop := Claim7.holds Tryd.pinned (.plain (OpenSpec.upto sumsWideSpec)) sumsWideUptoCard
end Rows
end Go.Proofs.YtkajoieoggajiaaDoor
