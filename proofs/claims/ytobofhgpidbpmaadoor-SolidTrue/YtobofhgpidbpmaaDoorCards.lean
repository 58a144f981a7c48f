/-
  DERIVED. GIVEN WITH THE SEED: THE CARDS: each row of YtobofhgpidbpmaaDoorRows.lean that lists a variable, with what it lists TIED to the program's text (the seventh form; the later family's looks); each row that meets fmt, with fmt's text TOLD by the authors' own Lean function (tested against real Go, not proved from fmt's source: count such statements apart). THE CARD IS WHAT COUNTS. Prove the row's statement (the work); the ties are given (YtobofhgpidbpmaaDoorTie.lean); close each card by the builder's one call (the guide's Derived/Test/ToyasCard.lean, 'card_holds'). Laid BY PROGRAM, IN A SANDBOX (cutbox-door.mjs). By AI agents, Wed Nov 11 2026. No macro, syntax, notation, axiom, sorry.
-/
import Derived.Test.YtobofhgpidbpmaaDoorRows
import GoSem.ClaimSeven
namespace Go.Proofs.YtobofhgpidbpmaaDoor
namespace Rows

/-- THE TIED CARD OF 'plumblaw12.SolidTrue'. -/
def solidTrueCard : Claim7 := { stood := { row := solidTrueRow, standIns := [], harness := (true, "c73414cafeec518e526660faa7dfa44b3db78e3303a3c1d6d245f1ad67fdd3d4"), looks := true }, kinds := [], alts := [], laidByText := true, laidKinds := [.data, .data, .wider], laidTests := true, laidLooks := .later }
def SolidTrueCardSaid : Prop := Claim7.holds Tryd.pinned (.plain (OpenSpec.ofChange solidTrueSpec)) solidTrueCard

/-- THE SECOND FORM's CARD OF 'plumblaw12.SolidTrue'. -/
def solidTrueUptoCard : Claim7 := { stood := { row := solidTrueUptoRow, standIns := [], harness := (true, "c73414cafeec518e526660faa7dfa44b3db78e3303a3c1d6d245f1ad67fdd3d4"), looks := true }, kinds := [], alts := [], laidByText := true, laidKinds := [.data, .data, .wider], laidTests := true, laidLooks := .later }
def SolidTrueUptoCardSaid : Prop := Claim7.holds Tryd.pinned (.plain (OpenSpec.upto solidTrueSpec)) solidTrueUptoCard
end Rows
end Go.Proofs.YtobofhgpidbpmaaDoor
