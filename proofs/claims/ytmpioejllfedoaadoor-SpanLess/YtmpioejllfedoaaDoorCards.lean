/-
  DERIVED. GIVEN WITH THE SEED: THE CARDS: each row of YtmpioejllfedoaaDoorRows.lean that lists a variable, with what it lists TIED to the program's text (the seventh form; the later family's looks); each row that meets fmt, with fmt's text TOLD by the authors' own Lean function (tested against real Go, not proved from fmt's source: count such statements apart). THE CARD IS WHAT COUNTS. Prove the row's statement (the work); the ties are given (YtmpioejllfedoaaDoorTie.lean); close each card by the builder's one call (the guide's Derived/Test/ToyasCard.lean, 'card_holds'). Laid BY PROGRAM, IN A SANDBOX (cutbox-door.mjs). By AI agents, Wed Nov 11 2026. No macro, syntax, notation, axiom, sorry.
-/
import Derived.Test.YtmpioejllfedoaaDoorRows
import GoSem.ClaimSeven
namespace Go.Proofs.YtmpioejllfedoaaDoor
namespace Rows

/-- THE TIED CARD OF 'plumblaw8.SpanLess'. -/
def spanLessCard : Claim7 := { stood := { row := spanLessRow, standIns := [], harness := (true, "400c2c6b63e4c019f49089169ff10cfdbccbdf33ff7ff296b777a0acf6c65ccf"), looks := true }, kinds := [], alts := [], laidByText := true, laidKinds := [.data, .data, .wider], laidTests := true, laidLooks := .later }
def SpanLessCardSaid : Prop := Claim7.holds Tryd.pinned (.plain (OpenSpec.ofChange spanLessSpec)) spanLessCard

/-- THE SECOND FORM's CARD OF 'plumblaw8.SpanLess'. -/
def spanLessUptoCard : Claim7 := { stood := { row := spanLessUptoRow, standIns := [], harness := (true, "400c2c6b63e4c019f49089169ff10cfdbccbdf33ff7ff296b777a0acf6c65ccf"), looks := true }, kinds := [], alts := [], laidByText := true, laidKinds := [.data, .data, .wider], laidTests := true, laidLooks := .later }
def SpanLessUptoCardSaid : Prop := Claim7.holds Tryd.pinned (.plain (OpenSpec.upto spanLessSpec)) spanLessUptoCard
end Rows
end Go.Proofs.YtmpioejllfedoaaDoor
