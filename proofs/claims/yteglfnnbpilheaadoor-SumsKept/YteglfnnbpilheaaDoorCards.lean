/-
  DERIVED. GIVEN WITH THE SEED: THE CARDS: each row of YteglfnnbpilheaaDoorRows.lean that lists a variable, with what it lists TIED to the program's text (the seventh form; the later family's looks); each row that meets fmt, with fmt's text TOLD by the authors' own Lean function (tested against real Go, not proved from fmt's source: count such statements apart). THE CARD IS WHAT COUNTS. Prove the row's statement (the work); the ties are given (YteglfnnbpilheaaDoorTie.lean); close each card by the builder's one call (the guide's Derived/Test/ToyasCard.lean, 'card_holds'). Laid BY PROGRAM, IN A SANDBOX (cutbox-door.mjs). By AI agents, Wed Nov 11 2026. No macro, syntax, notation, axiom, sorry.
-/
import Derived.Test.YteglfnnbpilheaaDoorRows
import GoSem.ClaimSeven
namespace Go.Proofs.YteglfnnbpilheaaDoor
namespace Rows

/-- THE TIED CARD OF 'plumblaw5.SumsOnce'. -/
def sumsOnceCard : Claim7 := { stood := { row := sumsOnceRow, standIns := [], harness := (true, "301bb4bd77881b23a87814732c0f6683f951d509a4f6afdbf1f1cd2709bb1d3c"), looks := true }, kinds := [], alts := [], laidByText := true, laidKinds := [.data, .data, .wider, .wider], laidTests := true, laidLooks := .later }
def SumsOnceCardSaid : Prop := Claim7.holds Tryd.pinned (.plain (OpenSpec.ofChange sumsOnceSpec)) sumsOnceCard

/-- THE TIED CARD OF 'plumblaw5.SumsOrders'. -/
def sumsOrdersCard : Claim7 := { stood := { row := sumsOrdersRow, standIns := [], harness := (true, "301bb4bd77881b23a87814732c0f6683f951d509a4f6afdbf1f1cd2709bb1d3c"), looks := true }, kinds := [], alts := [], laidByText := true, laidKinds := [.data, .data, .wider, .wider], laidTests := true, laidLooks := .later }
def SumsOrdersCardSaid : Prop := Claim7.holds Tryd.pinned (.plain (OpenSpec.ofChange sumsOrdersSpec)) sumsOrdersCard

/-- THE TIED CARD OF 'plumblaw5.SumsKept'. -/
def sumsKeptCard : Claim7 := { stood := { row := sumsKeptRow, standIns := [], harness := (true, "301bb4bd77881b23a87814732c0f6683f951d509a4f6afdbf1f1cd2709bb1d3c"), looks := true }, kinds := [], alts := [], laidByText := true, laidKinds := [.data, .data, .wider, .wider], laidTests := true, laidLooks := .later }
def SumsKeptCardSaid : Prop := Claim7.holds Tryd.pinned (.plain (OpenSpec.ofChange sumsKeptSpec)) sumsKeptCard

/-- THE SECOND FORM's CARD OF 'plumblaw5.SumsOnce'. -/
def sumsOnceUptoCard : Claim7 := { stood := { row := sumsOnceUptoRow, standIns := [], harness := (true, "301bb4bd77881b23a87814732c0f6683f951d509a4f6afdbf1f1cd2709bb1d3c"), looks := true }, kinds := [], alts := [], laidByText := true, laidKinds := [.data, .data, .wider, .wider], laidTests := true, laidLooks := .later }
def SumsOnceUptoCardSaid : Prop := Claim7.holds Tryd.pinned (.plain (OpenSpec.upto sumsOnceSpec)) sumsOnceUptoCard

/-- THE SECOND FORM's CARD OF 'plumblaw5.SumsOrders'. -/
def sumsOrdersUptoCard : Claim7 := { stood := { row := sumsOrdersUptoRow, standIns := [], harness := (true, "301bb4bd77881b23a87814732c0f6683f951d509a4f6afdbf1f1cd2709bb1d3c"), looks := true }, kinds := [], alts := [], laidByText := true, laidKinds := [.data, .data, .wider, .wider], laidTests := true, laidLooks := .later }
def SumsOrdersUptoCardSaid : Prop := Claim7.holds Tryd.pinned (.plain (OpenSpec.upto sumsOrdersSpec)) sumsOrdersUptoCard

/-- THE SECOND FORM's CARD OF 'plumblaw5.SumsKept'. -/
def sumsKeptUptoCard : Claim7 := { stood := { row := sumsKeptUptoRow, standIns := [], harness := (true, "301bb4bd77881b23a87814732c0f6683f951d509a4f6afdbf1f1cd2709bb1d3c"), looks := true }, kinds := [], alts := [], laidByText := true, laidKinds := [.data, .data, .wider, .wider], laidTests := true, laidLooks := .later }
def SumsKeptUptoCardSaid : Prop := Claim7.holds Tryd.pinned (.plain (OpenSpec.upto sumsKeptSpec)) sumsKeptUptoCard
end Rows
end Go.Proofs.YteglfnnbpilheaaDoor
