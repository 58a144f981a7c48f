/-
  DERIVED. GIVEN WITH THE SEED: THE CARDS: each row of YtgfmjcekgpjloaaDoorRows.lean that lists a variable, with what it lists TIED to the program's text (the seventh form; the later family's looks); each row that meets fmt, with fmt's text TOLD by the authors' own Lean function (tested against real Go, not proved from fmt's source: count such statements apart). THE CARD IS WHAT COUNTS. Prove the row's statement (the work); the ties are given (YtgfmjcekgpjloaaDoorTie.lean); close each card by the builder's one call (the guide's Derived/Test/ToyasCard.lean, 'card_holds'). Laid BY PROGRAM, IN A SANDBOX (cutbox-door.mjs). By AI agents, Wed Nov 11 2026. No macro, syntax, notation, axiom, sorry.
-/
import Derived.Test.YtgfmjcekgpjloaaDoorRows
import GoSem.ClaimSeven
namespace Go.Proofs.YtgfmjcekgpjloaaDoor
namespace Rows

/-- THE TIED CARD OF 'plumblaw9.PointChecks'. -/
def pointChecksCard : Claim7 := { stood := { row := pointChecksRow, standIns := [], harness := (true, "4f1065af2a17a5a8939c1de0706dfeddf25cf3f59472a1494a48d3e474b4481d"), looks := false }, kinds := [], alts := [], laidByText := true, laidKinds := [.wider], laidTests := true, laidLooks := .later }
def PointChecksCardSaid : Prop := Claim7.holds Tryd.pinned (.plain (OpenSpec.ofChange pointChecksSpec)) pointChecksCard

/-- THE SECOND FORM's CARD OF 'plumblaw9.PointChecks'. -/
def pointChecksUptoCard : Claim7 := { stood := { row := pointChecksUptoRow, standIns := [], harness := (true, "4f1065af2a17a5a8939c1de0706dfeddf25cf3f59472a1494a48d3e474b4481d"), looks := false }, kinds := [], alts := [], laidByText := true, laidKinds := [.wider], laidTests := true, laidLooks := .later }
def PointChecksUptoCardSaid : Prop := Claim7.holds Tryd.pinned (.plain (OpenSpec.upto pointChecksSpec)) pointChecksUptoCard
end Rows
end Go.Proofs.YtgfmjcekgpjloaaDoor
