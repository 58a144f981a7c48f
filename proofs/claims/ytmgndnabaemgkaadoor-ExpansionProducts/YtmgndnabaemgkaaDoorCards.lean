/-
  DERIVED. GIVEN WITH THE SEED: THE CARDS: each row of YtmgndnabaemgkaaDoorRows.lean that lists a variable, with what it lists TIED to the program's text (the seventh form; the later family's looks); each row that meets fmt, with fmt's text TOLD by the authors' own Lean function (tested against real Go, not proved from fmt's source: count such statements apart). THE CARD IS WHAT COUNTS. Prove the row's statement (the work); the ties are given (YtmgndnabaemgkaaDoorTie.lean); close each card by the builder's one call (the guide's Derived/Test/ToyasCard.lean, 'card_holds'). Laid BY PROGRAM, IN A SANDBOX (cutbox-door.mjs). By AI agents, Wed Nov 11 2026. No macro, syntax, notation, axiom, sorry.
-/
import Derived.Test.YtmgndnabaemgkaaDoorRows
import GoSem.ClaimSeven
namespace Go.Proofs.YtmgndnabaemgkaaDoor
namespace Rows

/-- THE TIED CARD OF 'plumblaw7.ExpansionProducts'. -/
def expansionProductsCard : Claim7 := { stood := { row := expansionProductsRow, standIns := [], harness := (true, "32676cf45181eb6e3cda436c85cbb6e0f5a199ec92b260afd0c560d19038bde5"), looks := true }, kinds := [], alts := [], laidByText := true, laidKinds := [.data, .data, .wider], laidTests := true, laidLooks := .later }
def ExpansionProductsCardSaid : Prop := Claim7.holds Tryd.pinned (.plain (OpenSpec.ofChange expansionProductsSpec)) expansionProductsCard

/-- THE SECOND FORM's CARD OF 'plumblaw7.ExpansionProducts'. -/
def expansionProductsUptoCard : Claim7 := { stood := { row := expansionProductsUptoRow, standIns := [], harness := (true, "32676cf45181eb6e3cda436c85cbb6e0f5a199ec92b260afd0c560d19038bde5"), looks := true }, kinds := [], alts := [], laidByText := true, laidKinds := [.data, .data, .wider], laidTests := true, laidLooks := .later }
def ExpansionProductsUptoCardSaid : Prop := Claim7.holds Tryd.pinned (.plain (OpenSpec.upto expansionProductsSpec)) expansionProductsUptoCard
end Rows
end Go.Proofs.YtmgndnabaemgkaaDoor
