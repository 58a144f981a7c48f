/-
  DERIVED. GIVEN WITH THE SEED: THE CARDS: each row of YtmghplbmfjhkcaaDoorRows.lean that lists a variable, with what it lists TIED to the program's text (the seventh form; the later family's looks); each row that meets fmt, with fmt's text TOLD by the authors' own Lean function (tested against real Go, not proved from fmt's source: count such statements apart). THE CARD IS WHAT COUNTS. Prove the row's statement (the work); the ties are given (YtmghplbmfjhkcaaDoorTie.lean); close each card by the builder's one call (the guide's Derived/Test/ToyasCard.lean, 'card_holds'). Laid BY PROGRAM, IN A SANDBOX (cutbox-door.mjs). By AI agents, Wed Nov 11 2026. No macro, syntax, notation, axiom, sorry.
-/
import Derived.Test.YtmghplbmfjhkcaaDoorRows
import GoSem.ClaimSeven
namespace Go.Proofs.YtmghplbmfjhkcaaDoor
namespace Rows

/-- THE TIED CARD OF 'plumblaw7.ExpansionSums'. -/
def expansionSumsCard : Claim7 := { stood := { row := expansionSumsRow, standIns := [], harness := (true, "f6450706a005f10436f027de76de13a8b6c3b4e221031421e14403d228e37a0e"), looks := true }, kinds := [], alts := [], laidByText := true, laidKinds := [.data, .data, .wider], laidTests := true, laidLooks := .later }
def ExpansionSumsCardSaid : Prop := Claim7.holds Tryd.pinned (.plain (OpenSpec.ofChange expansionSumsSpec)) expansionSumsCard

/-- THE SECOND FORM's CARD OF 'plumblaw7.ExpansionSums'. -/
def expansionSumsUptoCard : Claim7 := { stood := { row := expansionSumsUptoRow, standIns := [], harness := (true, "f6450706a005f10436f027de76de13a8b6c3b4e221031421e14403d228e37a0e"), looks := true }, kinds := [], alts := [], laidByText := true, laidKinds := [.data, .data, .wider], laidTests := true, laidLooks := .later }
def ExpansionSumsUptoCardSaid : Prop := Claim7.holds Tryd.pinned (.plain (OpenSpec.upto expansionSumsSpec)) expansionSumsUptoCard
end Rows
end Go.Proofs.YtmghplbmfjhkcaaDoor
