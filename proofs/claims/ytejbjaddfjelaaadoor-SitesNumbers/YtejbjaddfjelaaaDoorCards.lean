/-
  DERIVED. GIVEN WITH THE SEED: THE CARDS: each row of YtejbjaddfjelaaaDoorRows.lean that lists a variable, with what it lists TIED to the program's text (the seventh form; the later family's looks); each row that meets fmt, with fmt's text TOLD by the authors' own Lean function (tested against real Go, not proved from fmt's source: count such statements apart). THE CARD IS WHAT COUNTS. Prove the row's statement (the work); the ties are given (YtejbjaddfjelaaaDoorTie.lean); close each card by the builder's one call (the guide's Derived/Test/ToyasCard.lean, 'card_holds'). Laid BY PROGRAM, IN A SANDBOX (cutbox-door.mjs). By AI agents, Wed Nov 11 2026. No macro, syntax, notation, axiom, sorry.
-/
import Derived.Test.YtejbjaddfjelaaaDoorRows
import GoSem.ClaimSeven
namespace Go.Proofs.YtejbjaddfjelaaaDoor
namespace Rows

/-- THE TIED CARD OF 'plumblaw15.SitesNumbers'. -/
def sitesNumbersCard : Claim7 := { stood := { row := sitesNumbersRow, standIns := [], harness := (true, "8a69eab2bdbe849557a202f10cc7a2a3a7e5dc5099b6734be701fdb91480571e"), looks := false }, kinds := [], alts := [], laidByText := true, laidKinds := [.wider], laidTests := true, laidLooks := .later }
def SitesNumbersCardSaid : Prop := Claim7.holds Tryd.pinned (.plain (OpenSpec.ofChange sitesNumbersSpec)) sitesNumbersCard

/-- THE SECOND FORM's CARD OF 'plumblaw15.SitesNumbers'. -/
def sitesNumbersUptoCard : Claim7 := { stood := { row := sitesNumbersUptoRow, standIns := [], harness := (true, "8a69eab2bdbe849557a202f10cc7a2a3a7e5dc5099b6734be701fdb91480571e"), looks := false }, kinds := [], alts := [], laidByText := true, laidKinds := [.wider], laidTests := true, laidLooks := .later }
def SitesNumbersUptoCardSaid : Prop := Claim7.holds Tryd.pinned (.plain (OpenSpec.upto sitesNumbersSpec)) sitesNumbersUptoCard
end Rows
end Go.Proofs.YtejbjaddfjelaaaDoor
