/-
  DERIVED. GIVEN WITH THE SEED: THE CARDS: each row of YtkieaijmjpckdabDoorRows.lean that lists a variable, with what it lists TIED to the program's text (the seventh form; the later family's looks); each row that meets fmt, with fmt's text TOLD by the authors' own Lean function (tested against real Go, not proved from fmt's source: count such statements apart). THE CARD IS WHAT COUNTS. Prove the row's statement (the work); the ties are given (YtkieaijmjpckdabDoorTie.lean); close each card by the builder's one call (the guide's Derived/Test/ToyasCard.lean, 'card_holds'). Laid BY PROGRAM, IN A SANDBOX (cutbox-door.mjs). By AI agents, Wed Nov 11 2026. No macro, syntax, notation, axiom, sorry.
-/
import Derived.Test.YtkieaijmjpckdabDoorRows
import GoSem.ClaimSeven
namespace Go.Proofs.YtkieaijmjpckdabDoor
namespace Rows

/-- THE TIED CARD OF 'plumblaw3.DyadicLimits'. -/
def dyadicLimitsCard : Claim7 := { stood := { row := dyadicLimitsRow, standIns := [], harness := (true, "cddec3554781bd275af0f7c10f6a659c851ec03db321db31a6b28059d9d60145"), looks := true }, kinds := [], alts := [], laidByText := true, laidKinds := [.data, .data, .wider], laidTests := true, laidLooks := .later }
def DyadicLimitsCardSaid : Prop := Claim7.holds Tryd.pinned (.plain (OpenSpec.ofChange dyadicLimitsSpec)) dyadicLimitsCard

/-- THE SECOND FORM's CARD OF 'plumblaw3.DyadicLimits'. -/
def dyadicLimitsUptoCard : Claim7 := { stood := { row := dyadicLimitsUptoRow, standIns := [], harness := (true, "cddec3554781bd275af0f7c10f6a659c851ec03db321db31a6b28059d9d60145"), looks := true }, kinds := [], alts := [], laidByText := true, laidKinds := [.data, .data, .wider], laidTests := true, laidLooks := .later }
def DyadicLimitsUptoCardSaid : Prop := Claim7.holds Tryd.pinned (.plain (OpenSpec.upto dyadicLimitsSpec)) dyadicLimitsUptoCard
end Rows
end Go.Proofs.YtkieaijmjpckdabDoor
