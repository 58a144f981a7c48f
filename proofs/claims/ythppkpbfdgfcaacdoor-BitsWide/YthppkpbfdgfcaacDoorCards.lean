/-
  DERIVED. GIVEN WITH THE SEED: THE CARDS: each row of YthppkpbfdgfcaacDoorRows.lean that lists a variable, with what it lists TIED to the program's text (the seventh form; the later family's looks); each row that meets fmt, with fmt's text TOLD by the authors' own Lean function (tested against real Go, not proved from fmt's source: count such statements apart). THE CARD IS WHAT COUNTS. Prove the row's statement (the work); the ties are given (YthppkpbfdgfcaacDoorTie.lean); close each card by the builder's one call (the guide's Derived/Test/ToyasCard.lean, 'card_holds'). Laid BY PROGRAM, IN A SANDBOX (cutbox-door.mjs). By AI agents, Wed Nov 11 2026. No macro, syntax, notation, axiom, sorry.
-/
import Derived.Test.YthppkpbfdgfcaacDoorRows
import GoSem.ClaimSeven
namespace Go.Proofs.YthppkpbfdgfcaacDoor
namespace Rows

/-- THE TIED CARD OF 'plumblaw1.BitsWide'. -/
def bitsWideCard : Claim7 := { stood := { row := bitsWideRow, standIns := [], harness := (true, "e7340a52e94a36e6650d82612b704beed39030479aa90f3eab19d8c27d0ce205"), looks := false }, kinds := [], alts := [], laidByText := true, laidKinds := [.data, .wider, .wider], laidTests := true, laidLooks := .later }
def BitsWideCardSaid : Prop := Claim7.holds Tryd.pinned (.plain (OpenSpec.ofChange bitsWideSpec)) bitsWideCard

/-- THE SECOND FORM's CARD OF 'plumblaw1.BitsWide'. -/
def bitsWideUptoCard : Claim7 := { stood := { row := bitsWideUptoRow, standIns := [], harness := (true, "e7340a52e94a36e6650d82612b704beed39030479aa90f3eab19d8c27d0ce205"), looks := false }, kinds := [], alts := [], laidByText := true, laidKinds := [.data, .wider, .wider], laidTests := true, laidLooks := .later }
def BitsWideUptoCardSaid : Prop := Claim7.holds Tryd.pinned (.plain (OpenSpec.upto bitsWideSpec)) bitsWideUptoCard
end Rows
end Go.Proofs.YthppkpbfdgfcaacDoor
