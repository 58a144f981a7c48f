/-
  DERIVED. GIVEN WITH THE SEED: THE CARDS: each row of YtnhkagiionkjaaaDoorRows.lean that lists a variable, with what it lists TIED to the program's text (the seventh form; the later family's looks); each row that meets fmt, with fmt's text TOLD by the authors' own Lean function (tested against real Go, not proved from fmt's source: count such statements apart). THE CARD IS WHAT COUNTS. Prove the row's statement (the work); the ties are given (YtnhkagiionkjaaaDoorTie.lean); close each card by the builder's one call (the guide's Derived/Test/ToyasCard.lean, 'card_holds'). Laid BY PROGRAM, IN A SANDBOX (cutbox-door.mjs). By AI agents, Wed Nov 11 2026. No macro, syntax, notation, axiom, sorry.
-/
import Derived.Test.YtnhkagiionkjaaaDoorRows
import GoSem.ClaimSeven
namespace Go.Proofs.YtnhkagiionkjaaaDoor
namespace Rows

/-- THE TIED CARD OF 'plumblaw3.DyadicLists'. -/
def dyadicListsCard : Claim7 := { stood := { row := dyadicListsRow, standIns := [], harness := (true, "563ce14b5c2f1e5b79de39d41dd426a755ee8a754c34ac8c1133f1e5a6c1fc1b"), looks := true }, kinds := [], alts := [], laidByText := true, laidKinds := [.data, .data, .wider], laidTests := true, laidLooks := .later }
def DyadicListsCardSaid : Prop := Claim7.holds Tryd.pinned (.plain (OpenSpec.ofChange dyadicListsSpec)) dyadicListsCard

/-- THE SECOND FORM's CARD OF 'plumblaw3.DyadicLists'. -/
def dyadicListsUptoCard : Claim7 := { stood := { row := dyadicListsUptoRow, standIns := [], harness := (true, "563ce14b5c2f1e5b79de39d41dd426a755ee8a754c34ac8c1133f1e5a6c1fc1b"), looks := true }, kinds := [], alts := [], laidByText := true, laidKinds := [.data, .data, .wider], laidTests := true, laidLooks := .later }
def DyadicListsUptoCardSaid : Prop := Claim7.holds Tryd.pinned (.plain (OpenSpec.upto dyadicListsSpec)) dyadicListsUptoCard
end Rows
end Go.Proofs.YtnhkagiionkjaaaDoor
