/-
  DERIVED. GIVEN WITH THE SEED: THE CARDS: each row of YtkkpppgfoilgmaaGreatDoorRows.lean that lists a variable, with what it lists TIED to the program's text (the seventh form; the later family's looks); each row that meets fmt, with fmt's text TOLD by the authors' own Lean function (tested against real Go, not proved from fmt's source: count such statements apart). THE CARD IS WHAT COUNTS. Prove the row's statement (the work); the ties are given (YtkkpppgfoilgmaaGreatDoorTie.lean); close each card by the builder's one call (the guide's Derived/Test/ToyasCard.lean, 'card_holds'). Laid BY PROGRAM, IN A SANDBOX (cutbox-door.mjs). By AI agents, Wed Nov 11 2026. No macro, syntax, notation, axiom, sorry.
-/
import Derived.Test.YtkkpppgfoilgmaaGreatDoorRows
import GoSem.ClaimSeven
namespace Go.Proofs.YtkkpppgfoilgmaaGreatDoor
namespace Rows

/-- THE TIED CARD OF 'plumblaw8.SpanOnes'. -/
def spanOnesCard : Claim7 := { stood := { row := spanOnesRow, standIns := [], harness := (true, "4a4c93d97eec7be3955b856275fbe649efeb5ef6c6598f3aab616f6defd7cc3b"), looks := true }, kinds := [], alts := [], laidByText := true, laidKinds := [.data, .data, .wider], laidTests := true, laidLooks := .later }
def SpanOnesCardSaid : Prop := Claim7.holds Tryz.pinned (.plain (OpenSpec.ofChange spanOnesSpec)) spanOnesCard

/-- THE TIED CARD OF 'plumblaw8.SpanAll'. -/
def spanAllCard : Claim7 := { stood := { row := spanAllRow, standIns := [], harness := (true, "4a4c93d97eec7be3955b856275fbe649efeb5ef6c6598f3aab616f6defd7cc3b"), looks := true }, kinds := [], alts := [], laidByText := true, laidKinds := [.data, .data, .wider], laidTests := true, laidLooks := .later }
def SpanAllCardSaid : Prop := Claim7.holds Tryz.pinned (.plain (OpenSpec.ofChange spanAllSpec)) spanAllCard

/-- THE SECOND FORM's CARD OF 'plumblaw8.SpanOnes'. -/
def spanOnesUptoCard : Claim7 := { stood := { row := spanOnesUptoRow, standIns := [], harness := (true, "4a4c93d97eec7be3955b856275fbe649efeb5ef6c6598f3aab616f6defd7cc3b"), looks := true }, kinds := [], alts := [], laidByText := true, laidKinds := [.data, .data, .wider], laidTests := true, laidLooks := .later }
def SpanOnesUptoCardSaid : Prop := Claim7.holds Tryz.pinned (.plain (OpenSpec.upto spanOnesSpec)) spanOnesUptoCard

/-- THE SECOND FORM's CARD OF 'plumblaw8.SpanAll'. -/
def spanAllUptoCard : Claim7 := { stood := { row := spanAllUptoRow, standIns := [], harness := (true, "4a4c93d97eec7be3955b856275fbe649efeb5ef6c6598f3aab616f6defd7cc3b"), looks := true }, kinds := [], alts := [], laidByText := true, laidKinds := [.data, .data, .wider], laidTests := true, laidLooks := .later }
def SpanAllUptoCardSaid : Prop := Claim7.holds Tryz.pinned (.plain (OpenSpec.upto spanAllSpec)) spanAllUptoCard
end Rows
end Go.Proofs.YtkkpppgfoilgmaaGreatDoor
