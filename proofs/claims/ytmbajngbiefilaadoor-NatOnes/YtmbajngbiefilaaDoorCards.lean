/-
  DERIVED. GIVEN WITH THE SEED: THE CARDS: each row of YtmbajngbiefilaaDoorRows.lean that lists a variable, with what it lists TIED to the program's text (the seventh form; the later family's looks); each row that meets fmt, with fmt's text TOLD by the authors' own Lean function (tested against real Go, not proved from fmt's source: count such statements apart). THE CARD IS WHAT COUNTS. Prove the row's statement (the work); the ties are given (YtmbajngbiefilaaDoorTie.lean); close each card by the builder's one call (the guide's Derived/Test/ToyasCard.lean, 'card_holds'). Laid BY PROGRAM, IN A SANDBOX (cutbox-door.mjs). By AI agents, Wed Nov 11 2026. No macro, syntax, notation, axiom, sorry.
-/
import Derived.Test.YtmbajngbiefilaaDoorRows
import GoSem.ClaimSeven
namespace Go.Proofs.YtmbajngbiefilaaDoor
namespace Rows

/-- THE TIED CARD OF 'plumblaw2.NatOnes'. -/
def natOnesCard : Claim7 := { stood := { row := natOnesRow, standIns := [], harness := (true, "c3b397eec8f9b0b45963f68486eb66b5123725e4e4c382924148bb886704dc89"), looks := false }, kinds := [], alts := [], laidByText := true, laidKinds := [.data, .data, .data], laidTests := true, laidLooks := .later }
def NatOnesCardSaid : Prop := Claim7.holds Tryd.pinned (.plain (OpenSpec.ofChange natOnesSpec)) natOnesCard

/-- THE SECOND FORM's CARD OF 'plumblaw2.NatOnes'. -/
def natOnesUptoCard : Claim7 := { stood := { row := natOnesUptoRow, standIns := [], harness := (true, "c3b397eec8f9b0b45963f68486eb66b5123725e4e4c382924148bb886704dc89"), looks := false }, kinds := [], alts := [], laidByText := true, laidKinds := [.data, .data, .data], laidTests := true, laidLooks := .later }
def NatOnesUptoCardSaid : Prop := Claim7.holds Tryd.pinned (.plain (OpenSpec.upto natOnesSpec)) natOnesUptoCard
end Rows
end Go.Proofs.YtmbajngbiefilaaDoor
