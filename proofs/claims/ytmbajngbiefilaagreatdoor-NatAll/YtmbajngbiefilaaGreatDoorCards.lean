/-
  DERIVED. GIVEN WITH THE SEED: THE CARDS: each row of YtmbajngbiefilaaGreatDoorRows.lean that lists a variable, with what it lists TIED to the program's text (the seventh form; the later family's looks); each row that meets fmt, with fmt's text TOLD by the authors' own Lean function (tested against real Go, not proved from fmt's source: count such statements apart). THE CARD IS WHAT COUNTS. Prove the row's statement (the work); the ties are given (YtmbajngbiefilaaGreatDoorTie.lean); close each card by the builder's one call (the guide's Derived/Test/ToyasCard.lean, 'card_holds'). Laid BY PROGRAM, IN A SANDBOX (cutbox-door.mjs). By AI agents, Wed Nov 11 2026. No macro, syntax, notation, axiom, sorry.
-/
import Derived.Test.YtmbajngbiefilaaGreatDoorRows
import GoSem.ClaimSeven
namespace Go.Proofs.YtmbajngbiefilaaGreatDoor
namespace Rows

/-- THE TIED CARD OF 'plumblaw2.NatAll'. -/
def natAllCard : Claim7 := { stood := { row := natAllRow, standIns := [], harness := (true, "60aef9473a804d414c5878175881f57893c6b3c3c5ee89c5bac9cff10def6dac"), looks := false }, kinds := [], alts := [], laidByText := true, laidKinds := [.data, .data, .data], laidTests := true, laidLooks := .later }
def NatAllCardSaid : Prop := Claim7.holds Tryz.pinned (.plain (OpenSpec.ofChange natAllSpec)) natAllCard

/-- THE SECOND FORM's CARD OF 'plumblaw2.NatAll'. -/
def natAllUptoCard : Claim7 := { stood := { row := natAllUptoRow, standIns := [], harness := (true, "60aef9473a804d414c5878175881f57893c6b3c3c5ee89c5bac9cff10def6dac"), looks := false }, kinds := [], alts := [], laidByText := true, laidKinds := [.data, .data, .data], laidTests := true, laidLooks := .later }
def NatAllUptoCardSaid : Prop := Claim7.holds Tryz.pinned (.plain (OpenSpec.upto natAllSpec)) natAllUptoCard
end Rows
end Go.Proofs.YtmbajngbiefilaaGreatDoor
