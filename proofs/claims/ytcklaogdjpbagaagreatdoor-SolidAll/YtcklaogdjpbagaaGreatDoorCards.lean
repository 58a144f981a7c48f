/-
  DERIVED. GIVEN WITH THE SEED: THE CARDS: each row of YtcklaogdjpbagaaGreatDoorRows.lean that lists a variable, with what it lists TIED to the program's text (the seventh form; the later family's looks); each row that meets fmt, with fmt's text TOLD by the authors' own Lean function (tested against real Go, not proved from fmt's source: count such statements apart). THE CARD IS WHAT COUNTS. Prove the row's statement (the work); the ties are given (YtcklaogdjpbagaaGreatDoorTie.lean); close each card by the builder's one call (the guide's Derived/Test/ToyasCard.lean, 'card_holds'). Laid BY PROGRAM, IN A SANDBOX (cutbox-door.mjs). By AI agents, Wed Nov 11 2026. No macro, syntax, notation, axiom, sorry.
-/
import Derived.Test.YtcklaogdjpbagaaGreatDoorRows
import GoSem.ClaimSeven
namespace Go.Proofs.YtcklaogdjpbagaaGreatDoor
namespace Rows

/-- THE TIED CARD OF 'plumblaw12.SolidSides'. -/
def solidSidesCard : Claim7 := { stood := { row := solidSidesRow, standIns := [], harness := (true, "2cdb6ba9d4ecee91f1efc23feb0ef4ef9c061605513a16ceef12729f8e19afc6"), looks := true }, kinds := [], alts := [], laidByText := true, laidKinds := [.data, .data, .wider], laidTests := true, laidLooks := .later }
def SolidSidesCardSaid : Prop := Claim7.holds Tryz.pinned (.plain (OpenSpec.ofChange solidSidesSpec)) solidSidesCard

/-- THE TIED CARD OF 'plumblaw12.SolidSpheres'. -/
def solidSpheresCard : Claim7 := { stood := { row := solidSpheresRow, standIns := [], harness := (true, "2cdb6ba9d4ecee91f1efc23feb0ef4ef9c061605513a16ceef12729f8e19afc6"), looks := true }, kinds := [], alts := [], laidByText := true, laidKinds := [.data, .data, .wider], laidTests := true, laidLooks := .later }
def SolidSpheresCardSaid : Prop := Claim7.holds Tryz.pinned (.plain (OpenSpec.ofChange solidSpheresSpec)) solidSpheresCard

/-- THE TIED CARD OF 'plumblaw12.SolidAll'. -/
def solidAllCard : Claim7 := { stood := { row := solidAllRow, standIns := [], harness := (true, "2cdb6ba9d4ecee91f1efc23feb0ef4ef9c061605513a16ceef12729f8e19afc6"), looks := true }, kinds := [], alts := [], laidByText := true, laidKinds := [.data, .data, .wider], laidTests := true, laidLooks := .later }
def SolidAllCardSaid : Prop := Claim7.holds Tryz.pinned (.plain (OpenSpec.ofChange solidAllSpec)) solidAllCard

/-- THE SECOND FORM's CARD OF 'plumblaw12.SolidSides'. -/
def solidSidesUptoCard : Claim7 := { stood := { row := solidSidesUptoRow, standIns := [], harness := (true, "2cdb6ba9d4ecee91f1efc23feb0ef4ef9c061605513a16ceef12729f8e19afc6"), looks := true }, kinds := [], alts := [], laidByText := true, laidKinds := [.data, .data, .wider], laidTests := true, laidLooks := .later }
def SolidSidesUptoCardSaid : Prop := Claim7.holds Tryz.pinned (.plain (OpenSpec.upto solidSidesSpec)) solidSidesUptoCard

/-- THE SECOND FORM's CARD OF 'plumblaw12.SolidSpheres'. -/
def solidSpheresUptoCard : Claim7 := { stood := { row := solidSpheresUptoRow, standIns := [], harness := (true, "2cdb6ba9d4ecee91f1efc23feb0ef4ef9c061605513a16ceef12729f8e19afc6"), looks := true }, kinds := [], alts := [], laidByText := true, laidKinds := [.data, .data, .wider], laidTests := true, laidLooks := .later }
def SolidSpheresUptoCardSaid : Prop := Claim7.holds Tryz.pinned (.plain (OpenSpec.upto solidSpheresSpec)) solidSpheresUptoCard

/-- THE SECOND FORM's CARD OF 'plumblaw12.SolidAll'. -/
def solidAllUptoCard : Claim7 := { stood := { row := solidAllUptoRow, standIns := [], harness := (true, "2cdb6ba9d4ecee91f1efc23feb0ef4ef9c061605513a16ceef12729f8e19afc6"), looks := true }, kinds := [], alts := [], laidByText := true, laidKinds := [.data, .data, .wider], laidTests := true, laidLooks := .later }
def SolidAllUptoCardSaid : Prop := Claim7.holds Tryz.pinned (.plain (OpenSpec.upto solidAllSpec)) solidAllUptoCard
end Rows
end Go.Proofs.YtcklaogdjpbagaaGreatDoor
