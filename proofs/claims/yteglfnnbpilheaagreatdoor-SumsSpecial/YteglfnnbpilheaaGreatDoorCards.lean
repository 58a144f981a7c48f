/-
  DERIVED. GIVEN WITH THE SEED: THE CARDS: each row of YteglfnnbpilheaaGreatDoorRows.lean that lists a variable, with what it lists TIED to the program's text (the seventh form; the later family's looks); each row that meets fmt, with fmt's text TOLD by the authors' own Lean function (tested against real Go, not proved from fmt's source: count such statements apart). THE CARD IS WHAT COUNTS. Prove the row's statement (the work); the ties are given (YteglfnnbpilheaaGreatDoorTie.lean); close each card by the builder's one call (the guide's Derived/Test/ToyasCard.lean, 'card_holds'). Laid BY PROGRAM, IN A SANDBOX (cutbox-door.mjs). By AI agents, Wed Nov 11 2026. No macro, syntax, notation, axiom, sorry.
-/
import Derived.Test.YteglfnnbpilheaaGreatDoorRows
import GoSem.ClaimSeven
namespace Go.Proofs.YteglfnnbpilheaaGreatDoor
namespace Rows

/-- THE TIED CARD OF 'plumblaw5.SumsShort'. -/
def sumsShortCard : Claim7 := { stood := { row := sumsShortRow, standIns := [], harness := (true, "a78074b6b99d03dfda197a7926ba5027fd43089dbba9b494315164233fb781ee"), looks := true }, kinds := [], alts := [], laidByText := true, laidKinds := [.data, .data, .wider, .wider], laidTests := true, laidLooks := .later }
def SumsShortCardSaid : Prop := Claim7.holds Tryz.pinned (.plain (OpenSpec.ofChange sumsShortSpec)) sumsShortCard

/-- THE TIED CARD OF 'plumblaw5.SumsSpecial'. -/
def sumsSpecialCard : Claim7 := { stood := { row := sumsSpecialRow, standIns := [], harness := (true, "a78074b6b99d03dfda197a7926ba5027fd43089dbba9b494315164233fb781ee"), looks := true }, kinds := [], alts := [], laidByText := true, laidKinds := [.data, .data, .wider, .wider], laidTests := true, laidLooks := .later }
def SumsSpecialCardSaid : Prop := Claim7.holds Tryz.pinned (.plain (OpenSpec.ofChange sumsSpecialSpec)) sumsSpecialCard

/-- THE TIED CARD OF 'plumblaw5.SumsLimits'. -/
def sumsLimitsCard : Claim7 := { stood := { row := sumsLimitsRow, standIns := [], harness := (true, "a78074b6b99d03dfda197a7926ba5027fd43089dbba9b494315164233fb781ee"), looks := true }, kinds := [], alts := [], laidByText := true, laidKinds := [.data, .data, .wider, .wider], laidTests := true, laidLooks := .later }
def SumsLimitsCardSaid : Prop := Claim7.holds Tryz.pinned (.plain (OpenSpec.ofChange sumsLimitsSpec)) sumsLimitsCard

/-- THE SECOND FORM's CARD OF 'plumblaw5.SumsShort'. -/
def sumsShortUptoCard : Claim7 := { stood := { row := sumsShortUptoRow, standIns := [], harness := (true, "a78074b6b99d03dfda197a7926ba5027fd43089dbba9b494315164233fb781ee"), looks := true }, kinds := [], alts := [], laidByText := true, laidKinds := [.data, .data, .wider, .wider], laidTests := true, laidLooks := .later }
def SumsShortUptoCardSaid : Prop := Claim7.holds Tryz.pinned (.plain (OpenSpec.upto sumsShortSpec)) sumsShortUptoCard

/-- THE SECOND FORM's CARD OF 'plumblaw5.SumsSpecial'. -/
def sumsSpecialUptoCard : Claim7 := { stood := { row := sumsSpecialUptoRow, standIns := [], harness := (true, "a78074b6b99d03dfda197a7926ba5027fd43089dbba9b494315164233fb781ee"), looks := true }, kinds := [], alts := [], laidByText := true, laidKinds := [.data, .data, .wider, .wider], laidTests := true, laidLooks := .later }
def SumsSpecialUptoCardSaid : Prop := Claim7.holds Tryz.pinned (.plain (OpenSpec.upto sumsSpecialSpec)) sumsSpecialUptoCard

/-- THE SECOND FORM's CARD OF 'plumblaw5.SumsLimits'. -/
def sumsLimitsUptoCard : Claim7 := { stood := { row := sumsLimitsUptoRow, standIns := [], harness := (true, "a78074b6b99d03dfda197a7926ba5027fd43089dbba9b494315164233fb781ee"), looks := true }, kinds := [], alts := [], laidByText := true, laidKinds := [.data, .data, .wider, .wider], laidTests := true, laidLooks := .later }
def SumsLimitsUptoCardSaid : Prop := Claim7.holds Tryz.pinned (.plain (OpenSpec.upto sumsLimitsSpec)) sumsLimitsUptoCard
end Rows
end Go.Proofs.YteglfnnbpilheaaGreatDoor
