/-
  DERIVED. GIVEN WITH THE SEED: THE CARDS: each row of YtjlmpgbadgkgmaaGreatDoorRows.lean that lists a variable, with what it lists TIED to the program's text (the seventh form; the later family's looks); each row that meets fmt, with fmt's text TOLD by the authors' own Lean function (tested against real Go, not proved from fmt's source: count such statements apart). THE CARD IS WHAT COUNTS. Prove the row's statement (the work); the ties are given (YtjlmpgbadgkgmaaGreatDoorTie.lean); close each card by the builder's one call (the guide's Derived/Test/ToyasCard.lean, 'card_holds'). Laid BY PROGRAM, IN A SANDBOX (cutbox-door.mjs). By AI agents, Wed Nov 11 2026. No macro, syntax, notation, axiom, sorry.
-/
import Derived.Test.YtjlmpgbadgkgmaaGreatDoorRows
import GoSem.ClaimSeven
namespace Go.Proofs.YtjlmpgbadgkgmaaGreatDoor
namespace Rows

/-- THE TIED CARD OF 'plumblaw7.ExpansionFloats'. -/
def expansionFloatsCard : Claim7 := { stood := { row := expansionFloatsRow, standIns := [], harness := (true, "894fedc68e7d0671737a4c4df9d08af7270897de4d4828e58e7136397cca1470"), looks := true }, kinds := [], alts := [], laidByText := true, laidKinds := [.data, .data, .wider], laidTests := true, laidLooks := .later }
def ExpansionFloatsCardSaid : Prop := Claim7.holds Tryz.pinned (.plain (OpenSpec.ofChange expansionFloatsSpec)) expansionFloatsCard

/-- THE TIED CARD OF 'plumblaw7.ExpansionPairs'. -/
def expansionPairsCard : Claim7 := { stood := { row := expansionPairsRow, standIns := [], harness := (true, "894fedc68e7d0671737a4c4df9d08af7270897de4d4828e58e7136397cca1470"), looks := true }, kinds := [], alts := [], laidByText := true, laidKinds := [.data, .data, .wider], laidTests := true, laidLooks := .later }
def ExpansionPairsCardSaid : Prop := Claim7.holds Tryz.pinned (.plain (OpenSpec.ofChange expansionPairsSpec)) expansionPairsCard

/-- THE SECOND FORM's CARD OF 'plumblaw7.ExpansionFloats'. -/
def expansionFloatsUptoCard : Claim7 := { stood := { row := expansionFloatsUptoRow, standIns := [], harness := (true, "894fedc68e7d0671737a4c4df9d08af7270897de4d4828e58e7136397cca1470"), looks := true }, kinds := [], alts := [], laidByText := true, laidKinds := [.data, .data, .wider], laidTests := true, laidLooks := .later }
def ExpansionFloatsUptoCardSaid : Prop := Claim7.holds Tryz.pinned (.plain (OpenSpec.upto expansionFloatsSpec)) expansionFloatsUptoCard

/-- THE SECOND FORM's CARD OF 'plumblaw7.ExpansionPairs'. -/
def expansionPairsUptoCard : Claim7 := { stood := { row := expansionPairsUptoRow, standIns := [], harness := (true, "894fedc68e7d0671737a4c4df9d08af7270897de4d4828e58e7136397cca1470"), looks := true }, kinds := [], alts := [], laidByText := true, laidKinds := [.data, .data, .wider], laidTests := true, laidLooks := .later }
def ExpansionPairsUptoCardSaid : Prop := Claim7.holds Tryz.pinned (.plain (OpenSpec.upto expansionPairsSpec)) expansionPairsUptoCard
end Rows
end Go.Proofs.YtjlmpgbadgkgmaaGreatDoor
