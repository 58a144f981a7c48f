/-
  DERIVED. GIVEN WITH THE SEED: THE CARDS: each row of YtoehjolmniddlaaDoorRows.lean that lists a variable, with what it lists TIED to the program's text (the seventh form; the later family's looks); each row that meets fmt, with fmt's text TOLD by the authors' own Lean function (tested against real Go, not proved from fmt's source: count such statements apart). THE CARD IS WHAT COUNTS. Prove the row's statement (the work); the ties are given (YtoehjolmniddlaaDoorTie.lean); close each card by the builder's one call (the guide's Derived/Test/ToyasCard.lean, 'card_holds'). Laid BY PROGRAM, IN A SANDBOX (cutbox-door.mjs). By AI agents, Wed Nov 11 2026. No macro, syntax, notation, axiom, sorry.
-/
import Derived.Test.YtoehjolmniddlaaDoorRows
import GoSem.ClaimSeven
namespace Go.Proofs.YtoehjolmniddlaaDoor
namespace Rows

/-- THE TIED CARD OF 'plumblaw6.EftPremise'. -/
def eftPremiseCard : Claim7 := { stood := { row := eftPremiseRow, standIns := [], harness := (true, "0ea2a22c92d4af27f450f1ba4f2f295359f7c49b77c7a43d8639b7b846bfc9fd"), looks := true }, kinds := [], alts := [], laidByText := true, laidKinds := [.data, .data, .wider], laidTests := true, laidLooks := .later }
def EftPremiseCardSaid : Prop := Claim7.holds Tryd.pinned (.plain (OpenSpec.ofChange eftPremiseSpec)) eftPremiseCard

/-- THE TIED CARD OF 'plumblaw6.EftHalves'. -/
def eftHalvesCard : Claim7 := { stood := { row := eftHalvesRow, standIns := [], harness := (true, "0ea2a22c92d4af27f450f1ba4f2f295359f7c49b77c7a43d8639b7b846bfc9fd"), looks := true }, kinds := [], alts := [], laidByText := true, laidKinds := [.data, .data, .wider], laidTests := true, laidLooks := .later }
def EftHalvesCardSaid : Prop := Claim7.holds Tryd.pinned (.plain (OpenSpec.ofChange eftHalvesSpec)) eftHalvesCard

/-- THE TIED CARD OF 'plumblaw6.EftHonest'. -/
def eftHonestCard : Claim7 := { stood := { row := eftHonestRow, standIns := [], harness := (true, "0ea2a22c92d4af27f450f1ba4f2f295359f7c49b77c7a43d8639b7b846bfc9fd"), looks := true }, kinds := [], alts := [], laidByText := true, laidKinds := [.data, .data, .wider], laidTests := true, laidLooks := .later }
def EftHonestCardSaid : Prop := Claim7.holds Tryd.pinned (.plain (OpenSpec.ofChange eftHonestSpec)) eftHonestCard

/-- THE SECOND FORM's CARD OF 'plumblaw6.EftPremise'. -/
def eftPremiseUptoCard : Claim7 := { stood := { row := eftPremiseUptoRow, standIns := [], harness := (true, "0ea2a22c92d4af27f450f1ba4f2f295359f7c49b77c7a43d8639b7b846bfc9fd"), looks := true }, kinds := [], alts := [], laidByText := true, laidKinds := [.data, .data, .wider], laidTests := true, laidLooks := .later }
def EftPremiseUptoCardSaid : Prop := Claim7.holds Tryd.pinned (.plain (OpenSpec.upto eftPremiseSpec)) eftPremiseUptoCard

/-- THE SECOND FORM's CARD OF 'plumblaw6.EftHalves'. -/
def eftHalvesUptoCard : Claim7 := { stood := { row := eftHalvesUptoRow, standIns := [], harness := (true, "0ea2a22c92d4af27f450f1ba4f2f295359f7c49b77c7a43d8639b7b846bfc9fd"), looks := true }, kinds := [], alts := [], laidByText := true, laidKinds := [.data, .data, .wider], laidTests := true, laidLooks := .later }
def EftHalvesUptoCardSaid : Prop := Claim7.holds Tryd.pinned (.plain (OpenSpec.upto eftHalvesSpec)) eftHalvesUptoCard

/-- THE SECOND FORM's CARD OF 'plumblaw6.EftHonest'. -/
def eftHonestUptoCard : Claim7 := { stood := { row := eftHonestUptoRow, standIns := [], harness := (true, "0ea2a22c92d4af27f450f1ba4f2f295359f7c49b77c7a43d8639b7b846bfc9fd"), looks := true }, kinds := [], alts := [], laidByText := true, laidKinds := [.data, .data, .wider], laidTests := true, laidLooks := .later }
def EftHonestUptoCardSaid : Prop := Claim7.holds Tryd.pinned (.plain (OpenSpec.upto eftHonestSpec)) eftHonestUptoCard
end Rows
end Go.Proofs.YtoehjolmniddlaaDoor
