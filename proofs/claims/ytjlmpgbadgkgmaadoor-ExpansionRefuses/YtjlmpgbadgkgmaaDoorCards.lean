/-
  DERIVED. GIVEN WITH THE SEED: THE CARDS: each row of YtjlmpgbadgkgmaaDoorRows.lean that lists a variable, with what it lists TIED to the program's text (the seventh form; the later family's looks); each row that meets fmt, with fmt's text TOLD by the authors' own Lean function (tested against real Go, not proved from fmt's source: count such statements apart). THE CARD IS WHAT COUNTS. Prove the row's statement (the work); the ties are given (YtjlmpgbadgkgmaaDoorTie.lean); close each card by the builder's one call (the guide's Derived/Test/ToyasCard.lean, 'card_holds'). Laid BY PROGRAM, IN A SANDBOX (cutbox-door.mjs). By AI agents, Wed Nov 11 2026. No macro, syntax, notation, axiom, sorry.
-/
import Derived.Test.YtjlmpgbadgkgmaaDoorRows
import GoSem.ClaimSeven
namespace Go.Proofs.YtjlmpgbadgkgmaaDoor
namespace Rows

/-- THE TIED CARD OF 'plumblaw7.ExpansionRefuses'. -/
def expansionRefusesCard : Claim7 := { stood := { row := expansionRefusesRow, standIns := [], harness := (true, "627091b3c4a2a341649da598a123814795b0d128e7b65b8c0cb2665520bfc6ee"), looks := true }, kinds := [], alts := [], laidByText := true, laidKinds := [.data, .data, .wider], laidTests := true, laidLooks := .later }
def ExpansionRefusesCardSaid : Prop := Claim7.holds Tryd.pinned (.plain (OpenSpec.ofChange expansionRefusesSpec)) expansionRefusesCard

/-- THE SECOND FORM's CARD OF 'plumblaw7.ExpansionRefuses'. -/
def expansionRefusesUptoCard : Claim7 := { stood := { row := expansionRefusesUptoRow, standIns := [], harness := (true, "627091b3c4a2a341649da598a123814795b0d128e7b65b8c0cb2665520bfc6ee"), looks := true }, kinds := [], alts := [], laidByText := true, laidKinds := [.data, .data, .wider], laidTests := true, laidLooks := .later }
def ExpansionRefusesUptoCardSaid : Prop := Claim7.holds Tryd.pinned (.plain (OpenSpec.upto expansionRefusesSpec)) expansionRefusesUptoCard
end Rows
end Go.Proofs.YtjlmpgbadgkgmaaDoor
