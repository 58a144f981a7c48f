/-
  DERIVED. GIVEN WITH THE SEED: THE CARDS: each row of YtgplnodgndbdeaaDoorRows.lean that lists a variable, with what it lists TIED to the program's text (the seventh form; the later family's looks); each row that meets fmt, with fmt's text TOLD by the authors' own Lean function (tested against real Go, not proved from fmt's source: count such statements apart). THE CARD IS WHAT COUNTS. Prove the row's statement (the work); the ties are given (YtgplnodgndbdeaaDoorTie.lean); close each card by the builder's one call (the guide's Derived/Test/ToyasCard.lean, 'card_holds'). Laid BY PROGRAM, IN A SANDBOX (cutbox-door.mjs). By AI agents, Wed Nov 11 2026. No macro, syntax, notation, axiom, sorry.
-/
import Derived.Test.YtgplnodgndbdeaaDoorRows
import GoSem.ClaimSeven
namespace Go.Proofs.YtgplnodgndbdeaaDoor
namespace Rows

/-- THE TIED CARD OF 'plumblaw4.RoundBetween'. -/
def roundBetweenCard : Claim7 := { stood := { row := roundBetweenRow, standIns := [], harness := (true, "b7cee9b082be6ba527ad5c373afbe2f52172936d8eaccc79001e81bfbc12ae62"), looks := true }, kinds := [], alts := [], laidByText := true, laidKinds := [.data, .data, .wider, .wider], laidTests := true, laidLooks := .later }
def RoundBetweenCardSaid : Prop := Claim7.holds Tryd.pinned (.plain (OpenSpec.ofChange roundBetweenSpec)) roundBetweenCard

/-- THE TIED CARD OF 'plumblaw4.RoundNearest'. -/
def roundNearestCard : Claim7 := { stood := { row := roundNearestRow, standIns := [], harness := (true, "b7cee9b082be6ba527ad5c373afbe2f52172936d8eaccc79001e81bfbc12ae62"), looks := true }, kinds := [], alts := [], laidByText := true, laidKinds := [.data, .data, .wider, .wider], laidTests := true, laidLooks := .later }
def RoundNearestCardSaid : Prop := Claim7.holds Tryd.pinned (.plain (OpenSpec.ofChange roundNearestSpec)) roundNearestCard

/-- THE TIED CARD OF 'plumblaw4.RoundMirrors'. -/
def roundMirrorsCard : Claim7 := { stood := { row := roundMirrorsRow, standIns := [], harness := (true, "b7cee9b082be6ba527ad5c373afbe2f52172936d8eaccc79001e81bfbc12ae62"), looks := true }, kinds := [], alts := [], laidByText := true, laidKinds := [.data, .data, .wider, .wider], laidTests := true, laidLooks := .later }
def RoundMirrorsCardSaid : Prop := Claim7.holds Tryd.pinned (.plain (OpenSpec.ofChange roundMirrorsSpec)) roundMirrorsCard

/-- THE TIED CARD OF 'plumblaw4.RoundQuots'. -/
def roundQuotsCard : Claim7 := { stood := { row := roundQuotsRow, standIns := [], harness := (true, "b7cee9b082be6ba527ad5c373afbe2f52172936d8eaccc79001e81bfbc12ae62"), looks := true }, kinds := [], alts := [], laidByText := true, laidKinds := [.data, .data, .wider, .wider], laidTests := true, laidLooks := .later }
def RoundQuotsCardSaid : Prop := Claim7.holds Tryd.pinned (.plain (OpenSpec.ofChange roundQuotsSpec)) roundQuotsCard

/-- THE SECOND FORM's CARD OF 'plumblaw4.RoundBetween'. -/
def roundBetweenUptoCard : Claim7 := { stood := { row := roundBetweenUptoRow, standIns := [], harness := (true, "b7cee9b082be6ba527ad5c373afbe2f52172936d8eaccc79001e81bfbc12ae62"), looks := true }, kinds := [], alts := [], laidByText := true, laidKinds := [.data, .data, .wider, .wider], laidTests := true, laidLooks := .later }
def RoundBetweenUptoCardSaid : Prop := Claim7.holds Tryd.pinned (.plain (OpenSpec.upto roundBetweenSpec)) roundBetweenUptoCard

/-- THE SECOND FORM's CARD OF 'plumblaw4.RoundNearest'. -/
def roundNearestUptoCard : Claim7 := { stood := { row := roundNearestUptoRow, standIns := [], harness := (true, "b7cee9b082be6ba527ad5c373afbe2f52172936d8eaccc79001e81bfbc12ae62"), looks := true }, kinds := [], alts := [], laidByText := true, laidKinds := [.data, .data, .wider, .wider], laidTests := true, laidLooks := .later }
def RoundNearestUptoCardSaid : Prop := Claim7.holds Tryd.pinned (.plain (OpenSpec.upto roundNearestSpec)) roundNearestUptoCard

/-- THE SECOND FORM's CARD OF 'plumblaw4.RoundMirrors'. -/
def roundMirrorsUptoCard : Claim7 := { stood := { row := roundMirrorsUptoRow, standIns := [], harness := (true, "b7cee9b082be6ba527ad5c373afbe2f52172936d8eaccc79001e81bfbc12ae62"), looks := true }, kinds := [], alts := [], laidByText := true, laidKinds := [.data, .data, .wider, .wider], laidTests := true, laidLooks := .later }
def RoundMirrorsUptoCardSaid : Prop := Claim7.holds Tryd.pinned (.plain (OpenSpec.upto roundMirrorsSpec)) roundMirrorsUptoCard

/-- THE SECOND FORM's CARD OF 'plumblaw4.RoundQuots'. -/
def roundQuotsUptoCard : Claim7 := { stood := { row := roundQuotsUptoRow, standIns := [], harness := (true, "b7cee9b082be6ba527ad5c373afbe2f52172936d8eaccc79001e81bfbc12ae62"), looks := true }, kinds := [], alts := [], laidByText := true, laidKinds := [.data, .data, .wider, .wider], laidTests := true, laidLooks := .later }
def RoundQuotsUptoCardSaid : Prop := Claim7.holds Tryd.pinned (.plain (OpenSpec.upto roundQuotsSpec)) roundQuotsUptoCard
end Rows
end Go.Proofs.YtgplnodgndbdeaaDoor
