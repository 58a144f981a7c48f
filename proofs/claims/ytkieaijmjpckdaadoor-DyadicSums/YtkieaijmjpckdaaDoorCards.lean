/-
  DERIVED. GIVEN WITH THE SEED: THE CARDS: each row of YtkieaijmjpckdaaDoorRows.lean that lists a variable, with what it lists TIED to the program's text (the seventh form; the later family's looks); each row that meets fmt, with fmt's text TOLD by the authors' own Lean function (tested against real Go, not proved from fmt's source: count such statements apart). THE CARD IS WHAT COUNTS. Prove the row's statement (the work); the ties are given (YtkieaijmjpckdaaDoorTie.lean); close each card by the builder's one call (the guide's Derived/Test/ToyasCard.lean, 'card_holds'). Laid BY PROGRAM, IN A SANDBOX (cutbox-door.mjs). By AI agents, Wed Nov 11 2026. No macro, syntax, notation, axiom, sorry.
-/
import Derived.Test.YtkieaijmjpckdaaDoorRows
import GoSem.ClaimSeven
namespace Go.Proofs.YtkieaijmjpckdaaDoor
namespace Rows

/-- THE TIED CARD OF 'plumblaw3.DyadicMakes'. -/
def dyadicMakesCard : Claim7 := { stood := { row := dyadicMakesRow, standIns := [], harness := (true, "835683c1d2d0366ab7891b72bc0bc9fe3c9b318d3481447dab3a978d2c77f4a7"), looks := true }, kinds := [], alts := [], laidByText := true, laidKinds := [.data, .data, .wider, .wider], laidTests := true, laidLooks := .later }
def DyadicMakesCardSaid : Prop := Claim7.holds Tryd.pinned (.plain (OpenSpec.ofChange dyadicMakesSpec)) dyadicMakesCard

/-- THE TIED CARD OF 'plumblaw3.DyadicOnes'. -/
def dyadicOnesCard : Claim7 := { stood := { row := dyadicOnesRow, standIns := [], harness := (true, "835683c1d2d0366ab7891b72bc0bc9fe3c9b318d3481447dab3a978d2c77f4a7"), looks := true }, kinds := [], alts := [], laidByText := true, laidKinds := [.data, .data, .wider], laidTests := true, laidLooks := .later }
def DyadicOnesCardSaid : Prop := Claim7.holds Tryd.pinned (.plain (OpenSpec.ofChange dyadicOnesSpec)) dyadicOnesCard

/-- THE TIED CARD OF 'plumblaw3.DyadicTwos'. -/
def dyadicTwosCard : Claim7 := { stood := { row := dyadicTwosRow, standIns := [], harness := (true, "835683c1d2d0366ab7891b72bc0bc9fe3c9b318d3481447dab3a978d2c77f4a7"), looks := true }, kinds := [], alts := [], laidByText := true, laidKinds := [.data, .data, .wider], laidTests := true, laidLooks := .later }
def DyadicTwosCardSaid : Prop := Claim7.holds Tryd.pinned (.plain (OpenSpec.ofChange dyadicTwosSpec)) dyadicTwosCard

/-- THE TIED CARD OF 'plumblaw3.DyadicLists'. -/
def dyadicListsCard : Claim7 := { stood := { row := dyadicListsRow, standIns := [], harness := (true, "835683c1d2d0366ab7891b72bc0bc9fe3c9b318d3481447dab3a978d2c77f4a7"), looks := true }, kinds := [], alts := [], laidByText := true, laidKinds := [.data, .data, .wider], laidTests := true, laidLooks := .later }
def DyadicListsCardSaid : Prop := Claim7.holds Tryd.pinned (.plain (OpenSpec.ofChange dyadicListsSpec)) dyadicListsCard

/-- THE TIED CARD OF 'plumblaw3.DyadicSums'. -/
def dyadicSumsCard : Claim7 := { stood := { row := dyadicSumsRow, standIns := [], harness := (true, "835683c1d2d0366ab7891b72bc0bc9fe3c9b318d3481447dab3a978d2c77f4a7"), looks := true }, kinds := [], alts := [], laidByText := true, laidKinds := [.data, .data, .wider], laidTests := true, laidLooks := .later }
def DyadicSumsCardSaid : Prop := Claim7.holds Tryd.pinned (.plain (OpenSpec.ofChange dyadicSumsSpec)) dyadicSumsCard

/-- THE SECOND FORM's CARD OF 'plumblaw3.DyadicMakes'. -/
def dyadicMakesUptoCard : Claim7 := { stood := { row := dyadicMakesUptoRow, standIns := [], harness := (true, "835683c1d2d0366ab7891b72bc0bc9fe3c9b318d3481447dab3a978d2c77f4a7"), looks := true }, kinds := [], alts := [], laidByText := true, laidKinds := [.data, .data, .wider, .wider], laidTests := true, laidLooks := .later }
def DyadicMakesUptoCardSaid : Prop := Claim7.holds Tryd.pinned (.plain (OpenSpec.upto dyadicMakesSpec)) dyadicMakesUptoCard

/-- THE SECOND FORM's CARD OF 'plumblaw3.DyadicOnes'. -/
def dyadicOnesUptoCard : Claim7 := { stood := { row := dyadicOnesUptoRow, standIns := [], harness := (true, "835683c1d2d0366ab7891b72bc0bc9fe3c9b318d3481447dab3a978d2c77f4a7"), looks := true }, kinds := [], alts := [], laidByText := true, laidKinds := [.data, .data, .wider], laidTests := true, laidLooks := .later }
def DyadicOnesUptoCardSaid : Prop := Claim7.holds Tryd.pinned (.plain (OpenSpec.upto dyadicOnesSpec)) dyadicOnesUptoCard

/-- THE SECOND FORM's CARD OF 'plumblaw3.DyadicTwos'. -/
def dyadicTwosUptoCard : Claim7 := { stood := { row := dyadicTwosUptoRow, standIns := [], harness := (true, "835683c1d2d0366ab7891b72bc0bc9fe3c9b318d3481447dab3a978d2c77f4a7"), looks := true }, kinds := [], alts := [], laidByText := true, laidKinds := [.data, .data, .wider], laidTests := true, laidLooks := .later }
def DyadicTwosUptoCardSaid : Prop := Claim7.holds Tryd.pinned (.plain (OpenSpec.upto dyadicTwosSpec)) dyadicTwosUptoCard

/-- THE SECOND FORM's CARD OF 'plumblaw3.DyadicLists'. -/
def dyadicListsUptoCard : Claim7 := { stood := { row := dyadicListsUptoRow, standIns := [], harness := (true, "835683c1d2d0366ab7891b72bc0bc9fe3c9b318d3481447dab3a978d2c77f4a7"), looks := true }, kinds := [], alts := [], laidByText := true, laidKinds := [.data, .data, .wider], laidTests := true, laidLooks := .later }
def DyadicListsUptoCardSaid : Prop := Claim7.holds Tryd.pinned (.plain (OpenSpec.upto dyadicListsSpec)) dyadicListsUptoCard

/-- THE SECOND FORM's CARD OF 'plumblaw3.DyadicSums'. -/
def dyadicSumsUptoCard : Claim7 := { stood := { row := dyadicSumsUptoRow, standIns := [], harness := (true, "835683c1d2d0366ab7891b72bc0bc9fe3c9b318d3481447dab3a978d2c77f4a7"), looks := true }, kinds := [], alts := [], laidByText := true, laidKinds := [.data, .data, .wider], laidTests := true, laidLooks := .later }
def DyadicSumsUptoCardSaid : Prop := Claim7.holds Tryd.pinned (.plain (OpenSpec.upto dyadicSumsSpec)) dyadicSumsUptoCard
end Rows
end Go.Proofs.YtkieaijmjpckdaaDoor
