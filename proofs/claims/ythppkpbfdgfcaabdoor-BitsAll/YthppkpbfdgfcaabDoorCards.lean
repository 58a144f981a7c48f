/-
  DERIVED. GIVEN WITH THE SEED: THE CARDS: each row of YthppkpbfdgfcaabDoorRows.lean that lists a variable, with what it lists TIED to the program's text (the seventh form; the later family's looks); each row that meets fmt, with fmt's text TOLD by the authors' own Lean function (tested against real Go, not proved from fmt's source: count such statements apart). THE CARD IS WHAT COUNTS. Prove the row's statement (the work); the ties are given (YthppkpbfdgfcaabDoorTie.lean); close each card by the builder's one call (the guide's Derived/Test/ToyasCard.lean, 'card_holds'). Laid BY PROGRAM, IN A SANDBOX (cutbox-door.mjs). By AI agents, Wed Nov 11 2026. No macro, syntax, notation, axiom, sorry.
-/
import Derived.Test.YthppkpbfdgfcaabDoorRows
import GoSem.ClaimSeven
namespace Go.Proofs.YthppkpbfdgfcaabDoor
namespace Rows

/-- THE TIED CARD OF 'plumblaw1.BitsFloats'. -/
def bitsFloatsCard : Claim7 := { stood := { row := bitsFloatsRow, standIns := [], harness := (true, "8e7213451299b6b4cc52b5dbd2fc4bcd5d110b44f3ae8968dd1f2804432638a2"), looks := false }, kinds := [], alts := [], laidByText := true, laidKinds := [.wider, .wider], laidTests := true, laidLooks := .later }
def BitsFloatsCardSaid : Prop := Claim7.holds Tryd.pinned (.plain (OpenSpec.ofChange bitsFloatsSpec)) bitsFloatsCard

/-- THE TIED CARD OF 'plumblaw1.BitsAll'. -/
def bitsAllCard : Claim7 := { stood := { row := bitsAllRow, standIns := [], harness := (true, "8e7213451299b6b4cc52b5dbd2fc4bcd5d110b44f3ae8968dd1f2804432638a2"), looks := false }, kinds := [], alts := [], laidByText := true, laidKinds := [.data, .wider, .wider], laidTests := true, laidLooks := .later }
def BitsAllCardSaid : Prop := Claim7.holds Tryd.pinned (.plain (OpenSpec.ofChange bitsAllSpec)) bitsAllCard

/-- THE TIED CARD OF 'plumblaw1.BitsBack'. -/
def bitsBackCard : Claim7 := { stood := { row := bitsBackRow, standIns := [], harness := (true, "8e7213451299b6b4cc52b5dbd2fc4bcd5d110b44f3ae8968dd1f2804432638a2"), looks := false }, kinds := [], alts := [], laidByText := true, laidKinds := [.data, .wider, .wider], laidTests := true, laidLooks := .later }
def BitsBackCardSaid : Prop := Claim7.holds Tryd.pinned (.plain (OpenSpec.ofChange bitsBackSpec)) bitsBackCard

/-- THE TIED CARD OF 'plumblaw1.BitsNext'. -/
def bitsNextCard : Claim7 := { stood := { row := bitsNextRow, standIns := [], harness := (true, "8e7213451299b6b4cc52b5dbd2fc4bcd5d110b44f3ae8968dd1f2804432638a2"), looks := false }, kinds := [], alts := [], laidByText := true, laidKinds := [.wider, .wider], laidTests := true, laidLooks := .later }
def BitsNextCardSaid : Prop := Claim7.holds Tryd.pinned (.plain (OpenSpec.ofChange bitsNextSpec)) bitsNextCard

/-- THE TIED CARD OF 'plumblaw1.BitsUlp'. -/
def bitsUlpCard : Claim7 := { stood := { row := bitsUlpRow, standIns := [], harness := (true, "8e7213451299b6b4cc52b5dbd2fc4bcd5d110b44f3ae8968dd1f2804432638a2"), looks := false }, kinds := [], alts := [], laidByText := true, laidKinds := [.data, .wider, .wider], laidTests := true, laidLooks := .later }
def BitsUlpCardSaid : Prop := Claim7.holds Tryd.pinned (.plain (OpenSpec.ofChange bitsUlpSpec)) bitsUlpCard

/-- THE TIED CARD OF 'plumblaw1.BitsChain'. -/
def bitsChainCard : Claim7 := { stood := { row := bitsChainRow, standIns := [], harness := (true, "8e7213451299b6b4cc52b5dbd2fc4bcd5d110b44f3ae8968dd1f2804432638a2"), looks := false }, kinds := [], alts := [], laidByText := true, laidKinds := [.wider, .wider], laidTests := true, laidLooks := .later }
def BitsChainCardSaid : Prop := Claim7.holds Tryd.pinned (.plain (OpenSpec.ofChange bitsChainSpec)) bitsChainCard

/-- THE SECOND FORM's CARD OF 'plumblaw1.BitsFloats'. -/
def bitsFloatsUptoCard : Claim7 := { stood := { row := bitsFloatsUptoRow, standIns := [], harness := (true, "8e7213451299b6b4cc52b5dbd2fc4bcd5d110b44f3ae8968dd1f2804432638a2"), looks := false }, kinds := [], alts := [], laidByText := true, laidKinds := [.wider, .wider], laidTests := true, laidLooks := .later }
def BitsFloatsUptoCardSaid : Prop := Claim7.holds Tryd.pinned (.plain (OpenSpec.upto bitsFloatsSpec)) bitsFloatsUptoCard

/-- THE SECOND FORM's CARD OF 'plumblaw1.BitsAll'. -/
def bitsAllUptoCard : Claim7 := { stood := { row := bitsAllUptoRow, standIns := [], harness := (true, "8e7213451299b6b4cc52b5dbd2fc4bcd5d110b44f3ae8968dd1f2804432638a2"), looks := false }, kinds := [], alts := [], laidByText := true, laidKinds := [.data, .wider, .wider], laidTests := true, laidLooks := .later }
def BitsAllUptoCardSaid : Prop := Claim7.holds Tryd.pinned (.plain (OpenSpec.upto bitsAllSpec)) bitsAllUptoCard

/-- THE SECOND FORM's CARD OF 'plumblaw1.BitsBack'. -/
def bitsBackUptoCard : Claim7 := { stood := { row := bitsBackUptoRow, standIns := [], harness := (true, "8e7213451299b6b4cc52b5dbd2fc4bcd5d110b44f3ae8968dd1f2804432638a2"), looks := false }, kinds := [], alts := [], laidByText := true, laidKinds := [.data, .wider, .wider], laidTests := true, laidLooks := .later }
def BitsBackUptoCardSaid : Prop := Claim7.holds Tryd.pinned (.plain (OpenSpec.upto bitsBackSpec)) bitsBackUptoCard

/-- THE SECOND FORM's CARD OF 'plumblaw1.BitsNext'. -/
def bitsNextUptoCard : Claim7 := { stood := { row := bitsNextUptoRow, standIns := [], harness := (true, "8e7213451299b6b4cc52b5dbd2fc4bcd5d110b44f3ae8968dd1f2804432638a2"), looks := false }, kinds := [], alts := [], laidByText := true, laidKinds := [.wider, .wider], laidTests := true, laidLooks := .later }
def BitsNextUptoCardSaid : Prop := Claim7.holds Tryd.pinned (.plain (OpenSpec.upto bitsNextSpec)) bitsNextUptoCard

/-- THE SECOND FORM's CARD OF 'plumblaw1.BitsUlp'. -/
def bitsUlpUptoCard : Claim7 := { stood := { row := bitsUlpUptoRow, standIns := [], harness := (true, "8e7213451299b6b4cc52b5dbd2fc4bcd5d110b44f3ae8968dd1f2804432638a2"), looks := false }, kinds := [], alts := [], laidByText := true, laidKinds := [.data, .wider, .wider], laidTests := true, laidLooks := .later }
def BitsUlpUptoCardSaid : Prop := Claim7.holds Tryd.pinned (.plain (OpenSpec.upto bitsUlpSpec)) bitsUlpUptoCard

/-- THE SECOND FORM's CARD OF 'plumblaw1.BitsChain'. -/
def bitsChainUptoCard : Claim7 := { stood := { row := bitsChainUptoRow, standIns := [], harness := (true, "8e7213451299b6b4cc52b5dbd2fc4bcd5d110b44f3ae8968dd1f2804432638a2"), looks := false }, kinds := [], alts := [], laidByText := true, laidKinds := [.wider, .wider], laidTests := true, laidLooks := .later }
def BitsChainUptoCardSaid : Prop := Claim7.holds Tryd.pinned (.plain (OpenSpec.upto bitsChainSpec)) bitsChainUptoCard
end Rows
end Go.Proofs.YthppkpbfdgfcaabDoor
