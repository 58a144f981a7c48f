/-
  DERIVED. GIVEN WITH THE SEED: THE CARDS: each row of YthppkpbfdgfcaaaDoorRows.lean that lists a variable, with what it lists TIED to the program's text (the seventh form; the later family's looks); each row that meets fmt, with fmt's text TOLD by the authors' own Lean function (tested against real Go, not proved from fmt's source: count such statements apart). THE CARD IS WHAT COUNTS. Prove the row's statement (the work); the ties are given (YthppkpbfdgfcaaaDoorTie.lean); close each card by the builder's one call (the guide's Derived/Test/ToyasCard.lean, 'card_holds'). Laid BY PROGRAM, IN A SANDBOX (cutbox-door.mjs). By AI agents, Wed Nov 11 2026. No macro, syntax, notation, axiom, sorry.
-/
import Derived.Test.YthppkpbfdgfcaaaDoorRows
import GoSem.ClaimSeven
namespace Go.Proofs.YthppkpbfdgfcaaaDoor
namespace Rows

/-- THE TIED CARD OF 'plumblaw1.BitsParts'. -/
def bitsPartsCard : Claim7 := { stood := { row := bitsPartsRow, standIns := [], harness := (true, "8862203eb489f137e085e46e17844ca93db0d6625aaf76459f7c5822f25fe518"), looks := false }, kinds := [], alts := [], laidByText := true, laidKinds := [.wider, .wider], laidTests := true, laidLooks := .later }
def BitsPartsCardSaid : Prop := Claim7.holds Tryd.pinned (.plain (OpenSpec.ofChange bitsPartsSpec)) bitsPartsCard

/-- THE TIED CARD OF 'plumblaw1.BitsParts32'. -/
def bitsParts32Card : Claim7 := { stood := { row := bitsParts32Row, standIns := [], harness := (true, "8862203eb489f137e085e46e17844ca93db0d6625aaf76459f7c5822f25fe518"), looks := false }, kinds := [], alts := [], laidByText := true, laidKinds := [.wider, .wider], laidTests := true, laidLooks := .later }
def BitsParts32CardSaid : Prop := Claim7.holds Tryd.pinned (.plain (OpenSpec.ofChange bitsParts32Spec)) bitsParts32Card

/-- THE TIED CARD OF 'plumblaw1.BitsJoin'. -/
def bitsJoinCard : Claim7 := { stood := { row := bitsJoinRow, standIns := [], harness := (true, "8862203eb489f137e085e46e17844ca93db0d6625aaf76459f7c5822f25fe518"), looks := false }, kinds := [], alts := [], laidByText := true, laidKinds := [.data, .wider, .wider], laidTests := true, laidLooks := .later }
def BitsJoinCardSaid : Prop := Claim7.holds Tryd.pinned (.plain (OpenSpec.ofChange bitsJoinSpec)) bitsJoinCard

/-- THE TIED CARD OF 'plumblaw1.BitsTurns'. -/
def bitsTurnsCard : Claim7 := { stood := { row := bitsTurnsRow, standIns := [], harness := (true, "8862203eb489f137e085e46e17844ca93db0d6625aaf76459f7c5822f25fe518"), looks := false }, kinds := [], alts := [], laidByText := true, laidKinds := [.data, .wider, .wider], laidTests := true, laidLooks := .later }
def BitsTurnsCardSaid : Prop := Claim7.holds Tryd.pinned (.plain (OpenSpec.ofChange bitsTurnsSpec)) bitsTurnsCard

/-- THE TIED CARD OF 'plumblaw1.BitsTurns32'. -/
def bitsTurns32Card : Claim7 := { stood := { row := bitsTurns32Row, standIns := [], harness := (true, "8862203eb489f137e085e46e17844ca93db0d6625aaf76459f7c5822f25fe518"), looks := false }, kinds := [], alts := [], laidByText := true, laidKinds := [.wider, .wider], laidTests := true, laidLooks := .later }
def BitsTurns32CardSaid : Prop := Claim7.holds Tryd.pinned (.plain (OpenSpec.ofChange bitsTurns32Spec)) bitsTurns32Card

/-- THE TIED CARD OF 'plumblaw1.BitsOrder'. -/
def bitsOrderCard : Claim7 := { stood := { row := bitsOrderRow, standIns := [], harness := (true, "8862203eb489f137e085e46e17844ca93db0d6625aaf76459f7c5822f25fe518"), looks := false }, kinds := [], alts := [], laidByText := true, laidKinds := [.wider, .wider], laidTests := true, laidLooks := .later }
def BitsOrderCardSaid : Prop := Claim7.holds Tryd.pinned (.plain (OpenSpec.ofChange bitsOrderSpec)) bitsOrderCard

/-- THE SECOND FORM's CARD OF 'plumblaw1.BitsParts'. -/
def bitsPartsUptoCard : Claim7 := { stood := { row := bitsPartsUptoRow, standIns := [], harness := (true, "8862203eb489f137e085e46e17844ca93db0d6625aaf76459f7c5822f25fe518"), looks := false }, kinds := [], alts := [], laidByText := true, laidKinds := [.wider, .wider], laidTests := true, laidLooks := .later }
def BitsPartsUptoCardSaid : Prop := Claim7.holds Tryd.pinned (.plain (OpenSpec.upto bitsPartsSpec)) bitsPartsUptoCard

/-- THE SECOND FORM's CARD OF 'plumblaw1.BitsParts32'. -/
def bitsParts32UptoCard : Claim7 := { stood := { row := bitsParts32UptoRow, standIns := [], harness := (true, "8862203eb489f137e085e46e17844ca93db0d6625aaf76459f7c5822f25fe518"), looks := false }, kinds := [], alts := [], laidByText := true, laidKinds := [.wider, .wider], laidTests := true, laidLooks := .later }
def BitsParts32UptoCardSaid : Prop := Claim7.holds Tryd.pinned (.plain (OpenSpec.upto bitsParts32Spec)) bitsParts32UptoCard

/-- THE SECOND FORM's CARD OF 'plumblaw1.BitsJoin'. -/
def bitsJoinUptoCard : Claim7 := { stood := { row := bitsJoinUptoRow, standIns := [], harness := (true, "8862203eb489f137e085e46e17844ca93db0d6625aaf76459f7c5822f25fe518"), looks := false }, kinds := [], alts := [], laidByText := true, laidKinds := [.data, .wider, .wider], laidTests := true, laidLooks := .later }
def BitsJoinUptoCardSaid : Prop := Claim7.holds Tryd.pinned (.plain (OpenSpec.upto bitsJoinSpec)) bitsJoinUptoCard

/-- THE SECOND FORM's CARD OF 'plumblaw1.BitsTurns'. -/
def bitsTurnsUptoCard : Claim7 := { stood := { row := bitsTurnsUptoRow, standIns := [], harness := (true, "8862203eb489f137e085e46e17844ca93db0d6625aaf76459f7c5822f25fe518"), looks := false }, kinds := [], alts := [], laidByText := true, laidKinds := [.data, .wider, .wider], laidTests := true, laidLooks := .later }
def BitsTurnsUptoCardSaid : Prop := Claim7.holds Tryd.pinned (.plain (OpenSpec.upto bitsTurnsSpec)) bitsTurnsUptoCard

/-- THE SECOND FORM's CARD OF 'plumblaw1.BitsTurns32'. -/
def bitsTurns32UptoCard : Claim7 := { stood := { row := bitsTurns32UptoRow, standIns := [], harness := (true, "8862203eb489f137e085e46e17844ca93db0d6625aaf76459f7c5822f25fe518"), looks := false }, kinds := [], alts := [], laidByText := true, laidKinds := [.wider, .wider], laidTests := true, laidLooks := .later }
def BitsTurns32UptoCardSaid : Prop := Claim7.holds Tryd.pinned (.plain (OpenSpec.upto bitsTurns32Spec)) bitsTurns32UptoCard

/-- THE SECOND FORM's CARD OF 'plumblaw1.BitsOrder'. -/
def bitsOrderUptoCard : Claim7 := { stood := { row := bitsOrderUptoRow, standIns := [], harness := (true, "8862203eb489f137e085e46e17844ca93db0d6625aaf76459f7c5822f25fe518"), looks := false }, kinds := [], alts := [], laidByText := true, laidKinds := [.wider, .wider], laidTests := true, laidLooks := .later }
def BitsOrderUptoCardSaid : Prop := Claim7.holds Tryd.pinned (.plain (OpenSpec.upto bitsOrderSpec)) bitsOrderUptoCard
end Rows
end Go.Proofs.YthppkpbfdgfcaaaDoor
