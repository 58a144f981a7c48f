/-
  DERIVED. GIVEN WITH THE SEED: THE CARDS: each row of YtafnigjehkpggaaGreatDoorRows.lean that lists a variable, with what it lists TIED to the program's text (the seventh form; the later family's looks); each row that meets fmt, with fmt's text TOLD by the authors' own Lean function (tested against real Go, not proved from fmt's source: count such statements apart). THE CARD IS WHAT COUNTS. Prove the row's statement (the work); the ties are given (YtafnigjehkpggaaGreatDoorTie.lean); close each card by the builder's one call (the guide's Derived/Test/ToyasCard.lean, 'card_holds'). Laid BY PROGRAM, IN A SANDBOX (cutbox-door.mjs). By AI agents, Wed Nov 11 2026. No macro, syntax, notation, axiom, sorry.
-/
import Derived.Test.YtafnigjehkpggaaGreatDoorRows
import GoSem.ClaimSeven
namespace Go.Proofs.YtafnigjehkpggaaGreatDoor
namespace Rows

/-- THE TIED CARD OF 'plumblaw10.OrientTrue'. -/
def orientTrueCard : Claim7 := { stood := { row := orientTrueRow, standIns := [], harness := (true, "993385461274590f85675ffaf19c96663d2fbec86f287bcfb85133d4d4f1cbcd"), looks := true }, kinds := [], alts := [], laidByText := true, laidKinds := [.data, .data, .wider], laidTests := true, laidLooks := .later }
def OrientTrueCardSaid : Prop := Claim7.holds Tryz.pinned (.plain (OpenSpec.ofChange orientTrueSpec)) orientTrueCard

/-- THE TIED CARD OF 'plumblaw10.OrientTurns'. -/
def orientTurnsCard : Claim7 := { stood := { row := orientTurnsRow, standIns := [], harness := (true, "993385461274590f85675ffaf19c96663d2fbec86f287bcfb85133d4d4f1cbcd"), looks := true }, kinds := [], alts := [], laidByText := true, laidKinds := [.data, .data, .wider], laidTests := true, laidLooks := .later }
def OrientTurnsCardSaid : Prop := Claim7.holds Tryz.pinned (.plain (OpenSpec.ofChange orientTurnsSpec)) orientTurnsCard

/-- THE TIED CARD OF 'plumblaw10.OrientScales'. -/
def orientScalesCard : Claim7 := { stood := { row := orientScalesRow, standIns := [], harness := (true, "993385461274590f85675ffaf19c96663d2fbec86f287bcfb85133d4d4f1cbcd"), looks := true }, kinds := [], alts := [], laidByText := true, laidKinds := [.data, .data, .wider], laidTests := true, laidLooks := .later }
def OrientScalesCardSaid : Prop := Claim7.holds Tryz.pinned (.plain (OpenSpec.ofChange orientScalesSpec)) orientScalesCard

/-- THE TIED CARD OF 'plumblaw10.OrientKnuth'. -/
def orientKnuthCard : Claim7 := { stood := { row := orientKnuthRow, standIns := [], harness := (true, "993385461274590f85675ffaf19c96663d2fbec86f287bcfb85133d4d4f1cbcd"), looks := true }, kinds := [], alts := [], laidByText := true, laidKinds := [.data, .data, .wider], laidTests := true, laidLooks := .later }
def OrientKnuthCardSaid : Prop := Claim7.holds Tryz.pinned (.plain (OpenSpec.ofChange orientKnuthSpec)) orientKnuthCard

/-- THE SECOND FORM's CARD OF 'plumblaw10.OrientTrue'. -/
def orientTrueUptoCard : Claim7 := { stood := { row := orientTrueUptoRow, standIns := [], harness := (true, "993385461274590f85675ffaf19c96663d2fbec86f287bcfb85133d4d4f1cbcd"), looks := true }, kinds := [], alts := [], laidByText := true, laidKinds := [.data, .data, .wider], laidTests := true, laidLooks := .later }
def OrientTrueUptoCardSaid : Prop := Claim7.holds Tryz.pinned (.plain (OpenSpec.upto orientTrueSpec)) orientTrueUptoCard

/-- THE SECOND FORM's CARD OF 'plumblaw10.OrientTurns'. -/
def orientTurnsUptoCard : Claim7 := { stood := { row := orientTurnsUptoRow, standIns := [], harness := (true, "993385461274590f85675ffaf19c96663d2fbec86f287bcfb85133d4d4f1cbcd"), looks := true }, kinds := [], alts := [], laidByText := true, laidKinds := [.data, .data, .wider], laidTests := true, laidLooks := .later }
def OrientTurnsUptoCardSaid : Prop := Claim7.holds Tryz.pinned (.plain (OpenSpec.upto orientTurnsSpec)) orientTurnsUptoCard

/-- THE SECOND FORM's CARD OF 'plumblaw10.OrientScales'. -/
def orientScalesUptoCard : Claim7 := { stood := { row := orientScalesUptoRow, standIns := [], harness := (true, "993385461274590f85675ffaf19c96663d2fbec86f287bcfb85133d4d4f1cbcd"), looks := true }, kinds := [], alts := [], laidByText := true, laidKinds := [.data, .data, .wider], laidTests := true, laidLooks := .later }
def OrientScalesUptoCardSaid : Prop := Claim7.holds Tryz.pinned (.plain (OpenSpec.upto orientScalesSpec)) orientScalesUptoCard

/-- THE SECOND FORM's CARD OF 'plumblaw10.OrientKnuth'. -/
def orientKnuthUptoCard : Claim7 := { stood := { row := orientKnuthUptoRow, standIns := [], harness := (true, "993385461274590f85675ffaf19c96663d2fbec86f287bcfb85133d4d4f1cbcd"), looks := true }, kinds := [], alts := [], laidByText := true, laidKinds := [.data, .data, .wider], laidTests := true, laidLooks := .later }
def OrientKnuthUptoCardSaid : Prop := Claim7.holds Tryz.pinned (.plain (OpenSpec.upto orientKnuthSpec)) orientKnuthUptoCard
end Rows
end Go.Proofs.YtafnigjehkpggaaGreatDoor
