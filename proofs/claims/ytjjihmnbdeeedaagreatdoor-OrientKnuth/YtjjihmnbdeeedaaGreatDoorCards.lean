/-
  DERIVED. GIVEN WITH THE SEED: THE CARDS: each row of YtjjihmnbdeeedaaGreatDoorRows.lean that lists a variable, with what it lists TIED to the program's text (the seventh form; the later family's looks); each row that meets fmt, with fmt's text TOLD by the authors' own Lean function (tested against real Go, not proved from fmt's source: count such statements apart). THE CARD IS WHAT COUNTS. Prove the row's statement (the work); the ties are given (YtjjihmnbdeeedaaGreatDoorTie.lean); close each card by the builder's one call (the guide's Derived/Test/ToyasCard.lean, 'card_holds'). Laid BY PROGRAM, IN A SANDBOX (cutbox-door.mjs). By AI agents, Wed Nov 11 2026. No macro, syntax, notation, axiom, sorry.
-/
import Derived.Test.YtjjihmnbdeeedaaGreatDoorRows
import GoSem.ClaimSeven
namespace Go.Proofs.YtjjihmnbdeeedaaGreatDoor
namespace Rows

/-- THE TIED CARD OF 'plumblaw10.OrientKnuth'. -/
def orientKnuthCard : Claim7 := { stood := { row := orientKnuthRow, standIns := [], harness := (true, "2eefad66490611199974fc4ae80b64b5aa0bece52cbccee35a06be2d72b2cf80"), looks := true }, kinds := [], alts := [], laidByText := true, laidKinds := [.data, .data, .wider], laidTests := true, laidLooks := .later }
def OrientKnuthCardSaid : Prop := Claim7.holds Tryz.pinned (.plain (OpenSpec.ofChange orientKnuthSpec)) orientKnuthCard

/-- THE TIED CARD OF 'plumblaw11.CircleExact'. -/
def circleExactCard : Claim7 := { stood := { row := circleExactRow, standIns := [], harness := (true, "2eefad66490611199974fc4ae80b64b5aa0bece52cbccee35a06be2d72b2cf80"), looks := true }, kinds := [], alts := [], laidByText := true, laidKinds := [.data, .data, .wider], laidTests := true, laidLooks := .later }
def CircleExactCardSaid : Prop := Claim7.holds Tryz.pinned (.plain (OpenSpec.ofChange circleExactSpec)) circleExactCard

/-- THE TIED CARD OF 'plumblaw13.MeasureAngle'. -/
def measureAngleCard : Claim7 := { stood := { row := measureAngleRow, standIns := [], harness := (true, "2eefad66490611199974fc4ae80b64b5aa0bece52cbccee35a06be2d72b2cf80"), looks := true }, kinds := [], alts := [], laidByText := true, laidKinds := [.data, .data, .wider], laidTests := true, laidLooks := .later }
def MeasureAngleCardSaid : Prop := Claim7.holds Tryz.pinned (.plain (OpenSpec.ofChange measureAngleSpec)) measureAngleCard

/-- THE SECOND FORM's CARD OF 'plumblaw10.OrientKnuth'. -/
def orientKnuthUptoCard : Claim7 := { stood := { row := orientKnuthUptoRow, standIns := [], harness := (true, "2eefad66490611199974fc4ae80b64b5aa0bece52cbccee35a06be2d72b2cf80"), looks := true }, kinds := [], alts := [], laidByText := true, laidKinds := [.data, .data, .wider], laidTests := true, laidLooks := .later }
def OrientKnuthUptoCardSaid : Prop := Claim7.holds Tryz.pinned (.plain (OpenSpec.upto orientKnuthSpec)) orientKnuthUptoCard

/-- THE SECOND FORM's CARD OF 'plumblaw11.CircleExact'. -/
def circleExactUptoCard : Claim7 := { stood := { row := circleExactUptoRow, standIns := [], harness := (true, "2eefad66490611199974fc4ae80b64b5aa0bece52cbccee35a06be2d72b2cf80"), looks := true }, kinds := [], alts := [], laidByText := true, laidKinds := [.data, .data, .wider], laidTests := true, laidLooks := .later }
def CircleExactUptoCardSaid : Prop := Claim7.holds Tryz.pinned (.plain (OpenSpec.upto circleExactSpec)) circleExactUptoCard

/-- THE SECOND FORM's CARD OF 'plumblaw13.MeasureAngle'. -/
def measureAngleUptoCard : Claim7 := { stood := { row := measureAngleUptoRow, standIns := [], harness := (true, "2eefad66490611199974fc4ae80b64b5aa0bece52cbccee35a06be2d72b2cf80"), looks := true }, kinds := [], alts := [], laidByText := true, laidKinds := [.data, .data, .wider], laidTests := true, laidLooks := .later }
def MeasureAngleUptoCardSaid : Prop := Claim7.holds Tryz.pinned (.plain (OpenSpec.upto measureAngleSpec)) measureAngleUptoCard
end Rows
end Go.Proofs.YtjjihmnbdeeedaaGreatDoor
