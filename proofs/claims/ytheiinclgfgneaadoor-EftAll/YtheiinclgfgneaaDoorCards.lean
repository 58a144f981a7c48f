/-
  DERIVED. GIVEN WITH THE SEED: THE CARDS: each row of YtheiinclgfgneaaDoorRows.lean that lists a variable, with what it lists TIED to the program's text (the seventh form; the later family's looks); each row that meets fmt, with fmt's text TOLD by the authors' own Lean function (tested against real Go, not proved from fmt's source: count such statements apart). THE CARD IS WHAT COUNTS. Prove the row's statement (the work); the ties are given (YtheiinclgfgneaaDoorTie.lean); close each card by the builder's one call (the guide's Derived/Test/ToyasCard.lean, 'card_holds'). Laid BY PROGRAM, IN A SANDBOX (cutbox-door.mjs). By AI agents, Wed Nov 11 2026. No macro, syntax, notation, axiom, sorry.
-/
import Derived.Test.YtheiinclgfgneaaDoorRows
import GoSem.ClaimSeven
namespace Go.Proofs.YtheiinclgfgneaaDoor
namespace Rows

/-- THE TIED CARD OF 'plumblaw6.EftSums'. -/
def eftSumsCard : Claim7 := { stood := { row := eftSumsRow, standIns := [], harness := (true, "d6c504b87a5a6c6bec7a0052ed6b85e5720dfd35edeeaac53fb7b94054822565"), looks := false }, kinds := [], alts := [], laidByText := true, laidKinds := [.data, .data, .wider], laidTests := true, laidLooks := .later }
def EftSumsCardSaid : Prop := Claim7.holds Tryd.pinned (.plain (OpenSpec.ofChange eftSumsSpec)) eftSumsCard

/-- THE TIED CARD OF 'plumblaw6.EftProds'. -/
def eftProdsCard : Claim7 := { stood := { row := eftProdsRow, standIns := [], harness := (true, "d6c504b87a5a6c6bec7a0052ed6b85e5720dfd35edeeaac53fb7b94054822565"), looks := false }, kinds := [], alts := [], laidByText := true, laidKinds := [.data, .data, .wider], laidTests := true, laidLooks := .later }
def EftProdsCardSaid : Prop := Claim7.holds Tryd.pinned (.plain (OpenSpec.ofChange eftProdsSpec)) eftProdsCard

/-- THE TIED CARD OF 'plumblaw6.EftAll'. -/
def eftAllCard : Claim7 := { stood := { row := eftAllRow, standIns := [], harness := (true, "d6c504b87a5a6c6bec7a0052ed6b85e5720dfd35edeeaac53fb7b94054822565"), looks := false }, kinds := [], alts := [], laidByText := true, laidKinds := [.data, .data, .wider], laidTests := true, laidLooks := .later }
def EftAllCardSaid : Prop := Claim7.holds Tryd.pinned (.plain (OpenSpec.ofChange eftAllSpec)) eftAllCard

/-- THE SECOND FORM's CARD OF 'plumblaw6.EftSums'. -/
def eftSumsUptoCard : Claim7 := { stood := { row := eftSumsUptoRow, standIns := [], harness := (true, "d6c504b87a5a6c6bec7a0052ed6b85e5720dfd35edeeaac53fb7b94054822565"), looks := false }, kinds := [], alts := [], laidByText := true, laidKinds := [.data, .data, .wider], laidTests := true, laidLooks := .later }
def EftSumsUptoCardSaid : Prop := Claim7.holds Tryd.pinned (.plain (OpenSpec.upto eftSumsSpec)) eftSumsUptoCard

/-- THE SECOND FORM's CARD OF 'plumblaw6.EftProds'. -/
def eftProdsUptoCard : Claim7 := { stood := { row := eftProdsUptoRow, standIns := [], harness := (true, "d6c504b87a5a6c6bec7a0052ed6b85e5720dfd35edeeaac53fb7b94054822565"), looks := false }, kinds := [], alts := [], laidByText := true, laidKinds := [.data, .data, .wider], laidTests := true, laidLooks := .later }
def EftProdsUptoCardSaid : Prop := Claim7.holds Tryd.pinned (.plain (OpenSpec.upto eftProdsSpec)) eftProdsUptoCard

/-- THE SECOND FORM's CARD OF 'plumblaw6.EftAll'. -/
def eftAllUptoCard : Claim7 := { stood := { row := eftAllUptoRow, standIns := [], harness := (true, "d6c504b87a5a6c6bec7a0052ed6b85e5720dfd35edeeaac53fb7b94054822565"), looks := false }, kinds := [], alts := [], laidByText := true, laidKinds := [.data, .data, .wider], laidTests := true, laidLooks := .later }
def EftAllUptoCardSaid : Prop := Claim7.holds Tryd.pinned (.plain (OpenSpec.upto eftAllSpec)) eftAllUptoCard
end Rows
end Go.Proofs.YtheiinclgfgneaaDoor
