/-
  DERIVED. GIVEN WITH THE SEED: THE CARDS: each row of YtlmoeclfjogoaabDoorRows.lean that lists a variable, with what it lists TIED to the program's text (the seventh form; the later family's looks); each row that meets fmt, with fmt's text TOLD by the authors' own Lean function (tested against real Go, not proved from fmt's source: count such statements apart). THE CARD IS WHAT COUNTS. Prove the row's statement (the work); the ties are given (YtlmoeclfjogoaabDoorTie.lean); close each card by the builder's one call (the guide's Derived/Test/ToyasCard.lean, 'card_holds'). Laid BY PROGRAM, IN A SANDBOX (cutbox-door.mjs). By AI agents, Wed Nov 11 2026. No macro, syntax, notation, axiom, sorry.
-/
import Derived.Test.YtlmoeclfjogoaabDoorRows
import GoSem.ClaimSeven
namespace Go.Proofs.YtlmoeclfjogoaabDoor
namespace Rows

/-- THE TIED CARD OF 'plumblaw3.DyadicOrder'. -/
def dyadicOrderCard : Claim7 := { stood := { row := dyadicOrderRow, standIns := [], harness := (true, "a1c03f61ec3d65c1a6e2d876f64db9c84e023f7272bf71819d79eee085a49bb5"), looks := true }, kinds := [], alts := [], laidByText := true, laidKinds := [.data, .data, .wider], laidTests := true, laidLooks := .later }
def DyadicOrderCardSaid : Prop := Claim7.holds Tryd.pinned (.plain (OpenSpec.ofChange dyadicOrderSpec)) dyadicOrderCard

/-- THE TIED CARD OF 'plumblaw3.DyadicScales'. -/
def dyadicScalesCard : Claim7 := { stood := { row := dyadicScalesRow, standIns := [], harness := (true, "a1c03f61ec3d65c1a6e2d876f64db9c84e023f7272bf71819d79eee085a49bb5"), looks := true }, kinds := [], alts := [], laidByText := true, laidKinds := [.data, .data, .wider], laidTests := true, laidLooks := .later }
def DyadicScalesCardSaid : Prop := Claim7.holds Tryd.pinned (.plain (OpenSpec.ofChange dyadicScalesSpec)) dyadicScalesCard

/-- THE TIED CARD OF 'plumblaw3.DyadicFloats'. -/
def dyadicFloatsCard : Claim7 := { stood := { row := dyadicFloatsRow, standIns := [], harness := (true, "a1c03f61ec3d65c1a6e2d876f64db9c84e023f7272bf71819d79eee085a49bb5"), looks := true }, kinds := [], alts := [], laidByText := true, laidKinds := [.data, .data, .wider], laidTests := true, laidLooks := .later }
def DyadicFloatsCardSaid : Prop := Claim7.holds Tryd.pinned (.plain (OpenSpec.ofChange dyadicFloatsSpec)) dyadicFloatsCard

/-- THE TIED CARD OF 'plumblaw3.DyadicSums'. -/
def dyadicSumsCard : Claim7 := { stood := { row := dyadicSumsRow, standIns := [], harness := (true, "a1c03f61ec3d65c1a6e2d876f64db9c84e023f7272bf71819d79eee085a49bb5"), looks := true }, kinds := [], alts := [], laidByText := true, laidKinds := [.data, .data, .wider], laidTests := true, laidLooks := .later }
def DyadicSumsCardSaid : Prop := Claim7.holds Tryd.pinned (.plain (OpenSpec.ofChange dyadicSumsSpec)) dyadicSumsCard

/-- THE TIED CARD OF 'plumblaw3.DyadicLimits'. -/
def dyadicLimitsCard : Claim7 := { stood := { row := dyadicLimitsRow, standIns := [], harness := (true, "a1c03f61ec3d65c1a6e2d876f64db9c84e023f7272bf71819d79eee085a49bb5"), looks := true }, kinds := [], alts := [], laidByText := true, laidKinds := [.data, .data, .wider], laidTests := true, laidLooks := .later }
def DyadicLimitsCardSaid : Prop := Claim7.holds Tryd.pinned (.plain (OpenSpec.ofChange dyadicLimitsSpec)) dyadicLimitsCard

/-- THE SECOND FORM's CARD OF 'plumblaw3.DyadicOrder'. -/
def dyadicOrderUptoCard : Claim7 := { stood := { row := dyadicOrderUptoRow, standIns := [], harness := (true, "a1c03f61ec3d65c1a6e2d876f64db9c84e023f7272bf71819d79eee085a49bb5"), looks := true }, kinds := [], alts := [], laidByText := true, laidKinds := [.data, .data, .wider], laidTests := true, laidLooks := .later }
def DyadicOrderUptoCardSaid : Prop := Claim7.holds Tryd.pinned (.plain (OpenSpec.upto dyadicOrderSpec)) dyadicOrderUptoCard

/-- THE SECOND FORM's CARD OF 'plumblaw3.DyadicScales'. -/
def dyadicScalesUptoCard : Claim7 := { stood := { row := dyadicScalesUptoRow, standIns := [], harness := (true, "a1c03f61ec3d65c1a6e2d876f64db9c84e023f7272bf71819d79eee085a49bb5"), looks := true }, kinds := [], alts := [], laidByText := true, laidKinds := [.data, .data, .wider], laidTests := true, laidLooks := .later }
def DyadicScalesUptoCardSaid : Prop := Claim7.holds Tryd.pinned (.plain (OpenSpec.upto dyadicScalesSpec)) dyadicScalesUptoCard

/-- THE SECOND FORM's CARD OF 'plumblaw3.DyadicFloats'. -/
def dyadicFloatsUptoCard : Claim7 := { stood := { row := dyadicFloatsUptoRow, standIns := [], harness := (true, "a1c03f61ec3d65c1a6e2d876f64db9c84e023f7272bf71819d79eee085a49bb5"), looks := true }, kinds := [], alts := [], laidByText := true, laidKinds := [.data, .data, .wider], laidTests := true, laidLooks := .later }
def DyadicFloatsUptoCardSaid : Prop := Claim7.holds Tryd.pinned (.plain (OpenSpec.upto dyadicFloatsSpec)) dyadicFloatsUptoCard

/-- THE SECOND FORM's CARD OF 'plumblaw3.DyadicSums'. -/
def dyadicSumsUptoCard : Claim7 := { stood := { row := dyadicSumsUptoRow, standIns := [], harness := (true, "a1c03f61ec3d65c1a6e2d876f64db9c84e023f7272bf71819d79eee085a49bb5"), looks := true }, kinds := [], alts := [], laidByText := true, laidKinds := [.data, .data, .wider], laidTests := true, laidLooks := .later }
def DyadicSumsUptoCardSaid : Prop := Claim7.holds Tryd.pinned (.plain (OpenSpec.upto dyadicSumsSpec)) dyadicSumsUptoCard

/-- THE SECOND FORM's CARD OF 'plumblaw3.DyadicLimits'. -/
def dyadicLimitsUptoCard : Claim7 := { stood := { row := dyadicLimitsUptoRow, standIns := [], harness := (true, "a1c03f61ec3d65c1a6e2d876f64db9c84e023f7272bf71819d79eee085a49bb5"), looks := true }, kinds := [], alts := [], laidByText := true, laidKinds := [.data, .data, .wider], laidTests := true, laidLooks := .later }
def DyadicLimitsUptoCardSaid : Prop := Claim7.holds Tryd.pinned (.plain (OpenSpec.upto dyadicLimitsSpec)) dyadicLimitsUptoCard
end Rows
end Go.Proofs.YtlmoeclfjogoaabDoor
