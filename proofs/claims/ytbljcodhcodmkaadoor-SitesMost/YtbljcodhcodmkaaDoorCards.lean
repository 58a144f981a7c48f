/-
  DERIVED. GIVEN WITH THE SEED: THE CARDS: each row of YtbljcodhcodmkaaDoorRows.lean that lists a variable, with what it lists TIED to the program's text (the seventh form; the later family's looks); each row that meets fmt, with fmt's text TOLD by the authors' own Lean function (tested against real Go, not proved from fmt's source: count such statements apart). THE CARD IS WHAT COUNTS. Prove the row's statement (the work); the ties are given (YtbljcodhcodmkaaDoorTie.lean); close each card by the builder's one call (the guide's Derived/Test/ToyasCard.lean, 'card_holds'). Laid BY PROGRAM, IN A SANDBOX (cutbox-door.mjs). By AI agents, Wed Nov 11 2026. No macro, syntax, notation, axiom, sorry.
-/
import Derived.Test.YtbljcodhcodmkaaDoorRows
import GoSem.ClaimSeven
namespace Go.Proofs.YtbljcodhcodmkaaDoor
namespace Rows

/-- THE TIED CARD OF 'plumblaw15.SitesNumbers'. -/
def sitesNumbersCard : Claim7 := { stood := { row := sitesNumbersRow, standIns := [], harness := (true, "64f5060090c0bdb6b9f53dc24e0f8ef21b9855011a81fc12867d0954e0166549"), looks := false }, kinds := [], alts := [], laidByText := true, laidKinds := [.wider], laidTests := true, laidLooks := .later }
def SitesNumbersCardSaid : Prop := Claim7.holds Tryd.pinned (.plain (OpenSpec.ofChange sitesNumbersSpec)) sitesNumbersCard

/-- THE TIED CARD OF 'plumblaw15.SitesMost'. -/
def sitesMostCard : Claim7 := { stood := { row := sitesMostRow, standIns := [], harness := (true, "64f5060090c0bdb6b9f53dc24e0f8ef21b9855011a81fc12867d0954e0166549"), looks := false }, kinds := [], alts := [], laidByText := true, laidKinds := [.wider, .wider], laidTests := true, laidLooks := .later }
def SitesMostCardSaid : Prop := Claim7.holds Tryd.pinned (.plain (OpenSpec.ofChange sitesMostSpec)) sitesMostCard

/-- THE SECOND FORM's CARD OF 'plumblaw15.SitesNumbers'. -/
def sitesNumbersUptoCard : Claim7 := { stood := { row := sitesNumbersUptoRow, standIns := [], harness := (true, "64f5060090c0bdb6b9f53dc24e0f8ef21b9855011a81fc12867d0954e0166549"), looks := false }, kinds := [], alts := [], laidByText := true, laidKinds := [.wider], laidTests := true, laidLooks := .later }
def SitesNumbersUptoCardSaid : Prop := Claim7.holds Tryd.pinned (.plain (OpenSpec.upto sitesNumbersSpec)) sitesNumbersUptoCard

/-- THE SECOND FORM's CARD OF 'plumblaw15.SitesMost'. -/
def sitesMostUptoCard : Claim7 := { stood := { row := sitesMostUptoRow, standIns := [], harness := (true, "64f5060090c0bdb6b9f53dc24e0f8ef21b9855011a81fc12867d0954e0166549"), looks := false }, kinds := [], alts := [], laidByText := true, laidKinds := [.wider, .wider], laidTests := true, laidLooks := .later }
def SitesMostUptoCardSaid : Prop := Claim7.holds Tryd.pinned (.plain (OpenSpec.upto sitesMostSpec)) sitesMostUptoCard
end Rows
end Go.Proofs.YtbljcodhcodmkaaDoor
