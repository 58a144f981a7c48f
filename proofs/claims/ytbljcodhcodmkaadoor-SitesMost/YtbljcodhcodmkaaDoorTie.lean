/-
  DERIVED. GIVEN WITH THE SEED: THE PROGRAM's TIES (one call each: nine closed facts by the kernel) AND EACH ROW's TIE, after the 31st guide's Derived/Test/Toyas{Tie, Card}.lean. No idea stands in it: it is a product of the set-up. Laid BY PROGRAM, IN A SANDBOX (cutbox-door.mjs). By AI agents, Wed Nov 11 2026. No macro, syntax, notation, axiom, sorry.
-/
import Derived.Test.YtbljcodhcodmkaaDoorRows
import Derived.LaidByTextLater
import Derived.SevenTiedAt
import Derived.LaidSub
import Derived.LaidOnce
namespace Go.Proofs.YtbljcodhcodmkaaDoor
open Go
set_option maxRecDepth 100000
theorem seatTie1 : Tryd.prog.laidByTextLater [("plumb/bits.binary64", Rows.laid_plumb_bits_binary64), ("plumb/bits.binary32", Rows.laid_plumb_bits_binary32)] [.wider, .wider] true :=
  Program.laidByTextLater_by_one 19 8 4 (by kernel_rfl) (by kernel_rfl) (by kernel_rfl) (by kernel_rfl) (by kernel_rfl) (by kernel_rfl) (fun _ _ => by kernel_rfl)
theorem noOwnUnsafe : Tryd.pinned.checked.prog.headLifts.contains "ownunsafe" = false := by kernel_rfl
theorem tie : Tryd.prog.laidByTextLater [("plumb/bits.binary64", Rows.laid_plumb_bits_binary64)] [.wider] true :=
  Program.laidByTextLater.sub seatTie1 ["plumb/bits.binary64"] (by kernel_rfl) (by kernel_rfl)
theorem sitesNumbers_row_tie : Rows.sitesNumbersRow.laidByTextAt .later Tryd.pinned [.wider] true :=
  OpenClaim.laidByTextAt_later rfl rfl tie noOwnUnsafe
theorem tie2 : Tryd.prog.laidByTextLater [("plumb/bits.binary64", Rows.laid_plumb_bits_binary64), ("plumb/bits.binary32", Rows.laid_plumb_bits_binary32)] [.wider, .wider] true :=
  Program.laidByTextLater.sub seatTie1 ["plumb/bits.binary64", "plumb/bits.binary32"] (by kernel_rfl) (by kernel_rfl)
theorem sitesMost_row_tie : Rows.sitesMostRow.laidByTextAt .later Tryd.pinned [.wider, .wider] true :=
  OpenClaim.laidByTextAt_later rfl rfl tie2 noOwnUnsafe
theorem sitesNumbersUpto_row_tie : Rows.sitesNumbersUptoRow.laidByTextAt .later Tryd.pinned [.wider] true :=
  OpenClaim.laidByTextAt_later rfl rfl tie noOwnUnsafe
theorem sitesMostUpto_row_tie : Rows.sitesMostUptoRow.laidByTextAt .later Tryd.pinned [.wider, .wider] true :=
  OpenClaim.laidByTextAt_later rfl rfl tie2 noOwnUnsafe
end Go.Proofs.YtbljcodhcodmkaaDoor
