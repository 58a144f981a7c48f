/-
  The document's own answers for chapter 9 (package plumbref9), by contracts: Coordinate, Finite, Zero, Normal, Rank, Cmp, Tame.
-/
import Derived.Test.YtbljcodhcodmkaaDoorQPt
namespace Go.Proofs.YtbljcodhcodmkaaDoor
open Go Go.RowKit Go.Proofs.YtbljcodhcodmkaaDoor.M
set_option linter.unusedSimpArgs false
set_option linter.unusedVariables false

/-- 0 for -0 -/
def q0 (b : Int) : Int := if b = -9223372036854775808 then 0 else b
end Go.Proofs.YtbljcodhcodmkaaDoor
