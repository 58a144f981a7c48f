/-
  Plain mathematics of neighbours and of the order of all patterns. No Go text in sight.
-/
import Derived.Test.YtbljcodhcodmkaaDoorMathF
namespace Go.Proofs.YtbljcodhcodmkaaDoor.M
open Go
set_option linter.unusedSimpArgs false
set_option linter.unusedVariables false

/-! the order of all -/
end Go.Proofs.YtbljcodhcodmkaaDoor.M
