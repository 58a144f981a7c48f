/-
  Plain mathematics of sums, differences, products of digit lists, a digit at a time; of their order. No Go text in sight.
-/
import Derived.Test.YtejbjaddfjelaaaDoorNV
namespace Go.Proofs.YtejbjaddfjelaaaDoor.M
open Go
set_option linter.unusedSimpArgs false
set_option linter.unusedVariables false

end Go.Proofs.YtejbjaddfjelaaaDoor.M
