/-
  The document's own answers for chapter 1, on: the calls of 32 bits, the neighbours, the signs, the order.
-/
import Derived.Test.YtejbjaddfjelaaaDoorRef
namespace Go.Proofs.YtejbjaddfjelaaaDoor
open Go Go.RowKit Go.Proofs.YtejbjaddfjelaaaDoor.M
set_option linter.unusedSimpArgs false
set_option linter.unusedVariables false

end Go.Proofs.YtejbjaddfjelaaaDoor
