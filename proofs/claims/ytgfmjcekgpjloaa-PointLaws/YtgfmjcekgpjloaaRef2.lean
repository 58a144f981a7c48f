/-
  The document's own answers for chapter 1, on: the calls of 32 bits, the neighbours, the signs, the order.
-/
import Derived.Test.YtgfmjcekgpjloaaRef
namespace Go.Proofs.Ytgfmjcekgpjloaa
open Go Go.RowKit Go.Proofs.Ytgfmjcekgpjloaa.M
set_option linter.unusedSimpArgs false
set_option linter.unusedVariables false

end Go.Proofs.Ytgfmjcekgpjloaa
