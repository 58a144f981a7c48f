/-
  Package bits' calls that take no join, each by a contract: what it answers for every int, in every world that holds the two layouts.
-/
import Derived.Test.YtgfmjcekgpjloaaLay
namespace Go.Proofs.Ytgfmjcekgpjloaa
open Go Go.RowKit Go.Proofs.Ytgfmjcekgpjloaa.M
set_option linter.unusedSimpArgs false
set_option linter.unusedVariables false

end Go.Proofs.Ytgfmjcekgpjloaa
