/-
  The document's own answers (plumbref2): fits, Answer, From, Cmp, Sub, Mul, by contracts over the same values.
-/
import Derived.Test.YtcpjdgfnblkfpaaGreatDoorNRef
namespace Go.Proofs.YtcpjdgfnblkfpaaGreatDoor
open Go Go.RowKit Go.Proofs.YtcpjdgfnblkfpaaGreatDoor.M
set_option linter.unusedSimpArgs false
set_option linter.unusedVariables false

end Go.Proofs.YtcpjdgfnblkfpaaGreatDoor
