/-
  The document's own answers (plumbref2): Shl, Shr, by contracts over the same values.
-/
import Derived.Test.YtcpjdgfnblkfpaaGreatDoorNRef3
import Derived.Test.YtcpjdgfnblkfpaaGreatDoorNW5
namespace Go.Proofs.YtcpjdgfnblkfpaaGreatDoor
open Go Go.RowKit Go.Proofs.YtcpjdgfnblkfpaaGreatDoor.M
set_option linter.unusedSimpArgs false
set_option linter.unusedVariables false

end Go.Proofs.YtcpjdgfnblkfpaaGreatDoor
