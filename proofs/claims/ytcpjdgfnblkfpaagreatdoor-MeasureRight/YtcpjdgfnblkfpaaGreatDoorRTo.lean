/-
  Package round: itself, rounded, To, by their contracts.
-/
import Derived.Test.YtcpjdgfnblkfpaaGreatDoorRVal
import Derived.Test.YtcpjdgfnblkfpaaGreatDoorDFace
namespace Go.Proofs.YtcpjdgfnblkfpaaGreatDoor
open Go Go.RowKit Go.Proofs.YtcpjdgfnblkfpaaGreatDoor.M
set_option linter.unusedSimpArgs false
set_option linter.unusedVariables false

end Go.Proofs.YtcpjdgfnblkfpaaGreatDoor
