/-
  Less of package bits by a contract.
-/
import Derived.Test.YtcpjdgfnblkfpaaGreatDoorMathF
import Derived.Test.YtcpjdgfnblkfpaaGreatDoorAlive
namespace Go.Proofs.YtcpjdgfnblkfpaaGreatDoor
open Go Go.RowKit Go.Proofs.YtcpjdgfnblkfpaaGreatDoor.M
set_option linter.unusedSimpArgs false
set_option linter.unusedVariables false

end Go.Proofs.YtcpjdgfnblkfpaaGreatDoor
