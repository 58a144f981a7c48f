/-
  Package round: Quot by 0: rounded and Quot.
-/
import Derived.Test.YtcpjdgfnblkfpaaGreatDoorRQno
namespace Go.Proofs.YtcpjdgfnblkfpaaGreatDoor
open Go Go.RowKit Go.Proofs.YtcpjdgfnblkfpaaGreatDoor.M
set_option linter.unusedSimpArgs false
set_option linter.unusedVariables false

end Go.Proofs.YtcpjdgfnblkfpaaGreatDoor
