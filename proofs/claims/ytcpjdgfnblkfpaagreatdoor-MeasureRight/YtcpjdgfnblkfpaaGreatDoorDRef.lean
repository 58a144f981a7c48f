/-
  Package plumbref3: Norm, by its contract: the one form of a number, however long.
-/
import Derived.Test.YtcpjdgfnblkfpaaGreatDoorDSetV
import Derived.Test.YtcpjdgfnblkfpaaGreatDoorNOne2
import Derived.Test.YtcpjdgfnblkfpaaGreatDoorNRef4
namespace Go.Proofs.YtcpjdgfnblkfpaaGreatDoor
open Go Go.RowKit Go.Proofs.YtcpjdgfnblkfpaaGreatDoor.M
set_option linter.unusedSimpArgs false
set_option linter.unusedVariables false

end Go.Proofs.YtcpjdgfnblkfpaaGreatDoor
