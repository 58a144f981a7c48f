/-
  What a row that lists both layouts gives.
-/
import Derived.Test.YtcpjdgfnblkfpaaGreatDoorDShut
namespace Go.Proofs.YtcpjdgfnblkfpaaGreatDoor
open Go Go.ChangeShapes Go.WideShapes Go.ChangeAt Go.RowKit Go.Proofs.YtcpjdgfnblkfpaaGreatDoor.M
set_option linter.unusedSimpArgs false
set_option linter.unusedVariables false

end Go.Proofs.YtcpjdgfnblkfpaaGreatDoor
