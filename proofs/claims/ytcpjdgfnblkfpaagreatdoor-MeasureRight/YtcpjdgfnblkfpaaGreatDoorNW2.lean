/-
  Package nat: sum, difference, compare, by contracts: for every two lists of digits.
-/
import Derived.Test.YtcpjdgfnblkfpaaGreatDoorNW1
namespace Go.Proofs.YtcpjdgfnblkfpaaGreatDoor
open Go Go.RowKit Go.Proofs.YtcpjdgfnblkfpaaGreatDoor.M
set_option linter.unusedSimpArgs false
set_option linter.unusedVariables false

end Go.Proofs.YtcpjdgfnblkfpaaGreatDoor
