/-
  plumblaw4.num, by its contract: a valid number of any one.
-/
import Derived.Test.YtcpjdgfnblkfpaaGreatDoorRAliv4
import Derived.Test.YtcpjdgfnblkfpaaGreatDoorNDigits
import Derived.Test.YtcpjdgfnblkfpaaGreatDoorDLaw
namespace Go.Proofs.YtcpjdgfnblkfpaaGreatDoor
open Go Go.RowKit Go.Proofs.YtcpjdgfnblkfpaaGreatDoor.M
set_option linter.unusedSimpArgs false
set_option linter.unusedVariables false

end Go.Proofs.YtcpjdgfnblkfpaaGreatDoor
