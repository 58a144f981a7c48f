/-
  Package plumbref3: Mul, by its contract.
-/
import Derived.Test.YtcpjdgfnblkfpaaGreatDoorDRef5
import Derived.Test.YtcpjdgfnblkfpaaGreatDoorDMul
import Derived.Test.YtcpjdgfnblkfpaaGreatDoorDCmp
import Derived.Test.YtcpjdgfnblkfpaaGreatDoorNRef2
namespace Go.Proofs.YtcpjdgfnblkfpaaGreatDoor
open Go Go.RowKit Go.Proofs.YtcpjdgfnblkfpaaGreatDoor.M
set_option linter.unusedSimpArgs false
set_option linter.unusedVariables false

end Go.Proofs.YtcpjdgfnblkfpaaGreatDoor
