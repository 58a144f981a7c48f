/-
  Package plumblaw3: Norm, num, by contracts: a valid number of any one, not too great.
-/
import Derived.Test.YtcpjdgfnblkfpaaGreatDoorDRef
import Derived.Test.YtcpjdgfnblkfpaaGreatDoorDFace
import Derived.Test.YtcpjdgfnblkfpaaGreatDoorNDigits
namespace Go.Proofs.YtcpjdgfnblkfpaaGreatDoor
open Go Go.RowKit Go.Proofs.YtcpjdgfnblkfpaaGreatDoor.M
set_option linter.unusedSimpArgs false
set_option linter.unusedVariables false

end Go.Proofs.YtcpjdgfnblkfpaaGreatDoor
