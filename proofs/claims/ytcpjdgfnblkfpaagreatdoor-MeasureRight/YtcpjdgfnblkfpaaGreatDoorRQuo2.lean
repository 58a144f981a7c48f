/-
  Package round: quotient, by its contract. (Written by tools/r_quot2.py.)
-/
import Derived.Test.YtcpjdgfnblkfpaaGreatDoorRQuot
namespace Go.Proofs.YtcpjdgfnblkfpaaGreatDoor
open Go Go.RowKit Go.Proofs.YtcpjdgfnblkfpaaGreatDoor.M
set_option linter.unusedSimpArgs false
set_option linter.unusedVariables false

end Go.Proofs.YtcpjdgfnblkfpaaGreatDoor
