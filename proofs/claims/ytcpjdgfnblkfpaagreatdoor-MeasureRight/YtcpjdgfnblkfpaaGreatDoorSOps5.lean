/-
  Package span: Neg, Square on any intervals, told by their exact ends (tools/s_ops4.py).
-/
import Derived.Test.YtcpjdgfnblkfpaaGreatDoorSOps4
import Derived.Test.YtcpjdgfnblkfpaaGreatDoorSSq2
namespace Go.Proofs.YtcpjdgfnblkfpaaGreatDoor
open Go Go.RowKit Go.Proofs.YtcpjdgfnblkfpaaGreatDoor.M
set_option linter.unusedSimpArgs false
set_option linter.unusedVariables false

end Go.Proofs.YtcpjdgfnblkfpaaGreatDoor
