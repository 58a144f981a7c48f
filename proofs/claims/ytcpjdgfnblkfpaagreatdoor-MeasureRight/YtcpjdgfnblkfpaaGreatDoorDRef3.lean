/-
  Package plumbref3: Valid, Neg, Sign, by contracts.
-/
import Derived.Test.YtcpjdgfnblkfpaaGreatDoorDRef
import Derived.Test.YtcpjdgfnblkfpaaGreatDoorDFace
import Derived.Test.YtcpjdgfnblkfpaaGreatDoorNRef
namespace Go.Proofs.YtcpjdgfnblkfpaaGreatDoor
open Go Go.RowKit Go.Proofs.YtcpjdgfnblkfpaaGreatDoor.M
set_option linter.unusedSimpArgs false
set_option linter.unusedVariables false

theorem tmod_two (x : Int) (h : 0 ≤ x) : x.tmod 2 = x % 2 := Int.tmod_eq_emod_of_nonneg h
end Go.Proofs.YtcpjdgfnblkfpaaGreatDoor
