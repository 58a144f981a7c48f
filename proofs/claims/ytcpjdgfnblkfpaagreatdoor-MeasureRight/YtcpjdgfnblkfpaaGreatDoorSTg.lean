/-
  Package span: Around, by the least interval around a number; plumblaw8's tight.
-/
import Derived.Test.YtcpjdgfnblkfpaaGreatDoorSTi2
import Derived.Test.YtcpjdgfnblkfpaaGreatDoorSPt3
import Derived.Test.YtcpjdgfnblkfpaaGreatDoorRRoot2
import Derived.Test.YtcpjdgfnblkfpaaGreatDoorRQD
import Derived.Test.YtcpjdgfnblkfpaaGreatDoorSUp
namespace Go.Proofs.YtcpjdgfnblkfpaaGreatDoor
open Go Go.RowKit Go.Proofs.YtcpjdgfnblkfpaaGreatDoor.M
set_option linter.unusedSimpArgs false
set_option linter.unusedVariables false

theorem c_rng (V : Int) : rng (cLo V) ∧ rng (cHi V) := by
  by_cases h : V = 0
  · unfold cLo cHi; rw [if_pos h, if_pos h]; exact ⟨by unfold rng; omega, by unfold rng; omega⟩
  · unfold cLo cHi; rw [if_neg h, if_neg h]
    exact ⟨(key_canon ⟨(rdP_pat 1 h).1, (rdP_pat 1 h).2⟩).2.1, (key_canon ⟨(rdP_pat 2 h).1, (rdP_pat 2 h).2⟩).2.1⟩
end Go.Proofs.YtcpjdgfnblkfpaaGreatDoor
