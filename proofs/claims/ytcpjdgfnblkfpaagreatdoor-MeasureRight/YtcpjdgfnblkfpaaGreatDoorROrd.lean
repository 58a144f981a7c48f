/-
  plumblaw4.order, by its contract.
-/
import Derived.Test.YtcpjdgfnblkfpaaGreatDoorRNum
import Derived.Test.YtcpjdgfnblkfpaaGreatDoorDBits
import Derived.Test.YtcpjdgfnblkfpaaGreatDoorDNum
namespace Go.Proofs.YtcpjdgfnblkfpaaGreatDoor
open Go Go.RowKit Go.Proofs.YtcpjdgfnblkfpaaGreatDoor.M
set_option linter.unusedSimpArgs false
set_option linter.unusedVariables false

/-- A pattern's value, in the scale. -/
def patV (b : Int) : Int := sg (pneg b) (pmag b) * pw (pexp b)
/-- How a number stands to a pattern. -/
def ordP (A b : Int) : Int := if pok b = true then ord A (patV b) else if b < 0 then 1 else -1
theorem patV_dok {b : Int} (h : pok b = true) : Dok (patV b) := by
  obtain ⟨i0, i1, i2, i3⟩ := pmag_in h
  exact dok_small i0 (by omega) i2 i3
end Go.Proofs.YtcpjdgfnblkfpaaGreatDoor
