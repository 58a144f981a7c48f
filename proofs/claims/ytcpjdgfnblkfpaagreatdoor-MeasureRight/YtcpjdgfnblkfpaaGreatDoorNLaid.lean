/-
  What a row's list gives: the library's table of trailing zeros.
-/
import Derived.Test.YtcpjdgfnblkfpaaGreatDoorNTz
import Derived.Test.YtcpjdgfnblkfpaaGreatDoorRows
import Derived.ProofKit
import Derived.LaidMore
import Derived.Deep.Strs
import Derived.Lib.LaidTab
import Derived.MakeChecks
import Derived.Stop.LaidErr
namespace Go.Proofs.YtcpjdgfnblkfpaaGreatDoor
open Go Go.RowKit Go.ChangeShapes Go.Proofs.YtcpjdgfnblkfpaaGreatDoor.M
set_option linter.unusedSimpArgs false
set_option linter.unusedVariables false

theorem gTab : Tryz.prog.globalNamed "math/bits.deBruijn64tab" = some 3 := by kernel_rfl
theorem gTabType : (Tryz.prog.globals[(3 : Nat)]?).map (·.type) = some 159 := by kernel_rfl
theorem cellsTab : Tryz.prog.cellsOf 159 = 64 := by kernel_rfl
theorem cellsByte : Tryz.prog.cellsOf 5 = 1 := by kernel_rfl
def tabInts : List Int := Lib.deBruijn64tab.map Int.ofNat
theorem tab_get : ∀ j, j < 64 → tabInts.getD j 0 = ((Lib.deBruijn64tab.getD j 0 : Nat) : Int) := by decide +kernel
theorem tab_of {W : World} (h : laidMetH Tryz.prog [("math/bits.deBruijn32tab", Rows.laid_math_bits_deBruijn32tab), ("math/bits.deBruijn64tab", Rows.laid_math_bits_deBruijn64tab)] W) : Tab W := by
  rw [MakeChecks.laidMetH_plain _ _ _ (by kernel_rfl)] at h
  have h' : laidMet Tryz.prog (("math/bits.deBruijn64tab", Lib.tabData .u8 tabInts) :: []) W := h.tail
  have t := Lib.tabIs_of_head gTab gTabType Tryz.underlying159 Tryz.underlying5 cellsByte cellsTab h'
  intro j hj
  rw [← tab_get j hj]
  exact t.cell gTab j (by exact hj)
end Go.Proofs.YtcpjdgfnblkfpaaGreatDoor
