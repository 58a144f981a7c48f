/-
  What a row's list gives where it names the library's table of trailing zeros too.
-/
import Derived.Test.YthppkpbfdgfcaacDoorLaid
import Derived.Test.YthppkpbfdgfcaacDoorJoin
namespace Go.Proofs.YthppkpbfdgfcaacDoor
open Go Go.RowKit Go.ChangeShapes Go.Proofs.YthppkpbfdgfcaacDoor.M
set_option linter.unusedSimpArgs false
set_option linter.unusedVariables false

theorem gTab : Tryd.prog.globalNamed "math/bits.deBruijn64tab" = some 3 := by kernel_rfl
theorem gTabType : (Tryd.prog.globals[(3 : Nat)]?).map (·.type) = some 46 := by kernel_rfl
theorem cellsTab : Tryd.prog.cellsOf 46 = 64 := by kernel_rfl
theorem cellsByte : Tryd.prog.cellsOf 5 = 1 := by kernel_rfl
def tabInts : List Int := Lib.deBruijn64tab.map Int.ofNat
theorem tab_get : ∀ j, j < 64 → tabInts.getD j 0 = ((Lib.deBruijn64tab.getD j 0 : Nat) : Int) := by decide +kernel
theorem env_of {W : World} (h : laidMetH Tryd.prog [("math/bits.deBruijn64tab", Rows.laid_math_bits_deBruijn64tab), ("plumb/bits.binary64", Rows.laid_plumb_bits_binary64), ("plumb/bits.binary32", Rows.laid_plumb_bits_binary32)] W) : Env W := by
  rw [MakeChecks.laidMetH_plain _ _ _ (by kernel_rfl)] at h
  obtain ⟨a0, a1, a2⟩ := three g64 g64Type h.tail
  obtain ⟨b0, b1, b2⟩ := three g32 g32Type h.tail.tail
  have h' : laidMet Tryd.prog (("math/bits.deBruijn64tab", Lib.tabData .u8 tabInts) :: [("plumb/bits.binary64", Rows.laid_plumb_bits_binary64), ("plumb/bits.binary32", Rows.laid_plumb_bits_binary32)]) W := h
  have t := Lib.tabIs_of_head gTab gTabType Tryd.underlying46 Tryd.underlying5 cellsByte cellsTab h'
  refine ⟨⟨a0, a1, a2, b0, b1, b2⟩, fun j hj => ?_⟩
  rw [← tab_get j hj]
  exact t.cell gTab j (by exact hj)
end Go.Proofs.YthppkpbfdgfcaacDoor
