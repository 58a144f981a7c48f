/-
  Less of package bits by a contract.
-/
import Derived.Test.YthppkpbfdgfcaacDoorMathF
import Derived.Test.YthppkpbfdgfcaacDoorAlive
namespace Go.Proofs.YthppkpbfdgfcaacDoor
open Go Go.RowKit Go.Proofs.YthppkpbfdgfcaacDoor.M
set_option linter.unusedSimpArgs false
set_option linter.unusedVariables false

theorem bitsLess1 (a b : Int) (w : World) (ha : rng a) (hb : rng b) :
    Calls Tryd.prog 12 #[.int .i64 a, .int .i64 b] w fun e w' => e = .returned (.bool (less a b)) ∧ w' = w := by
  have k := less_order ha hb
  go_enter Tryd.func12, Tryd.ntmps12
  go_wp2_with (go_at_call 9; refine (bitsFloat _ _).mono ?_; rintro e w1 ⟨rfl, rfl⟩)
  go_ret
  exact ⟨rfl, rfl⟩
end Go.Proofs.YthppkpbfdgfcaacDoor
