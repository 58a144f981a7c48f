/-
  Float32, Of and Of32 of package bits, Told and Told32 of the document's own answer, by contracts.
-/
import Derived.Test.YtejbjaddfjelaaaDoorAlive
import Derived.Test.YtejbjaddfjelaaaDoorMathF
import Derived.Test.YtejbjaddfjelaaaDoorRef2
namespace Go.Proofs.YtejbjaddfjelaaaDoor
open Go Go.RowKit Go.Proofs.YtejbjaddfjelaaaDoor.M
set_option linter.unusedSimpArgs false
set_option linter.unusedVariables false

def told (b : Int) : Int := if cls b = 4 then 9221120237041090561 else b
theorem no64 {b : Int} (hb : rng b) : (FloatKind.f64.format.order (wd b) (wd b) != some .eq) = decide (cls b = 4) := by
  have := same_order hb hb
  unfold bne
  rw [this]; unfold same
  by_cases h : cls b = 4 <;> simp [h]
theorem run_bits64 (n : Nat) (w : World) : (callFunc 28 #[.float .f64 n]).run Tryd.prog w = .ok (.value (.int .u64 n)) w := by
  rw [run_callFunc_extern Tryd.func28 (by kernel_rfl) (by kernel_rfl) (by kernel_rfl) (e := Extern.MathFloatBits.float64bits) (by kernel_rfl)]
  rfl
end Go.Proofs.YtejbjaddfjelaaaDoor
