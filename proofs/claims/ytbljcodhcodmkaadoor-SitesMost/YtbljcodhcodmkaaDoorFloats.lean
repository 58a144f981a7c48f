/-
  Float32, Of and Of32 of package bits, Told and Told32 of the document's own answer, by contracts.
-/
import Derived.Test.YtbljcodhcodmkaaDoorAlive
import Derived.Test.YtbljcodhcodmkaaDoorMathF
import Derived.Test.YtbljcodhcodmkaaDoorRef2
namespace Go.Proofs.YtbljcodhcodmkaaDoor
open Go Go.RowKit Go.Proofs.YtbljcodhcodmkaaDoor.M
set_option linter.unusedSimpArgs false
set_option linter.unusedVariables false

def told (b : Int) : Int := if cls b = 4 then 9221120237041090561 else b
def wd32 (b : Int) : Nat := if in32 b then b.toNat else 2143289345
theorem no64 {b : Int} (hb : rng b) : (FloatKind.f64.format.order (wd b) (wd b) != some .eq) = decide (cls b = 4) := by
  have := same_order hb hb
  unfold bne
  rw [this]; unfold same
  by_cases h : cls b = 4 <;> simp [h]
theorem run_bits64 (n : Nat) (w : World) : (callFunc 38 #[.float .f64 n]).run Tryd.prog w = .ok (.value (.int .u64 n)) w := by
  rw [run_callFunc_extern Tryd.func38 (by kernel_rfl) (by kernel_rfl) (by kernel_rfl) (e := Extern.MathFloatBits.float64bits) (by kernel_rfl)]
  rfl
theorem bitsFloat32' (b : Int) (w : World) :
    Calls Tryd.prog 36 #[.int .i64 b] w fun e w' => e = .returned (.float .f32 (wd32 b)) ∧ w' = w := by
  have hd := run_from32
  by_cases h : in32 b = true
  · have hb := of_decide_eq_true h
    have e : Hid (wd32 b = b.toNat) := by unfold Hid wd32; rw [if_pos h]
    go_enter Tryd.func36, Tryd.ntmps36
    go_wp2_with (go_at_call 39; refine (bitsFits32 _ _).mono ?_; rintro e w1 ⟨rfl, rfl⟩)
    go_ret
    exact ⟨ret_float e.out.symm, rfl⟩
  · have h' : in32 b = false := by simpa using h
    have e : Hid (wd32 b = 2143289345) := by unfold Hid wd32; rw [if_neg h]
    go_enter Tryd.func36, Tryd.ntmps36
    go_wp2_with (go_at_call 39; refine (bitsFits32 _ _).mono ?_; rintro e w1 ⟨rfl, rfl⟩)
    go_ret
    exact ⟨ret_float e.out.symm, rfl⟩
theorem bitsOf (b : Int) (w : World) (hb : rng b) :
    Calls Tryd.prog 35 #[.float .f64 (wd b)] w fun e w' => e = .returned (.int .i64 (told b)) ∧ w' = w := by
  have hd := run_bits64
  have hn := no64 hb
  have hw : Hid (wrap64 (wd b : Int) = b) := by unfold Hid wrap64 wd; unfold rng at hb; omega
  by_cases h : cls b = 4
  · have hn' : (FloatKind.f64.format.order (wd b) (wd b) != some .eq) = true := by rw [hn]; simp [h]
    clear hn
    go_enter Tryd.func35, Tryd.ntmps35
    go_wp2
    go_ret
    exact ⟨b_ret_int (by simp [told, h]), rfl⟩
  · have hn' : (FloatKind.f64.format.order (wd b) (wd b) != some .eq) = false := by rw [hn]; simp [h]
    clear hn
    go_enter Tryd.func35, Tryd.ntmps35
    go_wp2
    go_ret
    exact ⟨b_ret_int (by rw [hw.out]; simp [told, h]), rfl⟩
end Go.Proofs.YtbljcodhcodmkaaDoor
