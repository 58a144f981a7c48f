/-
  The model's product and sum, rounded once (math.FMA), on patterns.
-/
import Derived.Test.YtcpjdgfnblkfpaaGreatDoorRRd
import Derived.Test.YtcpjdgfnblkfpaaGreatDoorRFrun
import Derived.Laws.Externs
namespace Go.Proofs.YtcpjdgfnblkfpaaGreatDoor
open Go Go.RowKit Go.Proofs.YtcpjdgfnblkfpaaGreatDoor.M Ieee
set_option linter.unusedSimpArgs false
set_option linter.unusedVariables false

theorem ext_fma (x y z : Nat) : ∃ a b, Extern.MathFMA.fma #[.float .f64 x, .float .f64 y, .float .f64 z] = Option.casesOn (motive := fun _ => Sem Value) (FloatKind.f64.format.fma x y z) (do pure (.float .f64 (← choose (.nanBits .f64 a b)))) (fun r => pure (.float .f64 r)) := by
  cases h1 : Extern.MathFMA.isNaN x with
  | true => exact ⟨x, y, by
      have : Extern.MathFMA.fma #[.float .f64 x, .float .f64 y, .float .f64 z] = Option.casesOn (motive := fun _ => Sem Value) (FloatKind.f64.format.fma x y z) (match (if Extern.MathFMA.isNaN x then (x, y) else if Extern.MathFMA.isNaN y then (y, z) else (z, z)) with | (a, b) => do pure (.float .f64 (← choose (.nanBits .f64 a b)))) (fun r => pure (.float .f64 r)) := by kernel_rfl
      rw [this, h1]; rfl⟩
  | false =>
    cases h2 : Extern.MathFMA.isNaN y with
    | true => exact ⟨y, z, by
        have : Extern.MathFMA.fma #[.float .f64 x, .float .f64 y, .float .f64 z] = Option.casesOn (motive := fun _ => Sem Value) (FloatKind.f64.format.fma x y z) (match (if Extern.MathFMA.isNaN x then (x, y) else if Extern.MathFMA.isNaN y then (y, z) else (z, z)) with | (a, b) => do pure (.float .f64 (← choose (.nanBits .f64 a b)))) (fun r => pure (.float .f64 r)) := by kernel_rfl
        rw [this, h1, h2]; rfl⟩
    | false => exact ⟨z, z, by
        have : Extern.MathFMA.fma #[.float .f64 x, .float .f64 y, .float .f64 z] = Option.casesOn (motive := fun _ => Sem Value) (FloatKind.f64.format.fma x y z) (match (if Extern.MathFMA.isNaN x then (x, y) else if Extern.MathFMA.isNaN y then (y, z) else (z, z)) with | (a, b) => do pure (.float .f64 (← choose (.nanBits .f64 a b)))) (fun r => pure (.float .f64 r)) := by kernel_rfl
        rw [this, h1, h2]; rfl⟩
theorem run_ffma {p q r : Int} {x y z : Nat} (hx : FW p x) (hy : FW q y) (hz : FW r z) (w : World) :
    ∃ t w', (callFunc 124 #[.float .f64 x, .float .f64 y, .float .f64 z]).run Tryz.prog w = .ok (.value (.float .f64 t)) w' ∧ FW (ffma p q r) t ∧ (w' = w ∨ w' = w.drew) := by
  rw [run_callFunc_extern Tryz.func124 (by kernel_rfl) (by kernel_rfl) (by kernel_rfl) (e := Extern.MathFMA.fma) (by kernel_rfl)]
  obtain ⟨a, b, hab⟩ := ext_fma x y z
  rw [hab]
  rcases fma_FW hx hy hz with ⟨t, e1, e2⟩ | ⟨e1, e2⟩
  · refine ⟨t, w, ?_, e2, .inl rfl⟩
    have e1' : FloatKind.f64.format.fma x y z = some t := e1
    rw [e1']
    simp
  · have e1' : FloatKind.f64.format.fma x y z = none := e1
    rw [e1']
    refine ⟨(Question.nanBits .f64 a b).cut (w.tape w.drawn (.nanBits .f64 a b)), w.drew, ?_, ?_, .inr rfl⟩
    · simp
      exact fun hf => absurd (show false = true from hf) (by decide)
    · rw [e2]
      exact FW.nan (nan_cut a b (w.tape w.drawn (.nanBits .f64 a b)))
end Go.Proofs.YtcpjdgfnblkfpaaGreatDoor
