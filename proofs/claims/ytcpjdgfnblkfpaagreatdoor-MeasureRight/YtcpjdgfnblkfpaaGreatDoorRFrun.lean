/-
  The model's operations on floats, by a law each: a float that is told, or one of the words of no number.
-/
import Derived.Test.YtcpjdgfnblkfpaaGreatDoorRFmul
import Derived.Laws.FloatArith
namespace Go.Proofs.YtcpjdgfnblkfpaaGreatDoor
open Go Go.RowKit Go.Proofs.YtcpjdgfnblkfpaaGreatDoor.M Ieee
set_option linter.unusedSimpArgs false
set_option linter.unusedVariables false

/-- A word of no number. -/
def NanW (z : Nat) : Prop := z < 18446744073709551616 ∧ 9218868437227405312 < z % 9223372036854775808
theorem nan_cut (x y t : Nat) : NanW ((Question.nanBits .f64 x y).cut t) := by
  have h : (Question.nanBits .f64 x y).cut t = (t % 2) * 2 ^ 63 + 0x7ff0000000000000 + 1 + (t / 2) % (2 ^ 52 - 1) := rfl
  have e63 : (2 : Nat) ^ 63 = 9223372036854775808 := by decide
  have e52 : (2 : Nat) ^ 52 - 1 = 4503599627370495 := by decide
  rw [h, e63, e52]
  have hc := Nat.mod_lt (t / 2) (show 0 < 4503599627370495 by decide)
  have hm : t % 2 = 0 ∨ t % 2 = 1 := by omega
  generalize t / 2 % 4503599627370495 = c at *
  unfold NanW
  rcases hm with h2 | h2
  · rw [h2]; omega
  · rw [h2]; omega
theorem run_farith {P : Program} (op : BinOp) (ho : op = .add ∨ op = .sub ∨ op = .mul ∨ op = .quo) (t : TypeId) (x y : Nat) (w : World) :
    ∃ z w', (binOp op t (.float .f64 x) (.float .f64 y)).run P w = .ok (.float .f64 z) w' ∧ ((floatBits op .f64 x y = some z ∧ w' = w) ∨ (floatBits op .f64 x y = none ∧ NanW z ∧ w' = w.drew)) := by
  cases h : floatBits op .f64 x y with
  | some r => exact ⟨r, w, run_float_arith w op t .f64 x y r h, .inl ⟨rfl, rfl⟩⟩
  | none =>
    refine ⟨_, w.drew, ?_, .inr ⟨rfl, nan_cut x y (w.tape w.drawn (.nanBits .f64 x y)), rfl⟩⟩
    unfold floatBits at h
    rcases ho with rfl | rfl | rfl | rfl <;> simp only at h <;> simp [binOp, Op.floatArith, h] <;> exact fun hf => absurd (show false = true from hf) (by decide)
end Go.Proofs.YtcpjdgfnblkfpaaGreatDoor
