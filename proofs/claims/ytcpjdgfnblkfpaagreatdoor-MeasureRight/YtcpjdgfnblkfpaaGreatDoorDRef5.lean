/-
  Package plumbref3: Make, Scale, by contracts.
-/
import Derived.Test.YtcpjdgfnblkfpaaGreatDoorDRef4
namespace Go.Proofs.YtcpjdgfnblkfpaaGreatDoor
open Go Go.RowKit Go.Proofs.YtcpjdgfnblkfpaaGreatDoor.M
set_option linter.unusedSimpArgs false
set_option linter.unusedVariables false

/-- The document's own answer: a number, or ErrLong. -/
def RFit (w w' : World) (V : Int) (v : Value) (er : Int) : Prop := DFit w w' V v er
theorem RFit.shape {w w' : World} {V er : Int} {v : Value} (h : RFit w w' V v er) : ∃ ng so sn sc e, v = .agg #[.bool ng, .slice so sn sc, .int .i64 e] := by
  exact DFit.shape h
theorem not_dok_low {ng : Bool} {M e : Int} (h : 0 < M) (h1 : M < P 2000) (he0 : -4194304 ≤ e) (he : e < -2000000) : ¬ Dok (sg ng M * pw e) := by
  obtain ⟨l, hl⟩ := isLow_ex h
  have hy := Dy.of ng hl h he0
  obtain ⟨c1, c2, c3⟩ := isLow_odd hl h
  have hl2 : l < 60000 := by
    have h3 : (1 : Int) * 2 ^ l ≤ M / 2 ^ l * 2 ^ l := Int.mul_le_mul_of_nonneg_right (by omega) (Int.le_of_lt (two_pos l))
    rw [c3] at h3
    rw [P_two] at h1
    exact two_lt_iff (by omega)
  intro hk
  have := hy.ok.1 hk
  omega
theorem mk_far {ng : Bool} {M e : Int} (h0 : M ≠ 0) (h1 : 0 ≤ M) (h2 : M < P 2000) (he : 3145728 < e ∨ e < -3145728) : ¬ Dok (mkV ng M e) := by
  unfold mkV
  rw [if_neg h0]
  rcases he with he | he
  · rw [if_neg (by omega)]
    exact not_dok_high (by omega) (by omega)
  · by_cases h : e < -4194304
    · rw [if_pos h]; exact not_dok_one
    · rw [if_neg h]
      exact not_dok_low (by omega) h2 (by omega) (by omega)
end Go.Proofs.YtcpjdgfnblkfpaaGreatDoor
