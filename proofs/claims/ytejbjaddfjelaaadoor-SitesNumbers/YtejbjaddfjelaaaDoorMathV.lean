/-
  Plain mathematics: the value of a joined pattern; what Parts tells is joined again to the same pattern; the neighbour of a pattern by its parts. No Go text in sight.
-/
import Derived.Test.YtejbjaddfjelaaaDoorMathF
import Derived.Test.YtejbjaddfjelaaaDoorMathJ
namespace Go.Proofs.YtejbjaddfjelaaaDoor.M
open Go Ieee
set_option linter.unusedSimpArgs false
set_option linter.unusedVariables false

/-! binary64 -/
def rg (b : Int) : Int := if b < 0 then b + 9223372036854775808 else b
theorem rg_parts {b : Int} (h : rng b) : 0 ≤ rg b ∧ rg b = fld b * 4503599627370496 + frc b := by
  unfold rng at h; unfold rg fld frc; split <;> omega
theorem pparts {b : Int} (h : pok b = true) : fld b ≠ 2047 := by simpa [pok] using h
/-! binary32 -/
end Go.Proofs.YtejbjaddfjelaaaDoor.M
