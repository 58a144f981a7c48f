/-
  Plain mathematics of shifts of digit lists: powers of 2, bits put together, digits shifted by part of a digit. No Go text in sight.
-/
import Derived.Test.YtbljcodhcodmkaaDoorNV
namespace Go.Proofs.YtbljcodhcodmkaaDoor.M
open Go
set_option linter.unusedSimpArgs false
set_option linter.unusedVariables false

/-- l is the lowest bit of V. -/
def IsLow (V : Int) (l : Nat) : Prop := ∃ m : Int, V = (2 * m + 1) * 2 ^ l
theorem two_pos (k : Nat) : (0 : Int) < 2 ^ k := Int.pow_pos (by decide)
/-- The digits of a list divided by 2^t (u is 2^t, v is 2^(30 - t)), cut. -/
def low (s : Nat → Int) (u v : Int) : Nat → Int := fun i => s i / u + s (i + 1) % u * v
end Go.Proofs.YtbljcodhcodmkaaDoor.M
