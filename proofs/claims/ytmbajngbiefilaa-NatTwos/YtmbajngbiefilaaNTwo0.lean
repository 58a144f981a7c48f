/-
  plumblaw2.two: small things ahead of its walk.
-/
import Derived.Test.YtmbajngbiefilaaNBack
import Derived.Test.YtmbajngbiefilaaNBad
import Derived.Test.YtmbajngbiefilaaNRef6
import Derived.Test.YtmbajngbiefilaaNDiv
import Derived.Test.YtmbajngbiefilaaNG4
namespace Go.Proofs.Ytmbajngbiefilaa
open Go Go.RowKit Go.Proofs.Ytmbajngbiefilaa.M
set_option linter.unusedSimpArgs false
set_option linter.unusedVariables false

theorem gcd_lt {A B X : Int} (h0 : 0 ≤ A) (hA : A < X) (k0 : 0 ≤ B) (hB : B < X) : (Int.gcd A B : Int) < X := by
  by_cases h : B = 0
  · subst h; rw [Int.gcd_zero_right]; omega
  · have := Int.le_of_dvd (by omega) (Int.gcd_dvd_right A B)
    omega
theorem notS2 {S : Nat → Prop} {l : Value} {s g : Nat} (h1 : ¬ S g) (h2 : l.ownBlock = some g → False) (h3 : g < s) : ¬ S2 S l s g := fun h => by
  rcases h with h | h | h
  · exact h1 h
  · exact h2 h
  · omega
/-- Where a value lies: in a block from x on, below y. -/
def Lies (v : Value) (x y : Nat) : Prop := ∀ g, v.ownBlock = some g → x ≤ g ∧ g < y
end Go.Proofs.Ytmbajngbiefilaa
