/-
  Package plumbref3: Neg, Answer, Make, Scale, by contracts.
-/
import Derived.Test.YtcpjdgfnblkfpaaGreatDoorDRef3
import Derived.Test.YtcpjdgfnblkfpaaGreatDoorDScale
namespace Go.Proofs.YtcpjdgfnblkfpaaGreatDoor
open Go Go.RowKit Go.Proofs.YtcpjdgfnblkfpaaGreatDoor.M
set_option linter.unusedSimpArgs false
set_option linter.unusedVariables false

/-- The other sign; 0 has none. -/
def NumR.opp (x : NumR) : NumR := ⟨if x.n = 0 then x.ng else !x.ng, x.ao, x.n, x.cap, x.d, x.e⟩
theorem okR_of {V : Int} {ng : Bool} {ao : Option Addr} {n cap : Nat} {d : Nat → Int} {e : Int} (hy : Dy V ng (val d n) e) (hN : Nrm d n) (ok : Dok V) : okR ⟨ng, ao, n, cap, d, e⟩ = true := by
  obtain ⟨o1, o2, o3⟩ := hy.ok.1 ok
  refine decide_eq_true ?_
  by_cases h0 : n = 0
  · left
    have hz : val d n = 0 := by rw [h0]; rfl
    rcases hy.form with ⟨_, f2, f3⟩ | ⟨f1, _⟩
    · exact ⟨h0, f2, f3⟩
    · omega
  · right
    have hp := val_pos hN (show 0 < n by omega)
    rcases hy.form with ⟨f1, _⟩ | ⟨_, f2⟩
    · omega
    · refine ⟨by show 0 < n; omega, ⟨?_, hN⟩, ?_, o2, o3⟩
      · show n ≤ 2000
        by_cases h2 : n ≤ 2000
        · exact h2
        · have a := val_top hN.1 (by omega) hN.2
          have b := P_le (show 2000 ≤ n - 1 by omega)
          omega
      · obtain ⟨k, hk⟩ : ∃ k, n = 1 + k := ⟨n - 1, by omega⟩
        have := val_split d 1 k
        rw [← hk] at this
        rw [this, show val d 1 = d 0 by show 0 + d 0 * 1 = _; omega, show P 1 = 1073741824 from rfl] at f2
        show d 0 % 2 = 1
        omega
end Go.Proofs.YtcpjdgfnblkfpaaGreatDoor
