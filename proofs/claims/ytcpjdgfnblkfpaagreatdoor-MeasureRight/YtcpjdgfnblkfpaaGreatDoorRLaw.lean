/-
  What the laws of package round share: what a row gives, numbers told by their worth, round.To at all ways.
-/
import Derived.Test.YtcpjdgfnblkfpaaGreatDoorRBet4
import Derived.Test.YtcpjdgfnblkfpaaGreatDoorRAliv4
import Derived.Test.YtcpjdgfnblkfpaaGreatDoorROrd
import Derived.Test.YtcpjdgfnblkfpaaGreatDoorDShut2
import Derived.Test.YtcpjdgfnblkfpaaGreatDoorDLaw
import Derived.Test.YtcpjdgfnblkfpaaGreatDoorDLim
namespace Go.Proofs.YtcpjdgfnblkfpaaGreatDoor
open Go Go.ChangeShapes Go.WideShapes Go.ChangeAt Go.RowKit Go.Proofs.YtcpjdgfnblkfpaaGreatDoor.M
set_option linter.unusedSimpArgs false
set_option linter.unusedVariables false

structure Hold4 (w : World) : Prop where
  lay : Lay64 w
  tab : Tab w
  env : Env w
theorem Hold4.keeps {w w' : World} (h : Hold4 w) (hb : Below w.heap.size w w') : Hold4 w' := ⟨h.lay.keeps hb, h.tab.keeps hb, h.env.keeps hb⟩
theorem P20_30 : P 20 ≤ P 30 := by unfold P; decide
theorem rTo_range (way : Int) (ng : Bool) (r0 : Nat) (left : Int) : 0 ≤ rTo way ng r0 left ∧ rTo way ng r0 left ≤ 9218868437227405312 := by
  unfold rTo
  split
  · split <;> omega
  · unfold bRung
    repeat' split
    all_goals decide
theorem toR_range {x : NumR} (ok : okR x = true) (way : Int) : rng (toR way x).1 := by
  by_cases h0 : x.n = 0
  · rw [to_zero ok h0]; unfold rng; decide
  · obtain ⟨r0, left, _, hf⟩ := to_all ok (by omega)
    rw [hf way]
    obtain ⟨h1, h2⟩ := rTo_range way x.ng r0 left
    exact (patS_facts h1 h2 (fun h => by
      cases hx : x.ng
      · rw [hx] at h; cases h
      · rw [hx, Bool.true_and] at h; exact of_decide_eq_true h)).1
end Go.Proofs.YtcpjdgfnblkfpaaGreatDoor
