/-
  Where lists lie that were answered, and what is kept besides.
-/
import Derived.Test.YtcpjdgfnblkfpaaGreatDoorNKept
namespace Go.Proofs.YtcpjdgfnblkfpaaGreatDoor
open Go Go.RowKit Go.Proofs.YtcpjdgfnblkfpaaGreatDoor.M
set_option linter.unusedSimpArgs false
set_option linter.unusedVariables false

theorem notS2 {S : Nat → Prop} {l : Value} {s g : Nat} (h1 : ¬ S g) (h2 : l.ownBlock = some g → False) (h3 : g < s) : ¬ S2 S l s g := fun h => by
  rcases h with h | h | h
  · exact h1 h
  · exact h2 h
  · omega
/-- Where a value lies: in a block from x on, below y. -/
def Lies (v : Value) (x y : Nat) : Prop := ∀ g, v.ownBlock = some g → x ≤ g ∧ g < y
end Go.Proofs.YtcpjdgfnblkfpaaGreatDoor
