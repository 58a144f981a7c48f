/-
  Package nat: divide, by its contract.
-/
import Derived.Test.YtcpjdgfnblkfpaaGreatDoorND0
namespace Go.Proofs.YtcpjdgfnblkfpaaGreatDoor
open Go Go.RowKit Go.Proofs.YtcpjdgfnblkfpaaGreatDoor.M
set_option linter.unusedSimpArgs false
set_option linter.unusedVariables false

theorem Out.cutV {B : Nat} {w : World} {ao : Option Addr} {n cap t : Nat} {d : Nat → Int} (h : Out B w (.slice ao n cap) n d) (ht : t ≤ n) : Out B w (cutV ao t cap) t d := by
  unfold Go.Proofs.YtcpjdgfnblkfpaaGreatDoor.cutV
  split
  · rename_i e; subst e; exact Out.nil _ _ _
  · exact h.cut ht
end Go.Proofs.YtcpjdgfnblkfpaaGreatDoor
