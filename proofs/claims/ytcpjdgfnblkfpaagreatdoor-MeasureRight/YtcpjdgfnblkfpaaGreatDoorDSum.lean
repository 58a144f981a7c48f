/-
  Package dyadic: Sum, by its contract.
-/
import Derived.Test.YtcpjdgfnblkfpaaGreatDoorDFace
namespace Go.Proofs.YtcpjdgfnblkfpaaGreatDoor
open Go Go.RowKit Go.Proofs.YtcpjdgfnblkfpaaGreatDoor.M
set_option linter.unusedSimpArgs false
set_option linter.unusedVariables false

theorem allOk_out {r : Nat → NumR} {n : Nat} (h : allOk r n = true) : ∀ i, i < n → okR (r i) = true := of_decide_eq_true h
end Go.Proofs.YtcpjdgfnblkfpaaGreatDoor
