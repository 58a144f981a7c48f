/-
  Package nat's calls that take one list and a number: Int, Bit at every number; what they answer on no number and on a negative one.
-/
import Derived.Test.YtcpjdgfnblkfpaaGreatDoorNTz
import Derived.Test.YtcpjdgfnblkfpaaGreatDoorNPow2
import Derived.Test.YtcpjdgfnblkfpaaGreatDoorNRef3
import Derived.Test.YtcpjdgfnblkfpaaGreatDoorNG1
namespace Go.Proofs.YtcpjdgfnblkfpaaGreatDoor
open Go Go.RowKit Go.Proofs.YtcpjdgfnblkfpaaGreatDoor.M
set_option linter.unusedSimpArgs false
set_option linter.unusedVariables false

/-- A bit, at every int. -/
def bitI (A n : Int) : Bool := if n < 0 then false else bitB A n.toNat
theorem bitI_neg {A n : Int} (h : n < 0) : bitI A n = false := by simp [bitI, h]
theorem bitI_nat (A : Int) (i : Nat) : bitI A i = bitB A i := by simp [bitI]
theorem bitI_big {A n : Int} (h0 : 0 ≤ A) (h : (blen A : Int) ≤ n) : bitI A n = false := by
  unfold bitI
  split
  · rfl
  · exact bit_high h0 (by omega)
theorem blen60 {A : Int} (hA : A < P 2000) : blen A ≤ 60000 := blen_le (by rw [← P2000_two]; exact hA)
/-- The int of a number, and whether it is one. -/
def intV (A : Int) : Int := if blen A ≤ 63 then A else 0
end Go.Proofs.YtcpjdgfnblkfpaaGreatDoor
