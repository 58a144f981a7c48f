/-
  What RoundQuots asks of the calls: Quot on numbers told by their worth.
-/
import Derived.Test.YtcpjdgfnblkfpaaGreatDoorRQs3
import Derived.Test.YtcpjdgfnblkfpaaGreatDoorRQno2
namespace Go.Proofs.YtcpjdgfnblkfpaaGreatDoor
open Go Go.RowKit Go.Proofs.YtcpjdgfnblkfpaaGreatDoor.M
set_option linter.unusedSimpArgs false
set_option linter.unusedVariables false

theorem pw_nil : pw 0 = 2 ^ 4194304 := by
  unfold pw
  rw [show ((0 : Int) + 4194304).toNat = 4194304 by omega]
theorem okR_abs {g : Bool} {o : Option Addr} {n c : Nat} {d : Nat → Int} {e : Int} (h : okR ⟨g, o, n, c, d, e⟩ = true) : okR ⟨false, o, n, c, d, e⟩ = true := by
  refine decide_eq_true ?_
  rcases of_decide_eq_true h with ⟨h1, h2, h3⟩ | h1
  · exact .inl ⟨h1, rfl, h3⟩
  · exact .inr h1
theorem Bd.sg {B : Nat} {V : Int} (g : Bool) (h : Bd B V) : Bd B (M.sg g V) := by
  cases g
  · exact h
  · exact h.neg
theorem sg_sg (g : Bool) (m q : Int) : sg g (sg g m * q) = sg false m * q := by
  cases g
  · rfl
  · show -(-m * q) = m * q
    rw [Int.neg_mul, Int.neg_neg]
theorem sg_scale (g : Bool) (m p q : Int) : sg g (m * (p * q)) = sg g m * p * q := by
  rw [sg_prod, sg_prod, Int.mul_assoc]
theorem ord_up {m a p U Z S : Int} (hZ : 0 < Z) (h : m * Z = p * S) (hU : U = a * Z) : ord m a = ord (p * S) U := by
  rw [hU, ← h, ord_scale hZ]
theorem ord_le0 {a b : Int} (h : a ≤ b) : ord a b ≤ 0 := by
  rcases Int.lt_or_eq_of_le h with q | q
  · rw [ord_lt q]; decide
  · rw [ord_eq q]; decide
end Go.Proofs.YtcpjdgfnblkfpaaGreatDoor
