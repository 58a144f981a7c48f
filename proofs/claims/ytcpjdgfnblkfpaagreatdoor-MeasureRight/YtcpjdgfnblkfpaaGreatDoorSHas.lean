/-
  Package span: Has, by its contract.
-/
import Derived.Test.YtcpjdgfnblkfpaaGreatDoorSPt3
namespace Go.Proofs.YtcpjdgfnblkfpaaGreatDoor
open Go Go.RowKit Go.Proofs.YtcpjdgfnblkfpaaGreatDoor.M
set_option linter.unusedSimpArgs false
set_option linter.unusedVariables false

/-- Is an interval within another one, by the ends' values? -/
def inI (a b c d : Int) : Bool := decide (key a ≤ key c ∧ key d ≤ key b)
theorem inI_eq {a b c d : Int} (ha : nn a) (hb : nn b) (hc : nn c) (hd : nn d) : (decide (key (minP a c) = key a) && decide (key (maxP b d) = key b)) = inI a b c d := by
  obtain ⟨_, h1, h2, h3⟩ := minP_nn ha hc
  obtain ⟨_, g1, g2, g3⟩ := maxP_nn hb hd
  unfold inI
  rw [Bool.eq_iff_iff]
  simp only [Bool.and_eq_true, decide_eq_true_eq]
  omega
theorem run_eqF {P : Program} (w : World) (d : Nat) (t : TypeId) (k : FloatKind) (a b : Nat) (h : P.underlying t = some (.float k)) : (Op.equalIn (d + 1) t (.float .f64 a) (.float .f64 b)).run P w = .ok (FloatKind.f64.format.order a b == some .eq) w := by
  simp [Op.equalIn, run_underlying h, Op.floatEq]
end Go.Proofs.YtcpjdgfnblkfpaaGreatDoor
