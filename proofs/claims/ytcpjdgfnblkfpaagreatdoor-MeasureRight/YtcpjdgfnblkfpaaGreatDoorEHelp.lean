/-
  plumblaw6: together, size, alive, by their contracts.
-/
import Derived.Test.YtcpjdgfnblkfpaaGreatDoorEStep4
import Derived.Test.YtcpjdgfnblkfpaaGreatDoorRNear2
import Derived.Test.YtcpjdgfnblkfpaaGreatDoorLess
import Derived.Test.YtcpjdgfnblkfpaaGreatDoorDShut
namespace Go.Proofs.YtcpjdgfnblkfpaaGreatDoor
open Go Go.RowKit Go.Proofs.YtcpjdgfnblkfpaaGreatDoor.M Ieee
set_option linter.unusedSimpArgs false
set_option linter.unusedVariables false

theorem hold6_of {W : World} (h : laidMetH Tryz.prog [("math/bits.deBruijn32tab", Rows.laid_math_bits_deBruijn32tab), ("math/bits.deBruijn64tab", Rows.laid_math_bits_deBruijn64tab), ("plumb/bits.binary64", Rows.laid_plumb_bits_binary64)] W) : Hold4 W := by
  have k := hold_of h
  exact ⟨k.lay, k.tab, ⟨⟨k.lay.a0, k.lay.a1, k.lay.a2, trivial, trivial, trivial⟩, k.tab⟩⟩
theorem fin_pos {p : Int} (h0 : 0 ≤ p) (h1 : p < 9218868437227405312) : rng p ∧ pok p = true ∧ ¬ cls p = 4 ∧ rg p = p := by
  have e : p = patS false p := rfl
  obtain ⟨a, b, _⟩ := patS_parts (ng := false) h0 (by omega)
  rw [← e] at a b
  have hp : pok p = true := by rw [e, patS_fin h0 (by omega)]; exact decide_eq_true h1
  exact ⟨a, hp, (fin_cls a hp).1, b⟩
theorem abs_rg {b : Int} (h : ¬ cls b = 4) : M.abs b = rg b := by
  unfold M.abs rg
  rw [if_neg h]
theorem key_pos {p : Int} (h0 : 0 ≤ p) : key p = p := by unfold key; rw [if_neg (by omega)]
theorem size_less {b P : Int} (hb : rng b) (pb : pok b = true) (h0 : 0 ≤ P) (h1 : P < 9218868437227405312) : less (M.abs b) P = decide (rg b < P) := by
  have h4 := (fin_cls hb pb).1
  have g0 : 0 ≤ rg b ∧ rg b < 9218868437227405312 := rg_lt hb pb
  rw [abs_rg h4]
  obtain ⟨a1, a2, a3, _⟩ := fin_pos g0.1 g0.2
  obtain ⟨b1, b2, b3, _⟩ := fin_pos h0 h1
  unfold less
  rw [decide_eq_false a3, decide_eq_false b3, key_pos g0.1, key_pos h0]
  rfl
/-- Is a float finite, and below a pattern, its sign aside? -/
def szB (b P : Int) : Bool := pok b && decide (rg b < P)
end Go.Proofs.YtcpjdgfnblkfpaaGreatDoor
