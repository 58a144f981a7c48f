/-
  Plain mathematics: neighbours of patterns; the four ways are neighbours around the number.
-/
import Derived.Test.YtcpjdgfnblkfpaaGreatDoorRBet2
namespace Go.Proofs.YtcpjdgfnblkfpaaGreatDoor
open Go Go.RowKit Go.Proofs.YtcpjdgfnblkfpaaGreatDoor.M
set_option linter.unusedSimpArgs false
set_option linter.unusedVariables false

theorem cls_rg {b : Int} (hb : rng b) : (cls b = 4 ↔ 9218868437227405312 < rg b) ∧ (cls b = 0 ↔ rg b = 0) := by
  obtain ⟨h0, h1⟩ := rg_parts hb
  have hf : 0 ≤ frc b ∧ frc b < 4503599627370496 := by unfold frc; omega
  have hg : 0 ≤ fld b ∧ fld b < 2048 := by unfold fld; omega
  generalize rg b = r at *
  unfold cls
  generalize fld b = f at *
  generalize frc b = c at *
  constructor
  · split
    · split <;> constructor <;> intro h <;> omega
    · split
      · split <;> constructor <;> intro h <;> omega
      · constructor <;> intro h <;> omega
  · split
    · split <;> constructor <;> intro h <;> omega
    · split
      · split <;> constructor <;> intro h <;> omega
      · constructor <;> intro h <;> omega
theorem up_pos {r : Int} (h0 : 0 ≤ r) (h1 : r < 9218868437227405312) : canon (next (patS false r)) = r + 1 := by
  have e : patS false r = r := rfl
  rw [e]
  have a1 : rng r := by unfold rng; omega
  have a2 : rng (r + 1) := by unfold rng; omega
  have g1 : rg r = r := by unfold rg; rw [if_neg (by omega)]
  have g2 : rg (r + 1) = r + 1 := by unfold rg; rw [if_neg (by omega)]
  have c1 := cls_rg a1
  have c2 := cls_rg a2
  rw [g1] at c1
  rw [g2] at c2
  have n : next r = r + 1 := by
    unfold next
    rw [if_neg (by rw [c1.1]; omega), if_neg (by omega), if_neg (by omega), if_neg (by omega)]
  rw [n]
  unfold canon
  rw [if_neg (by rw [c2.1]; omega), if_neg (by rw [c2.2]; omega)]
theorem up_neg {r : Int} (h0 : 0 < r) (h1 : r ≤ 9218868437227405312) : canon (next (patS true r)) = patS (decide (0 < r - 1)) (r - 1) := by
  have e : patS true r = r - 9223372036854775808 := rfl
  rw [e]
  have a1 : rng (r - 9223372036854775808) := by unfold rng; omega
  have a2 : rng (r - 9223372036854775808 - 1) := by unfold rng; omega
  have g1 : rg (r - 9223372036854775808) = r := by unfold rg; rw [if_pos (by omega)]; omega
  have g2 : rg (r - 9223372036854775808 - 1) = r - 1 := by unfold rg; rw [if_pos (by omega)]; omega
  have c1 := cls_rg a1
  have c2 := cls_rg a2
  rw [g1] at c1
  rw [g2] at c2
  have n : next (r - 9223372036854775808) = r - 9223372036854775808 - 1 := by
    unfold next
    rw [if_neg (by rw [c1.1]; omega), if_neg (by omega), if_neg (by omega), if_pos (by omega)]
  rw [n]
  unfold canon
  rw [if_neg (by rw [c2.1]; omega)]
  by_cases h : r - 1 = 0
  · rw [if_pos (c2.2.2 h), h]
    rfl
  · rw [if_neg (by rw [c2.2]; exact h), decide_eq_true (by omega)]
    unfold patS
    rw [if_pos rfl]
    omega
end Go.Proofs.YtcpjdgfnblkfpaaGreatDoor
