/-
  Plain mathematics: patterns of a sign and a rung, held against numbers.
-/
import Derived.Test.YtcpjdgfnblkfpaaGreatDoorROrd
import Derived.Test.YtcpjdgfnblkfpaaGreatDoorRSpec2
namespace Go.Proofs.YtcpjdgfnblkfpaaGreatDoor
open Go Go.RowKit Go.Proofs.YtcpjdgfnblkfpaaGreatDoor.M
set_option linter.unusedSimpArgs false
set_option linter.unusedVariables false

theorem patS_facts {ng : Bool} {r : Int} (h0 : 0 ≤ r) (h1 : r ≤ 9218868437227405312) (h : ng = true → 0 < r) : rng (patS ng r) ∧ rg (patS ng r) = r ∧ (patS ng r < 0 ↔ ng = true) := by
  unfold patS rg rng
  cases ng
  · simp only [Bool.false_eq_true, if_false]
    exact ⟨by omega, by rw [if_neg (by omega)], by omega, fun h => by cases h⟩
  · simp only [if_true]
    exact ⟨by have := h rfl; omega, by have := h rfl; rw [if_pos (by omega)]; omega, fun _ => trivial, fun _ => by omega⟩
theorem patS_pok {ng : Bool} {r : Int} (h0 : 0 ≤ r) (h1 : r ≤ 9218868437227405312) (h : ng = true → 0 < r) : pok (patS ng r) = decide (r < 9218868437227405312) := by
  obtain ⟨a, b, c⟩ := patS_facts h0 h1 h
  have hp := rg_parts a
  rw [b] at hp
  have hf : 0 ≤ frc (patS ng r) ∧ frc (patS ng r) < 4503599627370496 := by unfold frc; omega
  unfold pok
  by_cases hr : r < 9218868437227405312
  · rw [decide_eq_true hr]
    simp
    omega
  · rw [decide_eq_false hr]
    simp
    omega
theorem patV_patS {ng : Bool} {r : Nat} (h1 : (r : Int) < 9218868437227405312) (h : ng = true → 0 < r) : patV (patS ng r) = sg ng (vS r) := by
  have hh : ng = true → (0 : Int) < r := fun q => by have := h q; omega
  obtain ⟨a, b, c⟩ := patS_facts (ng := ng) (r := (r : Int)) (by omega) (by omega) hh
  have hp : pok (patS ng r) = true := by rw [patS_pok (by omega) (by omega) hh]; exact decide_eq_true h1
  have hV := V_rg a hp
  rw [b, Int.toNat_natCast] at hV
  obtain ⟨i0, i1, i2, i3⟩ := pmag_in hp
  have hn : pneg (patS ng r) = ng := by
    unfold pneg
    rw [hp, Bool.true_and]
    cases ng
    · exact decide_eq_false (fun q => by have := c.1 q; cases this)
    · exact decide_eq_true (c.2 rfl)
  unfold patV vS
  rw [hV, hn]
  have e : pw (pexp (patS ng r)) = 2 ^ (pexp (patS ng r) + 1074).toNat * pw (-1074) := by
    rw [pw_sub (e := pexp (patS ng r)) (low := -1074) (by decide) i2]
    congr 2
  have e2 : (((pmag (patS ng r)).toNat * 2 ^ (pexp (patS ng r) + 1074).toNat : Nat) : Int) * pw (-1074) = pmag (patS ng r) * pw (pexp (patS ng r)) := by
    push_cast
    rw [Int.toNat_of_nonneg i0, e, Int.mul_assoc]
  rw [e2]
  cases ng
  · rfl
  · show -pmag _ * _ = -(pmag _ * _)
    rw [Int.neg_mul]
end Go.Proofs.YtcpjdgfnblkfpaaGreatDoor
