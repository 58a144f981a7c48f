/-
  Plain mathematics: how a number stands to what it is rounded to.
-/
import Derived.Test.YtcpjdgfnblkfpaaGreatDoorRBet
namespace Go.Proofs.YtcpjdgfnblkfpaaGreatDoor
open Go Go.RowKit Go.Proofs.YtcpjdgfnblkfpaaGreatDoor.M
set_option linter.unusedSimpArgs false
set_option linter.unusedVariables false

theorem vS_zero : vS 0 = 0 := by unfold vS; rw [V_zero]; simp
theorem ordP_pat {A : Int} {ng : Bool} {r : Nat} (h : (r : Int) < 9218868437227405312) : ordP A (patS (ng && decide ((0 : Int) < r)) r) = ord A (sg ng (vS r)) := by
  by_cases h0 : r = 0
  · subst h0
    have e : (ng && decide ((0 : Int) < ((0 : Nat) : Int))) = false := by simp
    rw [e, vS_zero]
    have hp : pok (patS false ((0 : Nat) : Int)) = true := by decide
    have hv : patV (patS false ((0 : Nat) : Int)) = 0 := by rw [patV_patS (by decide) (fun q => by cases q), vS_zero]; rfl
    unfold ordP
    rw [if_pos hp, hv]
    cases ng <;> rfl
  · have e : (ng && decide ((0 : Int) < (r : Int))) = ng := by rw [decide_eq_true (by omega), Bool.and_true]
    rw [e]
    have hp : pok (patS ng r) = true := by rw [patS_pok (by omega) (by omega) (fun _ => by omega)]; exact decide_eq_true h
    unfold ordP
    rw [if_pos hp, patV_patS h (fun _ => by omega)]
theorem ordP_inf {A : Int} {ng : Bool} : ordP A (patS (ng && decide ((0 : Int) < 9218868437227405312)) 9218868437227405312) = if ng then 1 else -1 := by
  cases ng <;> rfl
theorem rUp_down (ng odd : Bool) (left : Int) : rUp 1 ng odd left = (decide (left ≠ 0) && ng) := rfl
theorem rUp_up (ng odd : Bool) (left : Int) : rUp 2 ng odd left = (decide (left ≠ 0) && !ng) := rfl
theorem rUp_zero (ng odd : Bool) (left : Int) : rUp 3 ng odd left = false := rfl
/-- The rungs of the four ways, below the infinite one. -/
theorem rTo_fin {ng : Bool} {r0 : Nat} {left : Int} (h : (r0 : Int) < 9218868437227405312) :
    rTo 1 ng r0 left = (if left ≠ 0 ∧ ng = true then ((r0 + 1 : Nat) : Int) else (r0 : Int)) ∧ rTo 2 ng r0 left = (if left ≠ 0 ∧ ng = false then ((r0 + 1 : Nat) : Int) else (r0 : Int)) ∧ rTo 3 ng r0 left = (r0 : Int) ∧ (rTo 0 ng r0 left = (r0 : Int) ∨ (left ≠ 0 ∧ rTo 0 ng r0 left = ((r0 + 1 : Nat) : Int))) := by
  unfold rTo
  simp only [if_pos h]
  refine ⟨?_, ?_, ?_, ?_⟩
  · rw [rUp_down]
    by_cases h0 : left = 0
    · subst h0; simp
    · cases ng <;> simp [h0]
  · rw [rUp_up]
    by_cases h0 : left = 0
    · subst h0; simp
    · cases ng <;> simp [h0]
  · rw [rUp_zero]
    simp
  · cases hu : rUp 0 ng (decide (r0 % 2 = 1)) left
    · left; simp
    · right
      refine ⟨fun hz => ?_, by simp⟩
      rw [hz] at hu
      exact rUp_left hu
theorem rTo_inf {ng : Bool} {r0 : Nat} {left : Int} (h : ¬ (r0 : Int) < 9218868437227405312) :
    rTo 1 ng r0 left = (if ng = true then 9218868437227405312 else 9218868437227405311) ∧ rTo 2 ng r0 left = (if ng = true then 9218868437227405311 else 9218868437227405312) ∧ rTo 3 ng r0 left = 9218868437227405311 ∧ rTo 0 ng r0 left = 9218868437227405312 := by
  unfold rTo
  simp only [if_neg h]
  cases ng <;> decide
end Go.Proofs.YtcpjdgfnblkfpaaGreatDoor
