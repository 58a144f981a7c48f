/-
  Sums of floats on patterns: a relation between patterns and the model's words that each sum keeps.
-/
import Derived.Test.YtcpjdgfnblkfpaaGreatDoorRFrun
namespace Go.Proofs.YtcpjdgfnblkfpaaGreatDoor
open Go Go.RowKit Go.Proofs.YtcpjdgfnblkfpaaGreatDoor.M Ieee
set_option linter.unusedSimpArgs false
set_option linter.unusedVariables false

/-- A word that stands for a pattern: of no number any of its words. -/
def FW (p : Int) (x : Nat) : Prop := (cls p ≠ 4 ∧ rng p ∧ x = wd p) ∨ (p = 9221120237041090561 ∧ NanW x)
/-- The pattern of a word. -/
def patW (x : Nat) : Int := if x < 9223372036854775808 then (x : Int) else (x : Int) - 18446744073709551616
theorem patW_wd {p : Int} (h : rng p) : patW (wd p) = p := by
  unfold rng at h
  unfold patW wd
  split <;> omega
/-- The pattern nearest to a number that is not 0. -/
def nearP (S : Int) : Int := patW (Ieee.double.nearest (decide (S < 0)) S.natAbs (-4194304))
theorem pw_least : pw (-4194304) = 1 := by unfold pw; rfl
theorem patS_rng {ng : Bool} {r : Int} (h0 : 0 ≤ r) (h1 : r ≤ 9218868437227405312) : rng (patS ng r) ∧ cls (patS ng r) ≠ 4 := by
  have hr : rng (patS ng r) := by unfold rng patS; cases ng <;> simp <;> omega
  refine ⟨hr, fun q => ?_⟩
  have := (cls_rg hr).1.1 q
  unfold rg patS at this
  cases ng
  · simp only [Bool.false_eq_true, if_false] at this; split at this <;> omega
  · simp only [if_true] at this; split at this <;> omega
theorem nearP_rung {S : Int} (h : S ≠ 0) : ∃ (A : Int) (r0 : Nat) (left : Int), S = sg (decide (S < 0)) A ∧ Rung A r0 left ∧ nearP S = patS (decide (S < 0)) (rTo 0 (decide (S < 0)) r0 left) := by
  obtain ⟨A, r0, left, h1, h2, h3⟩ := write_near (S := S) (t := S) (base := -4194304) (by decide) (by rw [pw_least, Int.mul_one]) h
  refine ⟨A, r0, left, h1, h2, ?_⟩
  unfold nearP
  rw [h3]
  obtain ⟨g1, g2⟩ := rTo_range 0 (decide (S < 0)) r0 left
  exact patW_wd (patS_rng g1 g2).1
theorem sg_inj {g : Bool} {A B : Int} (h : sg g A = sg g B) : A = B := by
  cases g
  · exact h
  · exact Int.neg_inj.1 h
/-- A sum, on patterns: to the nearest. -/
def fsum (p q : Int) : Int :=
  if cls p = 4 ∨ cls q = 4 then 9221120237041090561
  else if rg p = 9218868437227405312 then (if rg q = 9218868437227405312 ∧ decide (p < 0) ≠ decide (q < 0) then 9221120237041090561 else p)
  else if rg q = 9218868437227405312 then q
  else if patV p + patV q = 0 then patS (decide (p < 0) && decide (q < 0)) 0 else nearP (patV p + patV q)
theorem pok_rg {p : Int} (hp : rng p) : pok p = true ↔ rg p < 9218868437227405312 := by
  obtain ⟨r0, r1⟩ := rg_parts hp
  have hf : 0 ≤ frc p ∧ frc p < 4503599627370496 := by unfold frc; omega
  have hg : 0 ≤ fld p ∧ fld p < 2048 := by unfold fld; omega
  unfold pok
  simp
  omega
theorem fadd_fin {p q : Int} (hp : rng p) (hq : rng q) (pp : pok p = true) (pq : pok q = true) : Ieee.double.add (wd p) (wd q) = some (wd (if patV p + patV q = 0 then patS (decide (p < 0) && decide (q < 0)) 0 else nearP (patV p + patV q))) := by
  obtain ⟨h0, h1⟩ := fadd hp hq pp pq
  by_cases hS : patV p + patV q = 0
  · rw [if_pos hS]; exact h0 hS
  · rw [if_neg hS]
    obtain ⟨A, r0, left, a1, a2, a3⟩ := h1 hS
    obtain ⟨B, s0, k, b1, b2, b3⟩ := nearP_rung hS
    have hAB := sg_inj (a1.symm.trans b1)
    subst hAB
    obtain ⟨h2, h3⟩ := a2.unique b2
    subst h2 h3
    rw [a3, b3]
theorem read_inf64 {p : Int} (hp : rng p) (h : rg p = 9218868437227405312) : Ieee.double.read (wd p) = .infinity (decide (p < 0)) := by
  have hw : ((wd p % 9223372036854775808 : Nat) : Int) = rg p := wd_rung hp
  have := read_inf Ieee.double dOk (wd p) (by rw [dSign, dInf]; omega)
  rwa [dSign, wd_neg hp] at this
theorem write_inf64 {p : Int} (hp : rng p) (h : rg p = 9218868437227405312) : Ieee.double.write (.infinity (decide (p < 0))) = wd p := by
  unfold Format.write
  dsimp only
  rw [dInf]
  have := wd_word (ng := decide (p < 0)) (r := 9218868437227405312) (by decide) (by decide)
  have e : patS (decide (p < 0)) 9218868437227405312 = p := by
    unfold rg at h
    unfold patS
    by_cases h0 : p < 0
    · rw [if_pos h0] at h; rw [decide_eq_true h0, if_pos rfl]; omega
    · rw [if_neg h0] at h; rw [decide_eq_false h0, if_neg (by decide)]; omega
  rw [e] at this
  exact this
end Go.Proofs.YtcpjdgfnblkfpaaGreatDoor
