/-
  Plain mathematics of neighbours and of the order of all patterns. No Go text in sight.
-/
import Derived.Test.YtcpjdgfnblkfpaaGreatDoorMathF
namespace Go.Proofs.YtcpjdgfnblkfpaaGreatDoor.M
open Go
set_option linter.unusedSimpArgs false
set_option linter.unusedVariables false

/-- a number that is not the greatest: its next one is one key on -/
theorem key_next {b : Int} (hb : rng b) (h4 : ¬ cls b = 4) (hi : ¬ b = 9218868437227405312) : key (next b) = key b + 1 ∧ ¬ cls (next b) = 4 ∧ place b < place (next b) ∧ ¬ next b = -4503599627370496 := by
  have n := cls4_not h4
  unfold rng at hb
  unfold next
  rw [if_neg h4, if_neg hi]
  by_cases h1 : b = -9223372036854775808
  · subst h1; rw [if_pos rfl]; refine ⟨by decide, by decide, by decide, by decide⟩
  · rw [if_neg h1]
    by_cases h2 : b < 0
    · rw [if_pos h2]
      refine ⟨?_, ?_, ?_, ?_⟩
      · unfold key; split <;> omega
      · rw [cls4]; unfold fld frc at *; omega
      · unfold place; split <;> omega
      · unfold fld frc at n; omega
    · rw [if_neg h2]
      refine ⟨?_, ?_, ?_, ?_⟩
      · unfold key; split <;> omega
      · rw [cls4]; unfold fld frc at *; omega
      · unfold place; split <;> omega
      · unfold fld frc at n; omega
theorem key_neg {b : Int} (hb : rng b) (h4 : ¬ cls b = 4) : key (neg b) = - key b ∧ ¬ cls (neg b) = 4 := by
  have n := cls4_not h4
  unfold rng at hb
  unfold neg
  rw [if_neg h4]
  by_cases h2 : b < 0
  · rw [if_pos h2]
    refine ⟨?_, ?_⟩
    · unfold key; split <;> omega
    · rw [cls4]; unfold fld frc at *; omega
  · rw [if_neg h2]
    refine ⟨?_, ?_⟩
    · unfold key; split <;> omega
    · rw [cls4]; unfold fld frc at *; omega
theorem key_prev {b : Int} (hb : rng b) (h4 : ¬ cls b = 4) (hi : ¬ b = -4503599627370496) : key (prev b) = key b - 1 ∧ ¬ cls (prev b) = 4 := by
  obtain ⟨a1, a2⟩ := key_neg hb h4
  have r1 := rng_neg hb
  have hi' : ¬ neg b = 9218868437227405312 := by
    unfold neg; rw [if_neg h4]; unfold rng at hb; split <;> omega
  obtain ⟨c1, c2, _, _⟩ := key_next r1 a2 hi'
  obtain ⟨d1, d2⟩ := key_neg (rng_next r1) c2
  unfold prev
  refine ⟨by omega, d2⟩
/-- what lies between neighbours -/
theorem next_facts {b c : Int} (hb : rng b) (h4 : ¬ cls b = 4) (hi : ¬ b = 9218868437227405312) :
    less b (next b) = true ∧ same (prev (next b)) b = true ∧ (less b c && less c (next b)) = false ∧ b_ord b (next b) = -1 := by
  obtain ⟨a1, a2, a3, a4⟩ := key_next hb h4 hi
  obtain ⟨p1, p2⟩ := key_prev (rng_next hb) a2 a4
  refine ⟨?_, ?_, ?_, ?_⟩
  · unfold less; simp [h4, a2, a1]; omega
  · unfold same; simp [h4, p2, p1, a1]
  · unfold less
    by_cases hc : cls c = 4
    · simp [hc]
    · simp [h4, a2, hc, a1]; omega
  · unfold b_ord; rw [if_neg h4, if_neg a2, if_pos a3]
theorem cls_inf : cls 9218868437227405312 = 3 := by decide
theorem next_inf : next 9218868437227405312 = 9218868437227405312 := by decide
/-! the order of all -/
theorem ord_cases (a b : Int) : b_ord a b = -1 ∨ b_ord a b = 0 ∨ b_ord a b = 1 := by
  unfold b_ord; repeat' split
  all_goals simp
theorem ord_neg (a b : Int) : b_ord a b = - b_ord b a := by
  unfold b_ord; repeat' split
  all_goals omega
theorem place_key {a b : Int} (ha : rng a) (hb : rng b) (h : key a < key b) : place a < place b := by
  unfold rng at ha hb
  unfold key at h
  unfold place
  by_cases x : a < 0 <;> by_cases y : b < 0 <;> simp only [x, y, if_true, if_false] at h ⊢ <;> omega
theorem ord_less {a b : Int} (ha : rng a) (hb : rng b) (h : less a b = true) : b_ord a b = -1 := by
  unfold less at h
  simp only [Bool.and_eq_true, Bool.not_eq_true', decide_eq_false_iff_not, decide_eq_true_eq] at h
  unfold b_ord; rw [if_neg h.1, if_neg h.2.1, if_pos (place_key ha hb h.2.2)]
theorem ord_trans {a b c : Int} (h1 : b_ord a b ≤ 0) (h2 : b_ord b c ≤ 0) : b_ord a c ≤ 0 := by
  unfold b_ord at *
  by_cases x : cls a = 4 <;> by_cases y : cls b = 4 <;> by_cases z : cls c = 4 <;> simp only [x, y, z, if_true, if_false] at *
  all_goals first
    | omega
    | (repeat' split at h1) <;> (repeat' split at h2) <;> (repeat' split) <;> omega
theorem b_same_self (a : Int) : same a a = !decide (cls a = 4) := by
  unfold same; by_cases h : cls a = 4 <;> simp [h]
theorem same_iff (a b : Int) : same a b = (!decide (cls a = 4) && (!decide (cls b = 4) && (!less a b && !less b a))) := by
  unfold same less
  by_cases h : cls a = 4 <;> by_cases k : cls b = 4 <;> simp [h, k]
  rw [Bool.eq_iff_iff]; simp; omega
end Go.Proofs.YtcpjdgfnblkfpaaGreatDoor.M
