/-
  Package span: sum at infinite ends, and beyond the range. Plain mathematics.
-/
import Derived.Test.YtcpjdgfnblkfpaaGreatDoorSSum3
namespace Go.Proofs.YtcpjdgfnblkfpaaGreatDoor
open Go Go.RowKit Go.Proofs.YtcpjdgfnblkfpaaGreatDoor.M
set_option linter.unusedSimpArgs false
set_option linter.unusedVariables false

theorem su_neg {p : Int} (h : nn p) : rg (neg p) = rg p ∧ (decide (neg p < 0) ≠ decide (p < 0)) := by
  have hr := h.1
  unfold rng at hr
  unfold neg
  rw [if_neg h.2]
  unfold rg
  by_cases g : p < 0
  · rw [if_pos g, if_neg (by omega)]
    refine ⟨by rw [if_pos g], ?_⟩
    rw [decide_eq_false (by omega), decide_eq_true g]
    decide
  · rw [if_neg g, if_pos (by omega)]
    refine ⟨by rw [if_neg g]; omega, ?_⟩
    rw [decide_eq_true (by omega), decide_eq_false g]
    decide
theorem fsum_nan (p : Int) : fsum p 9221120237041090561 = 9221120237041090561 := by
  unfold fsum
  rw [if_pos (.inr nan_canon)]
theorem hl_nn {p q : Int} (hp : nn p) (hq : nn q) : nn (hiM p q) ∧ nn (loM p q) ∧ (hiM p q = p ∧ loM p q = q ∨ hiM p q = q ∧ loM p q = p) ∧ rg (loM p q) ≤ rg (hiM p q) := by
  unfold hiM loM
  by_cases h : rg p < rg q
  · rw [if_pos h, if_pos h]; exact ⟨hq, hp, .inr ⟨rfl, rfl⟩, by omega⟩
  · rw [if_neg h, if_neg h]; exact ⟨hp, hq, .inl ⟨rfl, rfl⟩, by omega⟩
/-- An infinite end: that one alone. -/
theorem su_infEnd {p q : Int} (hp : nn p) (hq : nn q) (h : rg (hiM p q) = 9218868437227405312) (hno : ¬ (rg p = 9218868437227405312 ∧ rg q = 9218868437227405312 ∧ decide (p < 0) ≠ decide (q < 0))) :
    suN p q = hiM p q ∧ beLo (suN p q) (suL p q) = hiM p q ∧ beHi (suN p q) (suL p q) = hiM p q := by
  obtain ⟨nx, ny, hxy, _⟩ := hl_nn hp hq
  have hno' : ¬ (rg (loM p q) = 9218868437227405312 ∧ decide (hiM p q < 0) ≠ decide (loM p q < 0)) := by
    rintro ⟨a, b⟩
    rcases hxy with ⟨e1, e2⟩ | ⟨e1, e2⟩
    · rw [e1] at h b; rw [e2] at a b; exact hno ⟨h, a, b⟩
    · rw [e1] at h b; rw [e2] at a b; exact hno ⟨a, h, fun c => b c.symm⟩
  have e1 : suN p q = hiM p q := by
    unfold suN fsum
    rw [if_neg (by rintro (c | c); exact nx.2 c; exact ny.2 c), if_pos h, if_neg hno']
  have e2 : suL p q = 9221120237041090561 := by
    unfold suL
    rw [e1]
    obtain ⟨g1, g2⟩ := su_neg nx
    obtain ⟨n1, _⟩ := nn_neg nx
    have : fsum (hiM p q) (neg (hiM p q)) = 9221120237041090561 := by
      unfold fsum
      rw [if_neg (by rintro (c | c); exact nx.2 c; exact n1.2 c), if_pos h, if_pos ⟨by rw [g1]; exact h, fun c => g2 c.symm⟩]
    rw [this, neg_nan nan_canon]
    exact fsum_nan _
  have l1 : less 9221120237041090561 0 = false := by decide
  have l2 : less 0 9221120237041090561 = false := by decide
  rw [e1, e2]
  unfold beLo beHi
  rw [l1, l2]
  exact ⟨rfl, rfl, rfl⟩
/-- Finite ends, beyond the range: the infinite one and the greatest float. -/
theorem su_over {p q : Int} (hp : nn p) (hq : nn q) (pp : ¬ rg p = 9218868437227405312) (pq : ¬ rg q = 9218868437227405312) (hn : nn (suN p q)) (h : rg (suN p q) = 9218868437227405312) :
    (0 < key (suN p q) → beLo (suN p q) (suL p q) = prev (suN p q) ∧ beHi (suN p q) (suL p q) = suN p q) ∧ (key (suN p q) < 0 → beLo (suN p q) (suL p q) = suN p q ∧ beHi (suN p q) (suL p q) = next (suN p q)) := by
  obtain ⟨nx, ny, hxy, _⟩ := hl_nn hp hq
  have fx : ¬ rg (hiM p q) = 9218868437227405312 := by rcases hxy with ⟨e1, _⟩ | ⟨e1, _⟩ <;> rw [e1] <;> assumption
  have fy : ¬ rg (loM p q) = 9218868437227405312 := by rcases hxy with ⟨_, e1⟩ | ⟨_, e1⟩ <;> rw [e1] <;> assumption
  obtain ⟨n1, _⟩ := nn_neg nx
  obtain ⟨m1, k1⟩ := nn_neg hn
  have e1 : fsum (suN p q) (neg (hiM p q)) = suN p q := by
    unfold fsum
    rw [if_neg (by rintro (c | c); exact hn.2 c; exact n1.2 c), if_pos h, if_neg (by rintro ⟨c, _⟩; rw [(su_neg nx).1] at c; exact fx c)]
  have e2 : suL p q = neg (suN p q) := by
    unfold suL
    rw [e1]
    unfold fsum
    rw [if_neg (by rintro (c | c); exact ny.2 c; exact m1.2 c), if_neg fy, if_pos (by rw [(su_neg hn).1]; exact h)]
  have c0 : ¬ cls 0 = 4 := by decide
  have k0 : key 0 = 0 := by decide
  have l1 : less (suL p q) 0 = decide (0 < key (suN p q)) := by
    rw [e2]; unfold less
    simp only [m1.2, c0, k0, k1, decide_false, Bool.not_false, Bool.true_and]
    exact decide_eq_decide.2 (by omega)
  have l2 : less 0 (suL p q) = decide (key (suN p q) < 0) := by
    rw [e2]; unfold less
    simp only [m1.2, c0, k0, k1, decide_false, Bool.not_false, Bool.true_and]
    exact decide_eq_decide.2 (by omega)
  unfold beLo beHi
  rw [l1, l2]
  refine ⟨fun g => ?_, fun g => ?_⟩
  · rw [decide_eq_true g]; exact ⟨rfl, rfl⟩
  · rw [decide_eq_false (by omega), decide_eq_true g]; exact ⟨rfl, rfl⟩
end Go.Proofs.YtcpjdgfnblkfpaaGreatDoor
