/-
  Plain mathematics of natural numbers as digits to the base 2^30: the value of the first n digits, one list a value. No Go text in sight.
-/
import Derived.Test.YtbljcodhcodmkaaDoorMath
namespace Go.Proofs.YtbljcodhcodmkaaDoor.M
open Go
set_option linter.unusedSimpArgs false
set_option linter.unusedVariables false

/-- The base's powers. -/
def P : Nat → Int | 0 => 1 | n + 1 => P n * 1073741824
/-- The value of the first n digits. -/
def val (d : Nat → Int) : Nat → Int | 0 => 0 | n + 1 => val d n + d n * P n
/-- Each of the first n is a digit. -/
def Dig (d : Nat → Int) (n : Nat) : Prop := ∀ i, i < n → 0 ≤ d i ∧ d i < 1073741824
/-- No zero on top. -/
def Top (d : Nat → Int) (n : Nat) : Prop := n = 0 ∨ d (n - 1) ≠ 0
/-- Without zeros on top, each a digit. -/
def Nrm (d : Nat → Int) (n : Nat) : Prop := Dig d n ∧ Top d n

theorem P_succ (n : Nat) : P (n + 1) = P n * 1073741824 := rfl
theorem P_pos (n : Nat) : 0 < P n := by
  induction n with
  | zero => decide
  | succ n ih => rw [P_succ]; omega
theorem P_add (n m : Nat) : P (n + m) = P n * P m := by
  induction m with
  | zero => show P n = P n * 1; omega
  | succ m ih => show P (n + m) * 1073741824 = P n * (P m * 1073741824); rw [ih, Int.mul_assoc]
theorem P_le {n m : Nat} (h : n ≤ m) : P n ≤ P m := by
  obtain ⟨k, rfl⟩ := Nat.exists_eq_add_of_le h
  rw [P_add]
  have := P_pos n
  have := P_pos k
  have : P n * 1 ≤ P n * P k := Int.mul_le_mul_of_nonneg_left (by omega) (by omega)
  omega
theorem val_succ (d : Nat → Int) (n : Nat) : val d (n + 1) = val d n + d n * P n := rfl
theorem Dig.le {d : Nat → Int} {n m : Nat} (h : Dig d n) (hm : m ≤ n) : Dig d m := fun i hi => h i (by omega)
theorem Dig.congr {d e : Nat → Int} {n : Nat} (h : Dig d n) (he : ∀ i, i < n → d i = e i) : Dig e n := fun i hi => by rw [← he i hi]; exact h i hi
theorem val_nonneg {d : Nat → Int} {n : Nat} (h : Dig d n) : 0 ≤ val d n := by
  induction n with
  | zero => exact Int.le_refl _
  | succ n ih =>
    rw [val_succ]
    have := ih (h.le (by omega))
    have := Int.mul_nonneg (h n (by omega)).1 (Int.le_of_lt (P_pos n))
    omega
theorem val_top {d : Nat → Int} {n : Nat} (h : Dig d n) (hn : 0 < n) (ht : Top d n) : P (n - 1) ≤ val d n := by
  obtain ⟨m, rfl⟩ : ∃ m, n = m + 1 := ⟨n - 1, by omega⟩
  rw [val_succ, Nat.add_sub_cancel]
  have a := val_nonneg (h.le (Nat.le_succ m))
  have b : 1 ≤ d m := by
    rcases ht with h0 | h0
    · omega
    · rw [Nat.add_sub_cancel] at h0; have := (h m (by omega)).1; omega
  have c : 1 * P m ≤ d m * P m := Int.mul_le_mul_of_nonneg_right b (Int.le_of_lt (P_pos m))
  omega
theorem val_pos {d : Nat → Int} {n : Nat} (h : Nrm d n) (hn : 0 < n) : 0 < val d n := by
  have := val_top h.1 hn h.2
  have := P_pos (n - 1)
  omega
theorem val_zero {d : Nat → Int} {n : Nat} (h : Nrm d n) : val d n = 0 ↔ n = 0 := by
  constructor
  · intro h0
    by_cases hn : 0 < n
    · have := val_pos h hn; omega
    · omega
  · rintro rfl; rfl
/-- One digit put in another's place. -/
def upd (d : Nat → Int) (i : Nat) (x : Int) : Nat → Int := fun j => if j = i then x else d j
theorem upd_same (d : Nat → Int) (i : Nat) (x : Int) : upd d i x i = x := by simp [upd]
theorem upd_other (d : Nat → Int) {i j : Nat} (x : Int) (h : j ≠ i) : upd d i x j = d j := by simp [upd, h]
theorem Dig.upd {d : Nat → Int} {n : Nat} (h : Dig d n) (i : Nat) {x : Int} (hx : 0 ≤ x ∧ x < 1073741824) : Dig (upd d i x) n := fun j hj => by
  by_cases hj' : j = i
  · rw [hj', upd_same]; exact hx
  · rw [upd_other d x hj']; exact h j hj
end Go.Proofs.YtbljcodhcodmkaaDoor.M
