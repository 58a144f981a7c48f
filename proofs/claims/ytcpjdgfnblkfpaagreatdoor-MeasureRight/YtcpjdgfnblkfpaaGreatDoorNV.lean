/-
  Plain mathematics of natural numbers as digits to the base 2^30: the value of the first n digits, one list a value. No Go text in sight.
-/
import Derived.Test.YtcpjdgfnblkfpaaGreatDoorMath
namespace Go.Proofs.YtcpjdgfnblkfpaaGreatDoor.M
open Go
set_option linter.unusedSimpArgs false
set_option linter.unusedVariables false

/-- The base's powers. -/
def P : Nat → Int | 0 => 1 | n + 1 => P n * 1073741824
/-- The value of the first n digits. -/
def val (d : Nat → Int) : Nat → Int | 0 => 0 | n + 1 => val d n + d n * P n
/-- Each of the first n is a digit. -/
def Dig (d : Nat → Int) (n : Nat) : Prop := ∀ i, i < n → 0 ≤ d i ∧ d i < 1073741824
/-- No zero on top. -/
def Top (d : Nat → Int) (n : Nat) : Prop := n = 0 ∨ d (n - 1) ≠ 0
/-- Without zeros on top, each a digit. -/
def Nrm (d : Nat → Int) (n : Nat) : Prop := Dig d n ∧ Top d n

theorem P_succ (n : Nat) : P (n + 1) = P n * 1073741824 := rfl
theorem P_pos (n : Nat) : 0 < P n := by
  induction n with
  | zero => decide
  | succ n ih => rw [P_succ]; omega
theorem P_add (n m : Nat) : P (n + m) = P n * P m := by
  induction m with
  | zero => show P n = P n * 1; omega
  | succ m ih => show P (n + m) * 1073741824 = P n * (P m * 1073741824); rw [ih, Int.mul_assoc]
theorem P_le {n m : Nat} (h : n ≤ m) : P n ≤ P m := by
  obtain ⟨k, rfl⟩ := Nat.exists_eq_add_of_le h
  rw [P_add]
  have := P_pos n
  have := P_pos k
  have : P n * 1 ≤ P n * P k := Int.mul_le_mul_of_nonneg_left (by omega) (by omega)
  omega
theorem val_succ (d : Nat → Int) (n : Nat) : val d (n + 1) = val d n + d n * P n := rfl
theorem val_congr {d e : Nat → Int} {n : Nat} (h : ∀ i, i < n → d i = e i) : val d n = val e n := by
  induction n with
  | zero => rfl
  | succ n ih => rw [val_succ, val_succ, ih (fun i hi => h i (by omega)), h n (by omega)]
theorem Dig.le {d : Nat → Int} {n m : Nat} (h : Dig d n) (hm : m ≤ n) : Dig d m := fun i hi => h i (by omega)
theorem Dig.congr {d e : Nat → Int} {n : Nat} (h : Dig d n) (he : ∀ i, i < n → d i = e i) : Dig e n := fun i hi => by rw [← he i hi]; exact h i hi
theorem val_nonneg {d : Nat → Int} {n : Nat} (h : Dig d n) : 0 ≤ val d n := by
  induction n with
  | zero => exact Int.le_refl _
  | succ n ih =>
    rw [val_succ]
    have := ih (h.le (by omega))
    have := Int.mul_nonneg (h n (by omega)).1 (Int.le_of_lt (P_pos n))
    omega
theorem val_lt {d : Nat → Int} {n : Nat} (h : Dig d n) : val d n < P n := by
  induction n with
  | zero => show (0 : Int) < 1; decide
  | succ n ih =>
    rw [val_succ, P_succ]
    have a := ih (h.le (by omega))
    have b : d n * P n ≤ 1073741823 * P n := Int.mul_le_mul_of_nonneg_right (by have := (h n (by omega)).2; omega) (Int.le_of_lt (P_pos n))
    omega
theorem val_top {d : Nat → Int} {n : Nat} (h : Dig d n) (hn : 0 < n) (ht : Top d n) : P (n - 1) ≤ val d n := by
  obtain ⟨m, rfl⟩ : ∃ m, n = m + 1 := ⟨n - 1, by omega⟩
  rw [val_succ, Nat.add_sub_cancel]
  have a := val_nonneg (h.le (Nat.le_succ m))
  have b : 1 ≤ d m := by
    rcases ht with h0 | h0
    · omega
    · rw [Nat.add_sub_cancel] at h0; have := (h m (by omega)).1; omega
  have c : 1 * P m ≤ d m * P m := Int.mul_le_mul_of_nonneg_right b (Int.le_of_lt (P_pos m))
  omega
theorem val_pos {d : Nat → Int} {n : Nat} (h : Nrm d n) (hn : 0 < n) : 0 < val d n := by
  have := val_top h.1 hn h.2
  have := P_pos (n - 1)
  omega
theorem val_zero {d : Nat → Int} {n : Nat} (h : Nrm d n) : val d n = 0 ↔ n = 0 := by
  constructor
  · intro h0
    by_cases hn : 0 < n
    · have := val_pos h hn; omega
    · omega
  · rintro rfl; rfl
/-- Digits of equal values are alike. -/
theorem val_inj {d e : Nat → Int} {n : Nat} (h : Dig d n) (k : Dig e n) (hv : val d n = val e n) : ∀ i, i < n → d i = e i := by
  induction n with
  | zero => intro i hi; omega
  | succ n ih =>
    rw [val_succ, val_succ] at hv
    have a := val_lt (h.le (Nat.le_succ n))
    have b := val_lt (k.le (Nat.le_succ n))
    have a0 := val_nonneg (h.le (Nat.le_succ n))
    have b0 := val_nonneg (k.le (Nat.le_succ n))
    have hp := P_pos n
    have e1 : d n = e n := by
      have x1 : (val d n + d n * P n) / P n = d n := by
        rw [Int.add_mul_ediv_right _ _ (by omega), Int.ediv_eq_zero_of_lt a0 a]; omega
      have x2 : (val e n + e n * P n) / P n = e n := by
        rw [Int.add_mul_ediv_right _ _ (by omega), Int.ediv_eq_zero_of_lt b0 b]; omega
      rw [← x1, ← x2, hv]
    rw [e1] at hv
    intro i hi
    by_cases hi' : i = n
    · rw [hi']; exact e1
    · exact ih (h.le (Nat.le_succ n)) (k.le (Nat.le_succ n)) (by omega) i (by omega)
theorem nrm_lt {d e : Nat → Int} {n m : Nat} (h : Dig d n) (k : Nrm e m) (hnm : n < m) : val d n < val e m := by
  have a := val_lt h
  have b := val_top k.1 (by omega) k.2
  have c := P_le (show n ≤ m - 1 by omega)
  omega
/-- Each number has one list. -/
theorem nrm_len {d e : Nat → Int} {n m : Nat} (h : Nrm d n) (k : Nrm e m) (hv : val d n = val e m) : n = m := by
  by_cases h1 : n < m
  · have := nrm_lt h.1 k h1; omega
  by_cases h2 : m < n
  · have := nrm_lt k.1 h h2; omega
  omega
theorem nrm_inj {d e : Nat → Int} {n m : Nat} (h : Nrm d n) (k : Nrm e m) (hv : val d n = val e m) : n = m ∧ ∀ i, i < n → d i = e i := by
  have hl := nrm_len h k hv
  subst hl
  exact ⟨rfl, val_inj h.1 k.1 hv⟩
theorem nrm_le_len {d e : Nat → Int} {n m : Nat} (h : Nrm d n) (k : Dig e m) (hv : val d n ≤ val e m) : n ≤ m := by
  by_cases h1 : n ≤ m
  · exact h1
  · have := nrm_lt k h (by omega); omega
theorem val_split (d : Nat → Int) (n m : Nat) : val d (n + m) = val d n + P n * val (fun i => d (n + i)) m := by
  induction m with
  | zero => show val d n = val d n + P n * 0; omega
  | succ m ih =>
    show val d (n + m) + d (n + m) * P (n + m) = val d n + P n * (val (fun i => d (n + i)) m + d (n + m) * P m)
    rw [ih, P_add, Int.mul_add, Int.add_assoc]
    congr 2
    rw [← Int.mul_assoc, Int.mul_comm (d (n + m)) (P n), Int.mul_assoc]
theorem val_zeros {d : Nat → Int} {n m : Nat} (hm : m ≤ n) (h : ∀ i, m ≤ i → i < n → d i = 0) : val d n = val d m := by
  induction n with
  | zero => rw [show m = 0 by omega]
  | succ n ih =>
    by_cases he : m = n + 1
    · rw [he]
    · rw [val_succ, h n (by omega) (by omega), ih (by omega) (fun i a b => h i a (by omega))]; omega
/-- One digit put in another's place. -/
def upd (d : Nat → Int) (i : Nat) (x : Int) : Nat → Int := fun j => if j = i then x else d j
theorem upd_same (d : Nat → Int) (i : Nat) (x : Int) : upd d i x i = x := by simp [upd]
theorem upd_other (d : Nat → Int) {i j : Nat} (x : Int) (h : j ≠ i) : upd d i x j = d j := by simp [upd, h]
theorem val_upd_ge (d : Nat → Int) {i n : Nat} (x : Int) (h : n ≤ i) : val (upd d i x) n = val d n := val_congr fun j hj => upd_other d x (by omega)
theorem val_upd (d : Nat → Int) {i n : Nat} (x : Int) (h : i < n) : val (upd d i x) n = val d n + (x - d i) * P i := by
  induction n with
  | zero => omega
  | succ n ih =>
    rw [val_succ, val_succ]
    by_cases hi : i = n
    · subst hi; rw [upd_same, val_upd_ge d x (Nat.le_refl _), Int.sub_mul]; omega
    · rw [upd_other d x (by omega), ih (by omega)]; omega
theorem Dig.upd {d : Nat → Int} {n : Nat} (h : Dig d n) (i : Nat) {x : Int} (hx : 0 ≤ x ∧ x < 1073741824) : Dig (upd d i x) n := fun j hj => by
  by_cases hj' : j = i
  · rw [hj', upd_same]; exact hx
  · rw [upd_other d x hj']; exact h j hj
/-- The digits of a list, nought behind its end. -/
def ext (d : Nat → Int) (n : Nat) : Nat → Int := fun i => if i < n then d i else 0
theorem ext_lt (d : Nat → Int) {n i : Nat} (h : i < n) : ext d n i = d i := by simp [ext, h]
theorem ext_ge (d : Nat → Int) {n i : Nat} (h : n ≤ i) : ext d n i = 0 := by simp [ext]; omega
theorem ext_dig {d : Nat → Int} {n : Nat} (h : Dig d n) (m : Nat) : Dig (ext d n) m := fun i hi => by
  by_cases hi' : i < n
  · rw [ext_lt d hi']; exact h i hi'
  · rw [ext_ge d (by omega)]; omega
theorem val_ext (d : Nat → Int) {n m : Nat} (h : n ≤ m) : val (ext d n) m = val d n := by
  rw [val_zeros h (fun i a _ => ext_ge d a)]
  exact val_congr fun i hi => ext_lt d hi
/-- A step of a sum with a carry: what is written and what is carried on. -/
theorem carry_step (V c x p : Int) : V + (c + x) % 1073741824 * p + (c + x) / 1073741824 * (p * 1073741824) = V + c * p + x * p := by
  have h := Int.emod_add_mul_ediv (c + x) 1073741824
  have : (c + x) * p = ((c + x) % 1073741824 + 1073741824 * ((c + x) / 1073741824)) * p := by rw [h]
  rw [Int.add_mul, Int.add_mul] at this
  have e : 1073741824 * ((c + x) / 1073741824) * p = (c + x) / 1073741824 * (p * 1073741824) := by
    rw [Int.mul_comm 1073741824, Int.mul_assoc, Int.mul_comm 1073741824 p]
  omega
theorem and_30 (x : Int) : bits .and .i64 x 1073741823 = x % 1073741824 := and_i64_mask x 30 (by decide)
end Go.Proofs.YtcpjdgfnblkfpaaGreatDoor.M
