/-
  Package nat: Shl, Pow, by contracts: for every number, every exponent.
-/
import Derived.Test.YtcpjdgfnblkfpaaGreatDoorNPow
namespace Go.Proofs.YtcpjdgfnblkfpaaGreatDoor
open Go Go.RowKit Go.Proofs.YtcpjdgfnblkfpaaGreatDoor.M
set_option linter.unusedSimpArgs false
set_option linter.unusedVariables false

theorem P2000_two : P 2000 = 2 ^ 60000 := P_two 2000
theorem shl_long {A : Int} {k : Nat} (hA : 0 < A) (h : 60000 < k + blen A) : P 2000 ≤ A * 2 ^ k := by
  obtain ⟨c1, c2⟩ := blen_pos hA
  rw [P2000_two]
  have h1 : (2 : Int) ^ 60000 ≤ 2 ^ (blen A - 1 + k) := two_le (by omega)
  rw [Int.pow_add] at h1
  exact Int.le_trans h1 (Int.mul_le_mul_of_nonneg_right c2 (Int.le_of_lt (two_pos k)))
theorem shl_short {A : Int} {k : Nat} (h : k + blen A ≤ 60000) : A * 2 ^ k < P 2000 := by
  rw [P2000_two]
  have h1 : (2 : Int) ^ (blen A + k) ≤ 2 ^ 60000 := two_le (by omega)
  rw [Int.pow_add] at h1
  have h2 : A * 2 ^ k < 2 ^ blen A * 2 ^ k := Int.mul_lt_mul_of_pos_right (blen_lt A) (two_pos k)
  exact Int.lt_of_lt_of_le h2 h1
theorem row_drewN {w : World} {ao : Option Addr} {n cap : Nat} {d : Nat → Int} (h : Row w ao n cap d) {q : Nat} : Row (w.drewN q) ao n cap d := h.keeps (bDrewN (bel_refl _) _)
theorem pow_small {A : Int} {k : Nat} (h0 : 0 ≤ A) (h1 : A < 2) (hk : 0 < k) : A ^ k = A := by
  rcases (show A = 0 ∨ A = 1 by omega) with rfl | rfl
  · exact Int.zero_pow (by omega)
  · exact Int.one_pow
theorem two_pow_pow (a b : Nat) : ((2 : Int) ^ a) ^ b = 2 ^ (a * b) := Int.pow_mul.symm
theorem pow_le_base {A B : Int} (h0 : 0 ≤ A) (h : A ≤ B) (k : Nat) : A ^ k ≤ B ^ k := by
  induction k with
  | zero => rw [Int.pow_zero, Int.pow_zero]; omega
  | succ k ih =>
    rw [Int.pow_succ, Int.pow_succ]
    exact Int.mul_le_mul ih h h0 (Int.pow_nonneg (by omega))
theorem pow_long {A : Int} {k L : Nat} (hL : 2 ^ (L - 1) ≤ A) (h : 59999 < (L - 1) * k) : P 2000 ≤ A ^ k := by
  rw [P2000_two]
  have h1 : (2 : Int) ^ 60000 ≤ 2 ^ ((L - 1) * k) := two_le (by omega)
  rw [← two_pow_pow] at h1
  exact Int.le_trans h1 (pow_le_base (Int.le_of_lt (two_pos _)) hL k)
theorem pow_fits {A : Int} {k L : Nat} (h0 : 0 ≤ A) (hL : A < 2 ^ L) (h1 : 2 ≤ L) (h : (L - 1) * k ≤ 59999) : A ^ k < P 5000 := by
  have hk : k ≤ 59999 := by
    have : 1 * k ≤ (L - 1) * k := Nat.mul_le_mul_right k (by omega)
    omega
  have h2 : L * k ≤ 119998 := by
    have : L * k = (L - 1) * k + k := by rw [← Nat.succ_mul]; congr 1; omega
    omega
  have h3 := pow_le_base h0 (Int.le_of_lt hL) k
  rw [two_pow_pow] at h3
  have h4 : (2 : Int) ^ (L * k) < 2 ^ 150000 := two_lt (by omega)
  rw [P_two]
  exact Int.lt_of_le_of_lt h3 h4
end Go.Proofs.YtcpjdgfnblkfpaaGreatDoor
