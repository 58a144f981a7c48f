/-
  Plain mathematics of sums, differences, products of digit lists, a digit at a time; of their order. No Go text in sight.
-/
import Derived.Test.YtcpjdgfnblkfpaaGreatDoorNV
namespace Go.Proofs.YtcpjdgfnblkfpaaGreatDoor.M
open Go
set_option linter.unusedSimpArgs false
set_option linter.unusedVariables false

theorem dig_mul {x y : Int} (hx : 0 ≤ x ∧ x < 1073741824) (hy : 0 ≤ y ∧ y < 1073741824) : 0 ≤ x * y ∧ x * y ≤ 1152921502459363329 := by
  refine ⟨Int.mul_nonneg hx.1 hy.1, ?_⟩
  have h1 : x * y ≤ 1073741823 * y := Int.mul_le_mul_of_nonneg_right (by omega) hy.1
  omega
theorem zero_dig (n : Nat) : Dig (fun _ => 0) n := fun i _ => ⟨Int.le_refl 0, show (0 : Int) < 1073741824 by decide⟩
theorem mod_dig (x : Int) : 0 ≤ x % 1073741824 ∧ x % 1073741824 < 1073741824 := by omega
/-- One digit of a sum (x is what the lists hold there): what is written, what is carried on. -/
theorem sum_step {r : Nat → Int} {k : Nat} {c x V : Int} (h : val r k + c * P k = V) : val (upd r k ((c + x) % 1073741824)) (k + 1) + (c + x) / 1073741824 * P (k + 1) = V + x * P k := by
  rw [val_succ, val_upd_ge r _ (Nat.le_refl k), upd_same, P_succ, carry_step, h]
/-- One digit of a row of a product. -/
theorem mul_step {r r0 b : Nat → Int} {i j : Nat} {c ai : Int} (h : val r (i + j) + c * P (i + j) = val r0 (i + j) + ai * val b j * P i) (hr : r (i + j) = r0 (i + j)) :
    val (upd r (i + j) ((c + (ai * b j + r (i + j))) % 1073741824)) (i + (j + 1)) + (c + (ai * b j + r (i + j))) / 1073741824 * P (i + (j + 1)) = val r0 (i + (j + 1)) + ai * val b (j + 1) * P i := by
  have e := sum_step (x := ai * b j + r (i + j)) h
  rw [← Nat.add_assoc, e, val_succ, val_succ, P_add, hr]
  grind
/-- A row of a product, with what it carries out put on top. -/
theorem mul_row {r r0 b : Nat → Int} {i m : Nat} {c ai A : Int} (h : val r (i + m) + c * P (i + m) = val r0 (i + m) + ai * val b m * P i) (h0 : val r0 (i + m) = A * val b m) :
    val (upd r (i + m) c) (i + 1 + m) = (A + ai * P i) * val b m := by
  rw [show i + 1 + m = i + m + 1 by omega, val_succ, upd_same, val_upd_ge r _ (Nat.le_refl _), h, h0]
  grind
theorem nrm_of_top {d : Nat → Int} {n t : Nat} (hd : Dig d n) (ht : t ≤ n) (htop : Top d t) (hz : ∀ i, t ≤ i → i < n → d i = 0) : Nrm d t ∧ val d t = val d n :=
  ⟨⟨hd.le ht, htop⟩, (val_zeros ht hz).symm⟩
/-- The order of two lists of one length: the highest digits that differ tell it. -/
theorem cmp_top {d e : Nat → Int} {n k : Nat} (hd : Dig d n) (he : Dig e n) (hk : k < n) (hs : ∀ i, k < i → i < n → d i = e i) (hlt : d k < e k) : val d n < val e n := by
  have s1 := val_split d (k + 1) (n - (k + 1))
  have s2 := val_split e (k + 1) (n - (k + 1))
  rw [show k + 1 + (n - (k + 1)) = n by omega] at s1 s2
  have e1 : val (fun i => d (k + 1 + i)) (n - (k + 1)) = val (fun i => e (k + 1 + i)) (n - (k + 1)) := val_congr fun i hi => hs _ (by omega) (by omega)
  rw [s1, s2, e1, val_succ, val_succ]
  have a := val_lt (hd.le (show k ≤ n by omega))
  have b := val_nonneg (he.le (show k ≤ n by omega))
  have c : (d k + 1) * P k ≤ e k * P k := Int.mul_le_mul_of_nonneg_right (by omega) (Int.le_of_lt (P_pos k))
  rw [Int.add_mul] at c
  omega
/-- The order of two numbers, as Go tells it. -/
def ord (a b : Int) : Int := if a < b then -1 else if b < a then 1 else 0
theorem ord_lt {a b : Int} (h : a < b) : ord a b = -1 := by simp [ord, h]
theorem ord_gt {a b : Int} (h : b < a) : ord a b = 1 := by simp [ord, h]; omega
theorem ord_eq {a b : Int} (h : a = b) : ord a b = 0 := by simp [ord, h]
end Go.Proofs.YtcpjdgfnblkfpaaGreatDoor.M
