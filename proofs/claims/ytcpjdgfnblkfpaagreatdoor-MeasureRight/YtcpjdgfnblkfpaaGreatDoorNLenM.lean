/-
  Plain mathematics of the number of bits: the least k with V < 2^k. No Go text in sight.
-/
import Derived.Test.YtcpjdgfnblkfpaaGreatDoorNShM
import Derived.Lib.BitFns
import Derived.Lib.ItoaNum
namespace Go.Proofs.YtcpjdgfnblkfpaaGreatDoor.M
open Go
set_option linter.unusedSimpArgs false
set_option linter.unusedVariables false

/-- The number of bits. -/
def blen (V : Int) : Nat := if V ≤ 0 then 0 else Nat.log2 V.toNat + 1
theorem blen_zero : blen 0 = 0 := by decide
theorem blen_lt (V : Int) : V < 2 ^ blen V := by
  unfold blen
  split
  · show V < 1; omega
  · have h := @Nat.lt_log2_self V.toNat
    have e : ((V.toNat : Nat) : Int) < ((2 ^ (Nat.log2 V.toNat + 1) : Nat) : Int) := Int.ofNat_lt.2 h
    rw [Int.toNat_of_nonneg (by omega)] at e
    simpa using e
theorem blen_pos {V : Int} (h : 0 < V) : 1 ≤ blen V ∧ 2 ^ (blen V - 1) ≤ V := by
  unfold blen
  rw [if_neg (by omega)]
  refine ⟨by omega, ?_⟩
  have h1 := Nat.log2_self_le (n := V.toNat) (by omega)
  have e : ((2 ^ Nat.log2 V.toNat : Nat) : Int) ≤ ((V.toNat : Nat) : Int) := Int.ofNat_le.2 h1
  rw [Int.toNat_of_nonneg (by omega)] at e
  simpa using e
theorem two_lt_iff {j k : Nat} (h : (2 : Int) ^ j < 2 ^ k) : j < k := by
  rcases Nat.lt_or_ge j k with h1 | h1
  · exact h1
  · have := two_le h1; omega
theorem blen_le {V : Int} {k : Nat} (h : V < 2 ^ k) : blen V ≤ k := by
  by_cases h0 : 0 < V
  · obtain ⟨h1, h2⟩ := blen_pos h0
    have := two_lt_iff (show (2 : Int) ^ (blen V - 1) < 2 ^ k by omega)
    omega
  · unfold blen; rw [if_pos (by omega)]; omega
theorem blen_ge {V : Int} {k : Nat} (h : 2 ^ k ≤ V) : k < blen V := by
  have h1 := blen_lt V
  exact two_lt_iff (by omega)
theorem blen_of {V : Int} {k : Nat} (h1 : 2 ^ k ≤ V) (h2 : V < 2 ^ (k + 1)) : blen V = k + 1 := by
  have a := blen_ge h1
  have b := blen_le h2
  omega
theorem bitLen_eq {x : Int} (h0 : 0 ≤ x) (h1 : x < 18446744073709551616) : (Lib.bitLen x.toNat : Int) = blen x := by
  by_cases hx : x = 0
  · subst hx; decide
  · obtain ⟨a, b, c⟩ := Lib.bitLenAux_bounds 64 x.toNat (by omega) (by omega)
    have e : blen x = Lib.bitLen x.toNat := by
      have hb : Lib.bitLen x.toNat = Lib.bitLenAux 64 x.toNat := rfl
      rw [← hb] at a b c
      obtain ⟨k, hk⟩ : ∃ k, Lib.bitLen x.toNat = k + 1 := ⟨Lib.bitLen x.toNat - 1, by omega⟩
      rw [hk] at b c ⊢
      have b' : ((2 ^ k : Nat) : Int) ≤ ((x.toNat : Nat) : Int) := Int.ofNat_le.2 (by simpa using b)
      have c' : ((x.toNat : Nat) : Int) < ((2 ^ (k + 1) : Nat) : Int) := Int.ofNat_lt.2 c
      rw [Int.toNat_of_nonneg h0] at b' c'
      exact blen_of (by simpa using b') (by simpa using c')
    rw [e]
theorem blen_val {d : Nat → Int} {n : Nat} (h : Nrm d (n + 1)) : blen (val d (n + 1)) = 30 * n + blen (d n) := by
  have hd := h.1 n (by omega)
  have ht : d n ≠ 0 := by rcases h.2 with e | e; (· omega); (· simpa using e)
  have hp : 0 < d n := by omega
  obtain ⟨a, b⟩ := blen_pos hp
  have c := blen_lt (d n)
  have v0 := val_nonneg (h.1.le (Nat.le_succ n))
  have v1 := val_lt (h.1.le (Nat.le_succ n))
  have pp := P_pos n
  obtain ⟨k, hk⟩ : ∃ k, blen (d n) = k + 1 := ⟨blen (d n) - 1, by omega⟩
  rw [hk] at b c ⊢
  rw [show 30 * n + (k + 1) = (30 * n + k) + 1 by omega]
  have e1 : (2 : Int) ^ (30 * n + k) = 2 ^ k * P n := by rw [Int.pow_add, P_two, Int.mul_comm]
  have e2 : (2 : Int) ^ (30 * n + k + 1) = 2 ^ (k + 1) * P n := by rw [show 30 * n + k + 1 = 30 * n + (k + 1) by omega, Int.pow_add, P_two, Int.mul_comm]
  have f1 : (2 : Int) ^ k * P n ≤ d n * P n := Int.mul_le_mul_of_nonneg_right (by simpa using b) (by omega)
  have f2 : (d n + 1) * P n ≤ 2 ^ (k + 1) * P n := Int.mul_le_mul_of_nonneg_right (by omega) (by omega)
  rw [Int.add_mul] at f2
  apply blen_of
  · rw [e1, val_succ]; omega
  · rw [e2, val_succ]; omega
end Go.Proofs.YtcpjdgfnblkfpaaGreatDoor.M
