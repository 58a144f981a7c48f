/-
  Plain mathematics of shifts of digit lists: powers of 2, bits put together, digits shifted by part of a digit. No Go text in sight.
-/
import Derived.Test.YtcpjdgfnblkfpaaGreatDoorNV
namespace Go.Proofs.YtcpjdgfnblkfpaaGreatDoor.M
open Go
set_option linter.unusedSimpArgs false
set_option linter.unusedVariables false

/-- l is the lowest bit of V. -/
def IsLow (V : Int) (l : Nat) : Prop := ∃ m : Int, V = (2 * m + 1) * 2 ^ l
theorem two_pos (k : Nat) : (0 : Int) < 2 ^ k := Int.pow_pos (by decide)
theorem P_two (n : Nat) : P n = 2 ^ (30 * n) := by
  induction n with
  | zero => rfl
  | succ n ih => rw [P_succ, ih, show 30 * (n + 1) = 30 * n + 30 by omega, Int.pow_add]; rfl
theorem two_split (k : Nat) : (2 : Int) ^ k = P (k / 30) * 2 ^ (k % 30) := by
  rw [P_two, ← Int.pow_add]; congr 1; omega
theorem two_le {j k : Nat} (h : j ≤ k) : (2 : Int) ^ j ≤ 2 ^ k := by
  obtain ⟨m, rfl⟩ := Nat.exists_eq_add_of_le h
  rw [Int.pow_add]
  have h1 := two_pos j
  have h2 := two_pos m
  have h3 : (2 : Int) ^ j * 1 ≤ 2 ^ j * 2 ^ m := Int.mul_le_mul_of_nonneg_left (by omega) (by omega)
  omega
theorem two_lt {j k : Nat} (h : j < k) : (2 : Int) ^ j < 2 ^ k := by
  have h1 := two_le (show j + 1 ≤ k by omega)
  have h2 := two_pos j
  rw [Int.pow_succ] at h1
  omega
/-- Bits of which none meet are put together as a sum is. -/
theorem or_add (x m : Int) (k : Nat) (hx : 0 ≤ x) (hxk : x < 2 ^ k) (hm : 0 ≤ m) (hs : x + m * 2 ^ k < 9223372036854775808) : bits .or .i64 x (m * 2 ^ k) = x + m * 2 ^ k := by
  have hp := two_pos k
  have hy : 0 ≤ m * 2 ^ k := Int.mul_nonneg hm (by omega)
  obtain ⟨m', rfl⟩ := Int.eq_ofNat_of_zero_le hm
  obtain ⟨x', rfl⟩ := Int.eq_ofNat_of_zero_le hx
  have e2 : ((m' : Int) * 2 ^ k) = ((m' * 2 ^ k : Nat) : Int) := by simp
  rw [e2] at hs hy ⊢
  have hx' : x' < 2 ^ k := by
    have : ((x' : Nat) : Int) < ((2 ^ k : Nat) : Int) := by simpa using hxk
    exact Int.ofNat_lt.1 this
  have e3 : x' ||| m' * 2 ^ k = m' * 2 ^ k + x' := by rw [Nat.or_comm, Nat.mul_comm m', Nat.two_pow_add_eq_or_of_lt hx' m']
  generalize m' * 2 ^ k = M at *
  rw [bits_or64, show (((x' : Int)) % 18446744073709551616).toNat = x' by omega, show ((M : Int) % 18446744073709551616).toNat = M by omega, e3, wrap_i64_eq]
  omega
/-- The digits of a list divided by 2^t (u is 2^t, v is 2^(30 - t)), cut. -/
def low (s : Nat → Int) (u v : Int) : Nat → Int := fun i => s i / u + s (i + 1) % u * v
theorem low_dig {s : Nat → Int} {u v : Int} {n : Nat} (hu : 0 < u) (huv : u * v = 1073741824) (h : Dig s (n + 1)) : Dig (low s u v) n := by
  intro i hi
  have a := h i (by omega)
  have hv : 0 < v := by
    rcases Int.lt_or_le 0 v with h | h
    · exact h
    · have := Int.mul_nonneg (show 0 ≤ u by omega) (show 0 ≤ -v by omega); rw [Int.mul_neg] at this; omega
  have b0 : 0 ≤ s (i + 1) % u := Int.emod_nonneg _ (by omega)
  have b1 : s (i + 1) % u < u := Int.emod_lt_of_pos _ hu
  have c0 : 0 ≤ s i / u := Int.ediv_nonneg a.1 (by omega)
  have c1 : s i / u < v := (Int.ediv_lt_iff_lt_mul hu).2 (by rw [Int.mul_comm, huv]; exact a.2)
  have d1 : s (i + 1) % u * v ≤ (u - 1) * v := Int.mul_le_mul_of_nonneg_right (by omega) (by omega)
  have d0 : 0 ≤ s (i + 1) % u * v := Int.mul_nonneg b0 (by omega)
  rw [Int.sub_mul, huv] at d1
  unfold low
  omega
theorem low_val (s : Nat → Int) {u v : Int} (huv : u * v = 1073741824) (n : Nat) : val (low s u v) n * u = val s n - s 0 % u + s n % u * P n := by
  induction n with
  | zero => show (0 : Int) * u = 0 - s 0 % u + s 0 % u * 1; omega
  | succ n ih =>
    rw [val_succ, val_succ, P_succ]
    have e : s n / u * u = s n - s n % u := by have := Int.emod_add_ediv_mul (s n) u; omega
    unfold low at ih ⊢
    have e2 : (val (fun i => s i / u + s (i + 1) % u * v) n + (s n / u + s (n + 1) % u * v) * P n) * u = val (fun i => s i / u + s (i + 1) % u * v) n * u + (s n / u * u) * P n + s (n + 1) % u * (u * v) * P n := by grind
    rw [e2, ih, e, huv]; grind
theorem low_eq {s : Nat → Int} {u v : Int} (hu : 0 < u) (huv : u * v = 1073741824) {n : Nat} (h : s n = 0) : val (low s u v) n = val s n / u := by
  have h1 := low_val s huv n
  rw [h, Int.zero_emod, Int.zero_mul, Int.add_zero] at h1
  have b0 : 0 ≤ s 0 % u := Int.emod_nonneg _ (by omega)
  have b1 : s 0 % u < u := Int.emod_lt_of_pos _ hu
  have : val s n = s 0 % u + val (low s u v) n * u := by omega
  rw [this, Int.add_mul_ediv_right _ _ (by omega), Int.ediv_eq_zero_of_lt b0 b1]; omega
/-- A list without its lowest digits. -/
theorem val_drop (d : Nat → Int) {w n : Nat} (h : w ≤ n) (hd : Dig d n) : val (fun i => d (w + i)) (n - w) = val d n / P w := by
  have e := val_split d w (n - w)
  rw [show w + (n - w) = n by omega] at e
  rw [e, Int.add_mul_ediv_left _ _ (by have := P_pos w; omega), Int.ediv_eq_zero_of_lt (val_nonneg (hd.le h)) (val_lt (hd.le h))]; omega
theorem val_shift0 (d : Nat → Int) (w n : Nat) (h : ∀ i, i < w → d i = 0) : val d (w + n) = P w * val (fun i => d (w + i)) n := by
  rw [val_split, val_zeros (Nat.zero_le w) (fun i _ b => h i b)]; show 0 + _ = _; omega
end Go.Proofs.YtcpjdgfnblkfpaaGreatDoor.M
