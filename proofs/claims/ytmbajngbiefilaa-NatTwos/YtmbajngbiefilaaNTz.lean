/-
  math/bits.TrailingZeros; nat's lowest, Low, Bit, Shr, Div, by contracts.
-/
import Derived.Test.YtmbajngbiefilaaNLaw
import Derived.Test.YtmbajngbiefilaaNW5
import Derived.Test.YtmbajngbiefilaaND1
import Derived.Test.YtmbajngbiefilaaNPow
import Derived.Lib.BitFns
import Derived.Lib.TrailingZeros
import Derived.Laws.Bits64b
namespace Go.Proofs.Ytmbajngbiefilaa
open Go Go.RowKit Go.Proofs.Ytmbajngbiefilaa.M
set_option linter.unusedSimpArgs false
set_option linter.unusedVariables false

theorem tz_key (x a : Nat) (hx : x < 18446744073709551616) (hx0 : x ≠ 0) (hlow : x &&& (18446744073709551616 - x) = a) :
    IntKind.u64.wrap (bits .and .u64 (x : Int) (IntKind.u64.wrap (-(x : Int))) * 285870213051353865) / 288230376151711744 = ((a * 285870213051353865 % 18446744073709551616 / 288230376151711744 : Nat) : Int) := by
  have e1 : IntKind.u64.wrap (-(x : Int)) = ((18446744073709551616 - x : Nat) : Int) := by rw [IntKind.wrap_u64]; omega
  rw [e1, bits_and_u64_nat x _ hx (by omega), hlow, IntKind.wrap_u64]
  omega
theorem low_unique {V : Int} {l k : Nat} (h : IsLow V l) (h' : IsLow V k) : l = k := by
  have key : ∀ (l k : Nat) (V : Int), IsLow V l → IsLow V k → ¬ l < k := fun l k V ⟨m, hm⟩ ⟨m', hm'⟩ hlt => by
    obtain ⟨d, rfl⟩ : ∃ d, k = l + 1 + d := ⟨k - l - 1, by omega⟩
    rw [hm, Int.pow_add, Int.pow_add] at hm'
    have e : (2 * m + 1) * 2 ^ l = ((2 * m' + 1) * (2 ^ d * 2)) * 2 ^ l := by rw [hm']; grind
    have e2 := Int.eq_of_mul_eq_mul_right (Int.ne_of_gt (two_pos l)) e
    have e3 : (2 * m' + 1) * (2 ^ d * 2) = 2 * ((2 * m' + 1) * 2 ^ d) := by grind
    rw [e3] at e2
    generalize (2 * m' + 1) * 2 ^ d = Z at e2
    omega
  rcases Nat.lt_trichotomy l k with q | q | q
  · exact absurd q (key l k V h h')
  · exact q
  · exact absurd q (key k l V h' h)
theorem low_shift {V : Int} {l k : Nat} (h : IsLow V l) : IsLow (V * 2 ^ k) (l + k) := by
  obtain ⟨m, rfl⟩ := h
  exact ⟨m, by rw [Int.pow_add, Int.mul_assoc]⟩
theorem isLow_val {d : Nat → Int} {n i l : Nat} (hi : i < n) (hz : ∀ j, j < i → d j = 0) (h : IsLow (d i) l) (hl : l < 30) : IsLow (val d n) (30 * i + l) := by
  obtain ⟨m, hm⟩ := h
  have e1 : val d n = P i * val (fun j => d (i + j)) (n - i) := by
    have := val_shift0 d i (n - i) hz
    rwa [show i + (n - i) = n by omega] at this
  obtain ⟨r, hr⟩ : ∃ r, n - i = r + 1 := ⟨n - i - 1, by omega⟩
  have e2 : val (fun j => d (i + j)) (n - i) = d i + 1073741824 * val (fun j => d (i + (j + 1))) r := by
    rw [hr]
    have h := val_split (fun j => d (i + j)) 1 r
    rw [Nat.add_comm 1 r] at h
    rw [h]
    have e : (fun j => d (i + (1 + j))) = fun j => d (i + (j + 1)) := by funext j; rw [Nat.add_comm 1 j]
    show 0 + d (i + 0) * 1 + 1 * 1073741824 * _ = _
    rw [e, Nat.add_zero]; omega
  have e3 : (1073741824 : Int) = 2 ^ l * (2 * 2 ^ (29 - l)) := by
    rw [← Int.mul_assoc, Int.mul_comm (2 ^ l) 2, Int.mul_assoc, ← Int.pow_add, show l + (29 - l) = 29 by omega]; rfl
  refine ⟨m + 2 ^ (29 - l) * val (fun j => d (i + (j + 1))) r, ?_⟩
  rw [e1, e2, hm, e3, Int.pow_add, ← P_two]
  grind
theorem low_lt {x : Int} {l : Nat} (h0 : 0 < x) (h1 : x < 1073741824) (h : IsLow x l) : l < 30 := by
  obtain ⟨m, hm⟩ := h
  rcases Nat.lt_or_ge l 30 with q | q
  · exact q
  · have h2 : (2 : Int) ^ 30 ≤ 2 ^ l := two_le q
    have h3 : 0 < 2 * m + 1 := by
      rcases Int.lt_or_le 0 (2 * m + 1) with r | r
      · exact r
      · have := Int.mul_nonneg (show 0 ≤ -(2 * m + 1) by omega) (Int.le_of_lt (two_pos l))
        rw [Int.neg_mul, ← hm] at this
        omega
    have h4 : 1 * 2 ^ l ≤ (2 * m + 1) * 2 ^ l := mul_le_r (by omega) (Int.le_of_lt (two_pos l))
    have h5 : (2 : Int) ^ 30 = 1073741824 := rfl
    omega
/-- What lowest tells. -/
def LowA (V l : Int) : Prop := (V = 0 ∧ l = -1) ∨ ∃ k : Nat, l = k ∧ IsLow V k
/-- Is bit i set? -/
def bitB (V : Int) (i : Nat) : Bool := V / 2 ^ i % 2 == 1
theorem bit_val {d : Nat → Int} {n q p : Nat} (hd : Dig d n) (hq : q < n) (hp : p < 30) : val d n / 2 ^ (30 * q + p) % 2 = d q / 2 ^ p % 2 := by
  have hpw := P_pos q
  rw [Int.pow_add, ← P_two, ← Int.ediv_ediv_of_nonneg (Int.le_of_lt hpw), ← val_drop d (by omega) hd]
  obtain ⟨r, hr⟩ : ∃ r, n - q = r + 1 := ⟨n - q - 1, by omega⟩
  have h := val_split (fun j => d (q + j)) 1 r
  rw [Nat.add_comm 1 r] at h
  rw [hr, h]
  have e3 : (1073741824 : Int) = 2 * 2 ^ (29 - p) * 2 ^ p := by
    rw [Int.mul_assoc, ← Int.pow_add, show 29 - p + p = 29 by omega]; rfl
  have e4 : val (fun j => d (q + j)) 1 + P 1 * val (fun i => d (q + (1 + i))) r = d q + (2 * 2 ^ (29 - p) * val (fun i => d (q + (1 + i))) r) * 2 ^ p := by
    show 0 + d (q + 0) * 1 + 1 * 1073741824 * _ = _
    rw [Nat.add_zero, e3]; grind
  rw [e4, Int.add_mul_ediv_right _ _ (Int.ne_of_gt (two_pos p)), Int.mul_assoc 2, Int.add_mul_emod_self_left]
theorem bit_high {V : Int} {i : Nat} (h0 : 0 ≤ V) (h : blen V ≤ i) : bitB V i = false := by
  have h1 := blen_lt V
  have h2 : (2 : Int) ^ blen V ≤ 2 ^ i := two_le h
  unfold bitB
  rw [Int.ediv_eq_zero_of_lt h0 (Int.lt_of_lt_of_le h1 h2)]; rfl
end Go.Proofs.Ytmbajngbiefilaa
