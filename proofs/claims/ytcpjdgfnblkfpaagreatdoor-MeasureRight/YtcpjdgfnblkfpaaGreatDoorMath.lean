/-
  Plain mathematics behind package bits: masks of 64-bit ints, fields of patterns. No Go text in sight.
-/
import Derived.WalkKit
import Derived.Laws.MathBits
import Derived.Lib.TrailingZeros
namespace Go.Proofs.YtcpjdgfnblkfpaaGreatDoor.M
open Go
set_option linter.unusedSimpArgs false
set_option linter.unusedVariables false

/-! signed 64-bit masks -/
theorem ofInt64_toNat (x : Int) : (BitVec.ofInt 64 x).toNat = (x % 18446744073709551616).toNat := by
  simp [BitVec.toNat_ofInt]
theorem bits_and64 (x y : Int) : bits .and .i64 x y = IntKind.i64.wrap (((x % 18446744073709551616).toNat &&& (y % 18446744073709551616).toNat : Nat) : Int) := by
  show IntKind.i64.wrap (((BitVec.ofInt 64 x &&& BitVec.ofInt 64 y).toNat : Nat) : Int) = _
  rw [BitVec.toNat_and, ofInt64_toNat, ofInt64_toNat]
theorem bits_or64 (x y : Int) : bits .or .i64 x y = IntKind.i64.wrap (((x % 18446744073709551616).toNat ||| (y % 18446744073709551616).toNat : Nat) : Int) := by
  show IntKind.i64.wrap (((BitVec.ofInt 64 x ||| BitVec.ofInt 64 y).toNat : Nat) : Int) = _
  rw [BitVec.toNat_or, ofInt64_toNat, ofInt64_toNat]
theorem bits_xor64 (x y : Int) : bits .xor .i64 x y = IntKind.i64.wrap (((x % 18446744073709551616).toNat ^^^ (y % 18446744073709551616).toNat : Nat) : Int) := by
  show IntKind.i64.wrap (((BitVec.ofInt 64 x ^^^ BitVec.ofInt 64 y).toNat : Nat) : Int) = _
  rw [BitVec.toNat_xor, ofInt64_toNat, ofInt64_toNat]
theorem bits_andNot64 (x y : Int) : bits .andNot .i64 x y = IntKind.i64.wrap (((x % 18446744073709551616).toNat &&& (18446744073709551615 - (y % 18446744073709551616).toNat) : Nat) : Int) := by
  show IntKind.i64.wrap (((BitVec.ofInt 64 x &&& ~~~ BitVec.ofInt 64 y).toNat : Nat) : Int) = _
  rw [BitVec.toNat_and, BitVec.toNat_not, ofInt64_toNat, ofInt64_toNat]
theorem wrap_i64_eq (n : Int) : IntKind.i64.wrap n = (n + 9223372036854775808) % 18446744073709551616 - 9223372036854775808 := by
  simp only [IntKind.wrap, IntKind.bits, IntKind.signed]
  simp
  split <;> omega

theorem and_i64_mask (x : Int) (k : Nat) (hk : k < 63) : bits .and .i64 x (2 ^ k - 1) = x % 2 ^ k := by
  have hp : (2:Nat) ^ k < 2 ^ 63 := Nat.pow_lt_pow_right (by decide) hk
  have hp0 : 0 < (2:Nat) ^ k := Nat.two_pow_pos k
  have e2 : ((2 : Int) ^ k - 1) = ((2 ^ k - 1 : Nat) : Int) := by
    rw [Int.ofNat_sub (by omega)]; simp
  have e3 : (((2 : Int) ^ k - 1) % 18446744073709551616).toNat = 2 ^ k - 1 := by
    rw [e2]; omega
  rw [bits_and64, e3, Nat.and_two_pow_sub_one_eq_mod]
  have e4 : (((x % 18446744073709551616).toNat % 2 ^ k : Nat) : Int) = x % 2 ^ k := by
    rw [Int.natCast_emod, Int.toNat_of_nonneg (Int.emod_nonneg _ (by decide))]
    rw [show ((2 ^ k : Nat) : Int) = (2 : Int) ^ k by simp]
    apply Int.emod_emod_of_dvd
    exact ⟨2 ^ (64 - k), by rw [← Int.pow_add, show k + (64 - k) = 64 by omega]; decide⟩
  rw [e4]
  have h5 : 0 ≤ x % 2 ^ k := Int.emod_nonneg _ (by have : (0:Int) < 2 ^ k := Int.pow_pos (by decide); omega)
  have h6 : x % 2 ^ k < 2 ^ k := Int.emod_lt_of_pos _ (Int.pow_pos (by decide))
  have h7 : ((2 : Int) ^ k) < 9223372036854775808 := by
    have : ((2 ^ k : Nat) : Int) < ((2 ^ 63 : Nat) : Int) := Int.ofNat_lt.2 hp
    simpa using this
  rw [wrap_i64_eq]; omega

theorem and_i64_2047 (x : Int) : bits .and .i64 x 2047 = x % 2048 := and_i64_mask x 11 (by decide)
theorem and_i64_255 (x : Int) : bits .and .i64 x 255 = x % 256 := and_i64_mask x 8 (by decide)
theorem and_i64_m52 (x : Int) : bits .and .i64 x 4503599627370495 = x % 4503599627370496 := and_i64_mask x 52 (by decide)
theorem and_i64_m23 (x : Int) : bits .and .i64 x 8388607 = x % 8388608 := and_i64_mask x 23 (by decide)
theorem xor_top (k n : Nat) (h : n < 2 ^ k) : 2 ^ k ^^^ n = 2 ^ k + n := by
  apply Nat.eq_of_testBit_eq
  intro i
  rw [Nat.testBit_xor, Nat.testBit_two_pow]
  rcases Nat.lt_trichotomy i k with hi | hi | hi
  · rw [Nat.testBit_two_pow_add_gt hi]
    simp [show ¬ k = i by omega]
  · subst hi
    rw [Nat.testBit_two_pow_add_eq, Nat.testBit_lt_two_pow h]; simp
  · have hk : 2 ^ (k + 1) ≤ 2 ^ i := Nat.pow_le_pow_right (by decide) hi
    rw [Nat.testBit_lt_two_pow (show n < 2 ^ i by rw [Nat.pow_succ] at hk; omega), Nat.testBit_lt_two_pow (show 2 ^ k + n < 2 ^ i by rw [Nat.pow_succ] at hk; omega)]
    simp [show ¬ k = i by omega]
theorem xor_top' (k m : Nat) (h : m < 2 ^ k) : (2 ^ k + m) ^^^ 2 ^ k = m := by
  rw [← xor_top k m h, Nat.xor_comm (2 ^ k) m, Nat.xor_assoc, Nat.xor_self, Nat.xor_zero]
theorem and_low (k m : Nat) (h : m < 2 ^ k) : (2 ^ k + m) &&& (2 ^ k - 1) = m := by
  rw [Nat.and_two_pow_sub_one_eq_mod, Nat.add_mod_left, Nat.mod_eq_of_lt h]
/-- the sign bit turned -/
theorem xor_i64_sign (x : Int) (h0 : -9223372036854775808 ≤ x) (h1 : x < 9223372036854775808) : bits .xor .i64 x (-9223372036854775808) = if x < 0 then x + 9223372036854775808 else x - 9223372036854775808 := by
  rw [bits_xor64, show ((-9223372036854775808 : Int) % 18446744073709551616).toNat = 2 ^ 63 from by decide, wrap_i64_eq]
  split
  · rw [show (x % 18446744073709551616).toNat = 2 ^ 63 + (x + 9223372036854775808).toNat by omega, xor_top' 63 _ (by omega)]; omega
  · rw [Nat.xor_comm, xor_top 63 _ (by omega)]; omega
/-- the sign bit left away -/
theorem andNot_i64_sign (x : Int) (h0 : -9223372036854775808 ≤ x) (h1 : x < 9223372036854775808) : bits .andNot .i64 x (-9223372036854775808) = if x < 0 then x + 9223372036854775808 else x := by
  rw [bits_andNot64, show (18446744073709551615 - ((-9223372036854775808 : Int) % 18446744073709551616).toNat) = 2 ^ 63 - 1 from by decide, wrap_i64_eq, Nat.and_two_pow_sub_one_eq_mod]
  split <;> omega
/-- the sign bit set -/
theorem or_i64_sign (x : Int) (h0 : 0 ≤ x) (h1 : x < 9223372036854775808) : bits .or .i64 x (-9223372036854775808) = x - 9223372036854775808 := by
  rw [bits_or64, show ((-9223372036854775808 : Int) % 18446744073709551616).toNat = 2 ^ 63 from by decide, wrap_i64_eq, Nat.or_comm, nat_join 63 _ _ (by decide) (by omega)]
  omega
theorem or_i64_sign32 (x : Int) (h0 : 0 ≤ x) (h1 : x < 2147483648) : bits .or .i64 x 2147483648 = x + 2147483648 := by
  rw [bits_or64, show ((2147483648 : Int) % 18446744073709551616).toNat = 2 ^ 31 from by decide, wrap_i64_eq, Nat.or_comm, nat_join 31 _ _ (by decide) (by omega)]
  omega
theorem xor_i64_sign32 (x : Int) (h0 : 0 ≤ x) (h1 : x < 4294967296) : bits .xor .i64 x 2147483648 = if x < 2147483648 then x + 2147483648 else x - 2147483648 := by
  rw [bits_xor64, show ((2147483648 : Int) % 18446744073709551616).toNat = 2 ^ 31 from by decide, wrap_i64_eq]
  split
  · rw [Nat.xor_comm, xor_top 31 _ (by omega)]; omega
  · rw [show (x % 18446744073709551616).toNat = 2 ^ 31 + (x - 2147483648).toNat by omega, xor_top' 31 _ (by omega)]; omega
/-- '^x' -/
theorem not_i64 (x : Int) (h0 : -9223372036854775808 ≤ x) (h1 : x < 9223372036854775808) : bits .xor .i64 (-1) x = -1 - x := by
  rw [bits_xor64, show ((-1 : Int) % 18446744073709551616).toNat = 2 ^ 64 - 1 from by decide, wrap_i64_eq]
  have : (2 ^ 64 - 1) ^^^ (x % 18446744073709551616).toNat = 2 ^ 64 - 1 - (x % 18446744073709551616).toNat := by
    apply Nat.eq_of_testBit_eq
    intro i
    rw [Nat.testBit_xor, Nat.testBit_two_pow_sub_one, show 2 ^ 64 - 1 - (x % 18446744073709551616).toNat = 2 ^ 64 - ((x % 18446744073709551616).toNat + 1) by omega,
      Nat.testBit_two_pow_sub_succ (by omega)]
    by_cases hi : i < 64
    · simp [hi]
    · have : (x % 18446744073709551616).toNat.testBit i = false := Nat.testBit_lt_two_pow (Nat.lt_of_lt_of_le (by omega : _ < 2 ^ 64) (Nat.pow_le_pow_right (by decide) (by omega)))
      simp [hi, this]
  rw [this]; omega
/-! the fields of a binary64's pattern -/
def fld (b : Int) : Int := b / 4503599627370496 % 2048
def frc (b : Int) : Int := b % 4503599627370496
def fld32 (b : Int) : Int := b / 8388608 % 256
def frc32 (b : Int) : Int := b % 8388608
/-- the class, off the field and the fraction -/
def cls (b : Int) : Int := if fld b = 2047 then (if frc b = 0 then 3 else 4) else if fld b = 0 then (if frc b = 0 then 0 else 1) else 2
def cls32 (b : Int) : Int := if b < 0 ∨ 4294967296 ≤ b then 4 else if fld32 b = 255 then (if frc32 b = 0 then 3 else 4) else if fld32 b = 0 then (if frc32 b = 0 then 0 else 1) else 2
def pok (b : Int) : Bool := !decide (fld b = 2047)
def pneg (b : Int) : Bool := pok b && decide (b < 0)
def pmag (b : Int) : Int := if fld b = 2047 then 0 else if fld b = 0 then frc b else 4503599627370496 + frc b
def pexp (b : Int) : Int := if fld b = 2047 then 0 else if fld b = 0 then -1074 else fld b - 1075
def in32 (b : Int) : Bool := decide (0 ≤ b ∧ b < 4294967296)
def pok32 (b : Int) : Bool := in32 b && !decide (fld32 b = 255)
def pneg32 (b : Int) : Bool := pok32 b && decide (2147483648 ≤ b)
def pmag32 (b : Int) : Int := if pok32 b then (if fld32 b = 0 then frc32 b else 8388608 + frc32 b) else 0
def pexp32 (b : Int) : Int := if pok32 b then (if fld32 b = 0 then -149 else fld32 b - 150) else 0
def nan : Int := 9221120237041090561
def inf : Int := 9218868437227405312
def nan32 : Int := 2143289345
def inf32 : Int := 2139095040
def neg (b : Int) : Int := if cls b = 4 then 9221120237041090561 else if b < 0 then b + 9223372036854775808 else b - 9223372036854775808
def abs (b : Int) : Int := if cls b = 4 then 9221120237041090561 else if b < 0 then b + 9223372036854775808 else b
def canon (b : Int) : Int := if cls b = 4 then 9221120237041090561 else if cls b = 0 then 0 else b
def next (b : Int) : Int := if cls b = 4 then 9221120237041090561 else if b = 9218868437227405312 then b else if b = -9223372036854775808 then 1 else if b < 0 then b - 1 else b + 1
def prev (b : Int) : Int := neg (next (neg b))
def neg32 (b : Int) : Int := if cls32 b = 4 then 2143289345 else if b < 2147483648 then b + 2147483648 else b - 2147483648
def next32 (b : Int) : Int := if cls32 b = 4 then 2143289345 else if b = 2139095040 then b else if b = 2147483648 then 1 else if 2147483648 < b then b - 1 else b + 1
def prev32 (b : Int) : Int := neg32 (next32 (neg32 b))
/-- an int's range -/
def rng (b : Int) : Prop := -9223372036854775808 ≤ b ∧ b < 9223372036854775808
theorem fld_le (b : Int) : 0 ≤ fld b ∧ fld b < 2048 := by unfold fld; omega
theorem frc_le (b : Int) : 0 ≤ frc b ∧ frc b < 4503599627370496 := by unfold frc; omega
theorem fld32_le (b : Int) : 0 ≤ fld32 b ∧ fld32 b < 256 := by unfold fld32; omega
theorem frc32_le (b : Int) : 0 ≤ frc32 b ∧ frc32 b < 8388608 := by unfold frc32; omega
theorem cls_le (b : Int) : 0 ≤ cls b ∧ cls b ≤ 4 := by unfold cls; repeat' split <;> omega
theorem cls4 {b : Int} : cls b = 4 ↔ fld b = 2047 ∧ frc b ≠ 0 := by
  unfold cls; repeat' split
  all_goals omega
theorem cls4_not {b : Int} (h : ¬ cls b = 4) : fld b ≠ 2047 ∨ frc b = 0 := by
  rw [cls4] at h; omega
theorem rng_neg {b : Int} (h : rng b) : rng (neg b) := by
  unfold rng neg at *; repeat' split
  all_goals omega
theorem rng_next {b : Int} (h : rng b) : rng (next b) := by
  unfold rng next at *; repeat' split
  · omega
  · omega
  · omega
  · omega
  · rename_i h1 h2 h3 h4
    have := cls4_not h1
    unfold fld frc at this
    omega
theorem rng_nan : rng 9221120237041090561 := by unfold rng; omega
theorem cls_nan : cls 9221120237041090561 = 4 := by decide
theorem neg_neg {b : Int} (h : rng b) (hc : ¬ cls b = 4) : neg (neg b) = b := by
  have hc' := cls4_not hc
  have key : ¬ cls (if b < 0 then b + 9223372036854775808 else b - 9223372036854775808) = 4 := by
    rw [cls4]
    unfold fld frc at *
    split <;> omega
  unfold rng at h
  unfold neg
  simp only [hc, if_false, key]
  split <;> split <;> omega
theorem cls32_in {b : Int} (h : ¬ cls32 b = 4) : 0 ≤ b ∧ b < 4294967296 := by
  unfold cls32 at h; split at h <;> omega
theorem rng_neg32 {b : Int} (h : rng b) : rng (neg32 b) := by
  unfold rng neg32 at *; repeat' split
  · omega
  · rename_i h1 h2; have := cls32_in h1; omega
  · rename_i h1 h2; have := cls32_in h1; omega
theorem rng_next32 {b : Int} (h : rng b) : rng (next32 b) := by
  unfold rng next32 at *; repeat' split
  · omega
  all_goals rename_i h1 h2; omega
/-- the class, as the document's answer tells it -/
def rcls (f t most : Int) : Int := if f = most then (if t = 0 then 3 else 4) else if 0 < f then 2 else if 0 < t then 1 else 0
theorem rcls_cls (b : Int) : rcls (fld b) (frc b) 2047 = cls b := by
  have := fld_le b; have := frc_le b
  unfold rcls cls; repeat' split
  all_goals omega
theorem rcls_cls32 (b : Int) (h : in32 b = true) : rcls (fld32 b) (frc32 b) 255 = cls32 b := by
  have := fld32_le b; have := frc32_le b
  have hb := of_decide_eq_true h
  unfold rcls cls32; repeat' split
  all_goals omega
theorem pok_cls (b : Int) : pok b = decide (cls b < 3) := by
  unfold pok cls
  by_cases h : fld b = 2047 <;> by_cases h2 : frc b = 0 <;> by_cases h3 : fld b = 0 <;> simp [h, h2, h3]
theorem parts_sub {b : Int} (h : cls b = 0 ∨ cls b = 1) : decide (b < 0) = pneg b ∧ frc b = pmag b ∧ -1074 = pexp b ∧ true = pok b := by
  unfold cls at h; unfold pneg pmag pexp pok
  by_cases h1 : fld b = 2047 <;> by_cases h2 : frc b = 0 <;> by_cases h3 : fld b = 0 <;> simp [h1, h2, h3] at h ⊢
theorem parts_norm {b : Int} (h : cls b = 2) : decide (b < 0) = pneg b ∧ 4503599627370496 + frc b = pmag b ∧ fld b - 1075 = pexp b ∧ true = pok b := by
  unfold cls at h; unfold pneg pmag pexp pok
  by_cases h1 : fld b = 2047 <;> by_cases h2 : frc b = 0 <;> by_cases h3 : fld b = 0 <;> simp [h1, h2, h3] at h ⊢
theorem parts_not {b : Int} (h0 : ¬ cls b = 0) (h1 : ¬ cls b = 1) (h2 : ¬ cls b = 2) : false = pneg b ∧ 0 = pmag b ∧ 0 = pexp b ∧ false = pok b := by
  unfold cls at h0 h1 h2; unfold pneg pmag pexp pok
  by_cases k1 : fld b = 2047 <;> by_cases k2 : frc b = 0 <;> by_cases k3 : fld b = 0 <;> simp [k1, k2, k3] at h0 h1 h2 ⊢
theorem parts32_sub {b : Int} (h : cls32 b = 0 ∨ cls32 b = 1) : decide (2147483648 ≤ b) = pneg32 b ∧ frc32 b = pmag32 b ∧ -149 = pexp32 b ∧ true = pok32 b := by
  have hb := cls32_in (b := b) (by omega)
  have hi : in32 b = true := decide_eq_true hb
  unfold cls32 at h; unfold pneg32 pmag32 pexp32 pok32
  rw [if_neg (by omega)] at h
  by_cases h1 : fld32 b = 255 <;> by_cases h2 : frc32 b = 0 <;> by_cases h3 : fld32 b = 0 <;> simp [h1, h2, h3, hi] at h ⊢
theorem parts32_norm {b : Int} (h : cls32 b = 2) : decide (2147483648 ≤ b) = pneg32 b ∧ 8388608 + frc32 b = pmag32 b ∧ fld32 b - 150 = pexp32 b ∧ true = pok32 b := by
  have hb := cls32_in (b := b) (by omega)
  have hi : in32 b = true := decide_eq_true hb
  unfold cls32 at h; unfold pneg32 pmag32 pexp32 pok32
  rw [if_neg (by omega)] at h
  by_cases h1 : fld32 b = 255 <;> by_cases h2 : frc32 b = 0 <;> by_cases h3 : fld32 b = 0 <;> simp [h1, h2, h3, hi] at h ⊢
theorem parts32_not {b : Int} (h0 : ¬ cls32 b = 0) (h1 : ¬ cls32 b = 1) (h2 : ¬ cls32 b = 2) : false = pneg32 b ∧ 0 = pmag32 b ∧ 0 = pexp32 b ∧ false = pok32 b := by
  have hp : pok32 b = false := by
    by_cases hi : in32 b = true
    · have hb := of_decide_eq_true hi
      unfold cls32 at h0 h1 h2; rw [if_neg (by omega)] at h0 h1 h2; unfold pok32
      by_cases k1 : fld32 b = 255 <;> by_cases k2 : frc32 b = 0 <;> by_cases k3 : fld32 b = 0 <;> simp [k1, k2, k3] at h0 h1 h2 ⊢
    · simp [pok32, hi]
  simp [pneg32, pmag32, pexp32, hp]
/-- the word of a pattern -/
def wd (b : Int) : Nat := (b % 18446744073709551616).toNat
end Go.Proofs.YtcpjdgfnblkfpaaGreatDoor.M
