/-
  Parts of the proof, one behind another.
-/
import Derived.WalkKit
import Derived.Laws.MathBits
import Derived.Lib.TrailingZeros
import Ieee.Arith
import GoSem.Core.Float
import Derived.Lib.BitFns
/-
  Plain mathematics behind package bits: masks of 64-bit ints, fields of patterns. No Go text in sight.
-/
namespace Go.Proofs.YtmjdlcbiaglkeaaDoor.M
open Go
set_option linter.unusedSimpArgs false
set_option linter.unusedVariables false

/-! signed 64-bit masks -/
theorem ofInt64_toNat (x : Int) : (BitVec.ofInt 64 x).toNat = (x % 18446744073709551616).toNat := by
  simp [BitVec.toNat_ofInt]
theorem bits_and64 (x y : Int) : bits .and .i64 x y = IntKind.i64.wrap (((x % 18446744073709551616).toNat &&& (y % 18446744073709551616).toNat : Nat) : Int) := by
  show IntKind.i64.wrap (((BitVec.ofInt 64 x &&& BitVec.ofInt 64 y).toNat : Nat) : Int) = _
  rw [BitVec.toNat_and, ofInt64_toNat, ofInt64_toNat]
theorem bits_or64 (x y : Int) : bits .or .i64 x y = IntKind.i64.wrap (((x % 18446744073709551616).toNat ||| (y % 18446744073709551616).toNat : Nat) : Int) := by
  show IntKind.i64.wrap (((BitVec.ofInt 64 x ||| BitVec.ofInt 64 y).toNat : Nat) : Int) = _
  rw [BitVec.toNat_or, ofInt64_toNat, ofInt64_toNat]
theorem bits_xor64 (x y : Int) : bits .xor .i64 x y = IntKind.i64.wrap (((x % 18446744073709551616).toNat ^^^ (y % 18446744073709551616).toNat : Nat) : Int) := by
  show IntKind.i64.wrap (((BitVec.ofInt 64 x ^^^ BitVec.ofInt 64 y).toNat : Nat) : Int) = _
  rw [BitVec.toNat_xor, ofInt64_toNat, ofInt64_toNat]
theorem bits_andNot64 (x y : Int) : bits .andNot .i64 x y = IntKind.i64.wrap (((x % 18446744073709551616).toNat &&& (18446744073709551615 - (y % 18446744073709551616).toNat) : Nat) : Int) := by
  show IntKind.i64.wrap (((BitVec.ofInt 64 x &&& ~~~ BitVec.ofInt 64 y).toNat : Nat) : Int) = _
  rw [BitVec.toNat_and, BitVec.toNat_not, ofInt64_toNat, ofInt64_toNat]
theorem wrap_i64_eq (n : Int) : IntKind.i64.wrap n = (n + 9223372036854775808) % 18446744073709551616 - 9223372036854775808 := by
  simp only [IntKind.wrap, IntKind.bits, IntKind.signed]
  simp
  split <;> omega

theorem and_i64_mask (x : Int) (k : Nat) (hk : k < 63) : bits .and .i64 x (2 ^ k - 1) = x % 2 ^ k := by
  have hp : (2:Nat) ^ k < 2 ^ 63 := Nat.pow_lt_pow_right (by decide) hk
  have hp0 : 0 < (2:Nat) ^ k := Nat.two_pow_pos k
  have e2 : ((2 : Int) ^ k - 1) = ((2 ^ k - 1 : Nat) : Int) := by
    rw [Int.ofNat_sub (by omega)]; simp
  have e3 : (((2 : Int) ^ k - 1) % 18446744073709551616).toNat = 2 ^ k - 1 := by
    rw [e2]; omega
  rw [bits_and64, e3, Nat.and_two_pow_sub_one_eq_mod]
  have e4 : (((x % 18446744073709551616).toNat % 2 ^ k : Nat) : Int) = x % 2 ^ k := by
    rw [Int.natCast_emod, Int.toNat_of_nonneg (Int.emod_nonneg _ (by decide))]
    rw [show ((2 ^ k : Nat) : Int) = (2 : Int) ^ k by simp]
    apply Int.emod_emod_of_dvd
    exact ⟨2 ^ (64 - k), by rw [← Int.pow_add, show k + (64 - k) = 64 by omega]; decide⟩
  rw [e4]
  have h5 : 0 ≤ x % 2 ^ k := Int.emod_nonneg _ (by have : (0:Int) < 2 ^ k := Int.pow_pos (by decide); omega)
  have h6 : x % 2 ^ k < 2 ^ k := Int.emod_lt_of_pos _ (Int.pow_pos (by decide))
  have h7 : ((2 : Int) ^ k) < 9223372036854775808 := by
    have : ((2 ^ k : Nat) : Int) < ((2 ^ 63 : Nat) : Int) := Int.ofNat_lt.2 hp
    simpa using this
  rw [wrap_i64_eq]; omega

theorem and_i64_2047 (x : Int) : bits .and .i64 x 2047 = x % 2048 := and_i64_mask x 11 (by decide)
theorem and_i64_255 (x : Int) : bits .and .i64 x 255 = x % 256 := and_i64_mask x 8 (by decide)
theorem and_i64_m52 (x : Int) : bits .and .i64 x 4503599627370495 = x % 4503599627370496 := and_i64_mask x 52 (by decide)
theorem and_i64_m23 (x : Int) : bits .and .i64 x 8388607 = x % 8388608 := and_i64_mask x 23 (by decide)
theorem xor_top (k n : Nat) (h : n < 2 ^ k) : 2 ^ k ^^^ n = 2 ^ k + n := by
  apply Nat.eq_of_testBit_eq
  intro i
  rw [Nat.testBit_xor, Nat.testBit_two_pow]
  rcases Nat.lt_trichotomy i k with hi | hi | hi
  · rw [Nat.testBit_two_pow_add_gt hi]
    simp [show ¬ k = i by omega]
  · subst hi
    rw [Nat.testBit_two_pow_add_eq, Nat.testBit_lt_two_pow h]; simp
  · have hk : 2 ^ (k + 1) ≤ 2 ^ i := Nat.pow_le_pow_right (by decide) hi
    rw [Nat.testBit_lt_two_pow (show n < 2 ^ i by rw [Nat.pow_succ] at hk; omega), Nat.testBit_lt_two_pow (show 2 ^ k + n < 2 ^ i by rw [Nat.pow_succ] at hk; omega)]
    simp [show ¬ k = i by omega]
theorem xor_top' (k m : Nat) (h : m < 2 ^ k) : (2 ^ k + m) ^^^ 2 ^ k = m := by
  rw [← xor_top k m h, Nat.xor_comm (2 ^ k) m, Nat.xor_assoc, Nat.xor_self, Nat.xor_zero]
theorem and_low (k m : Nat) (h : m < 2 ^ k) : (2 ^ k + m) &&& (2 ^ k - 1) = m := by
  rw [Nat.and_two_pow_sub_one_eq_mod, Nat.add_mod_left, Nat.mod_eq_of_lt h]
/-- the sign bit turned -/
theorem xor_i64_sign (x : Int) (h0 : -9223372036854775808 ≤ x) (h1 : x < 9223372036854775808) : bits .xor .i64 x (-9223372036854775808) = if x < 0 then x + 9223372036854775808 else x - 9223372036854775808 := by
  rw [bits_xor64, show ((-9223372036854775808 : Int) % 18446744073709551616).toNat = 2 ^ 63 from by decide, wrap_i64_eq]
  split
  · rw [show (x % 18446744073709551616).toNat = 2 ^ 63 + (x + 9223372036854775808).toNat by omega, xor_top' 63 _ (by omega)]; omega
  · rw [Nat.xor_comm, xor_top 63 _ (by omega)]; omega
/-- the sign bit left away -/
theorem andNot_i64_sign (x : Int) (h0 : -9223372036854775808 ≤ x) (h1 : x < 9223372036854775808) : bits .andNot .i64 x (-9223372036854775808) = if x < 0 then x + 9223372036854775808 else x := by
  rw [bits_andNot64, show (18446744073709551615 - ((-9223372036854775808 : Int) % 18446744073709551616).toNat) = 2 ^ 63 - 1 from by decide, wrap_i64_eq, Nat.and_two_pow_sub_one_eq_mod]
  split <;> omega
/-- the sign bit set -/
theorem or_i64_sign (x : Int) (h0 : 0 ≤ x) (h1 : x < 9223372036854775808) : bits .or .i64 x (-9223372036854775808) = x - 9223372036854775808 := by
  rw [bits_or64, show ((-9223372036854775808 : Int) % 18446744073709551616).toNat = 2 ^ 63 from by decide, wrap_i64_eq, Nat.or_comm, nat_join 63 _ _ (by decide) (by omega)]
  omega
theorem or_i64_sign32 (x : Int) (h0 : 0 ≤ x) (h1 : x < 2147483648) : bits .or .i64 x 2147483648 = x + 2147483648 := by
  rw [bits_or64, show ((2147483648 : Int) % 18446744073709551616).toNat = 2 ^ 31 from by decide, wrap_i64_eq, Nat.or_comm, nat_join 31 _ _ (by decide) (by omega)]
  omega
theorem xor_i64_sign32 (x : Int) (h0 : 0 ≤ x) (h1 : x < 4294967296) : bits .xor .i64 x 2147483648 = if x < 2147483648 then x + 2147483648 else x - 2147483648 := by
  rw [bits_xor64, show ((2147483648 : Int) % 18446744073709551616).toNat = 2 ^ 31 from by decide, wrap_i64_eq]
  split
  · rw [Nat.xor_comm, xor_top 31 _ (by omega)]; omega
  · rw [show (x % 18446744073709551616).toNat = 2 ^ 31 + (x - 2147483648).toNat by omega, xor_top' 31 _ (by omega)]; omega
/-- '^x' -/
theorem not_i64 (x : Int) (h0 : -9223372036854775808 ≤ x) (h1 : x < 9223372036854775808) : bits .xor .i64 (-1) x = -1 - x := by
  rw [bits_xor64, show ((-1 : Int) % 18446744073709551616).toNat = 2 ^ 64 - 1 from by decide, wrap_i64_eq]
  have : (2 ^ 64 - 1) ^^^ (x % 18446744073709551616).toNat = 2 ^ 64 - 1 - (x % 18446744073709551616).toNat := by
    apply Nat.eq_of_testBit_eq
    intro i
    rw [Nat.testBit_xor, Nat.testBit_two_pow_sub_one, show 2 ^ 64 - 1 - (x % 18446744073709551616).toNat = 2 ^ 64 - ((x % 18446744073709551616).toNat + 1) by omega,
      Nat.testBit_two_pow_sub_succ (by omega)]
    by_cases hi : i < 64
    · simp [hi]
    · have : (x % 18446744073709551616).toNat.testBit i = false := Nat.testBit_lt_two_pow (Nat.lt_of_lt_of_le (by omega : _ < 2 ^ 64) (Nat.pow_le_pow_right (by decide) (by omega)))
      simp [hi, this]
  rw [this]; omega
/-! the fields of a binary64's pattern -/
def fld (b : Int) : Int := b / 4503599627370496 % 2048
def frc (b : Int) : Int := b % 4503599627370496
def fld32 (b : Int) : Int := b / 8388608 % 256
def frc32 (b : Int) : Int := b % 8388608
/-- the class, off the field and the fraction -/
def cls (b : Int) : Int := if fld b = 2047 then (if frc b = 0 then 3 else 4) else if fld b = 0 then (if frc b = 0 then 0 else 1) else 2
def cls32 (b : Int) : Int := if b < 0 ∨ 4294967296 ≤ b then 4 else if fld32 b = 255 then (if frc32 b = 0 then 3 else 4) else if fld32 b = 0 then (if frc32 b = 0 then 0 else 1) else 2
def pok (b : Int) : Bool := !decide (fld b = 2047)
def pneg (b : Int) : Bool := pok b && decide (b < 0)
def pmag (b : Int) : Int := if fld b = 2047 then 0 else if fld b = 0 then frc b else 4503599627370496 + frc b
def pexp (b : Int) : Int := if fld b = 2047 then 0 else if fld b = 0 then -1074 else fld b - 1075
def in32 (b : Int) : Bool := decide (0 ≤ b ∧ b < 4294967296)
def pok32 (b : Int) : Bool := in32 b && !decide (fld32 b = 255)
def pneg32 (b : Int) : Bool := pok32 b && decide (2147483648 ≤ b)
def pmag32 (b : Int) : Int := if pok32 b then (if fld32 b = 0 then frc32 b else 8388608 + frc32 b) else 0
def pexp32 (b : Int) : Int := if pok32 b then (if fld32 b = 0 then -149 else fld32 b - 150) else 0
def nan : Int := 9221120237041090561
def inf : Int := 9218868437227405312
def nan32 : Int := 2143289345
def inf32 : Int := 2139095040
def neg (b : Int) : Int := if cls b = 4 then 9221120237041090561 else if b < 0 then b + 9223372036854775808 else b - 9223372036854775808
def abs (b : Int) : Int := if cls b = 4 then 9221120237041090561 else if b < 0 then b + 9223372036854775808 else b
def canon (b : Int) : Int := if cls b = 4 then 9221120237041090561 else if cls b = 0 then 0 else b
def next (b : Int) : Int := if cls b = 4 then 9221120237041090561 else if b = 9218868437227405312 then b else if b = -9223372036854775808 then 1 else if b < 0 then b - 1 else b + 1
def prev (b : Int) : Int := neg (next (neg b))
def neg32 (b : Int) : Int := if cls32 b = 4 then 2143289345 else if b < 2147483648 then b + 2147483648 else b - 2147483648
def next32 (b : Int) : Int := if cls32 b = 4 then 2143289345 else if b = 2139095040 then b else if b = 2147483648 then 1 else if 2147483648 < b then b - 1 else b + 1
def prev32 (b : Int) : Int := neg32 (next32 (neg32 b))
/-- an int's range -/
def rng (b : Int) : Prop := -9223372036854775808 ≤ b ∧ b < 9223372036854775808
theorem fld_le (b : Int) : 0 ≤ fld b ∧ fld b < 2048 := by unfold fld; omega
theorem frc_le (b : Int) : 0 ≤ frc b ∧ frc b < 4503599627370496 := by unfold frc; omega
theorem fld32_le (b : Int) : 0 ≤ fld32 b ∧ fld32 b < 256 := by unfold fld32; omega
theorem frc32_le (b : Int) : 0 ≤ frc32 b ∧ frc32 b < 8388608 := by unfold frc32; omega
theorem cls_le (b : Int) : 0 ≤ cls b ∧ cls b ≤ 4 := by unfold cls; repeat' split <;> omega
theorem cls4 {b : Int} : cls b = 4 ↔ fld b = 2047 ∧ frc b ≠ 0 := by
  unfold cls; repeat' split
  all_goals omega
theorem cls4_not {b : Int} (h : ¬ cls b = 4) : fld b ≠ 2047 ∨ frc b = 0 := by
  rw [cls4] at h; omega
theorem rng_neg {b : Int} (h : rng b) : rng (neg b) := by
  unfold rng neg at *; repeat' split
  all_goals omega
theorem rng_next {b : Int} (h : rng b) : rng (next b) := by
  unfold rng next at *; repeat' split
  · omega
  · omega
  · omega
  · omega
  · rename_i h1 h2 h3 h4
    have := cls4_not h1
    unfold fld frc at this
    omega
theorem rng_nan : rng 9221120237041090561 := by unfold rng; omega
theorem cls_nan : cls 9221120237041090561 = 4 := by decide
theorem neg_neg {b : Int} (h : rng b) (hc : ¬ cls b = 4) : neg (neg b) = b := by
  have hc' := cls4_not hc
  have key : ¬ cls (if b < 0 then b + 9223372036854775808 else b - 9223372036854775808) = 4 := by
    rw [cls4]
    unfold fld frc at *
    split <;> omega
  unfold rng at h
  unfold neg
  simp only [hc, if_false, key]
  split <;> split <;> omega
theorem cls32_in {b : Int} (h : ¬ cls32 b = 4) : 0 ≤ b ∧ b < 4294967296 := by
  unfold cls32 at h; split at h <;> omega
theorem rng_neg32 {b : Int} (h : rng b) : rng (neg32 b) := by
  unfold rng neg32 at *; repeat' split
  · omega
  · rename_i h1 h2; have := cls32_in h1; omega
  · rename_i h1 h2; have := cls32_in h1; omega
theorem rng_next32 {b : Int} (h : rng b) : rng (next32 b) := by
  unfold rng next32 at *; repeat' split
  · omega
  all_goals rename_i h1 h2; omega
/-- the class, as the document's answer tells it -/
def rcls (f t most : Int) : Int := if f = most then (if t = 0 then 3 else 4) else if 0 < f then 2 else if 0 < t then 1 else 0
theorem rcls_cls (b : Int) : rcls (fld b) (frc b) 2047 = cls b := by
  have := fld_le b; have := frc_le b
  unfold rcls cls; repeat' split
  all_goals omega
theorem rcls_cls32 (b : Int) (h : in32 b = true) : rcls (fld32 b) (frc32 b) 255 = cls32 b := by
  have := fld32_le b; have := frc32_le b
  have hb := of_decide_eq_true h
  unfold rcls cls32; repeat' split
  all_goals omega
theorem pok_cls (b : Int) : pok b = decide (cls b < 3) := by
  unfold pok cls
  by_cases h : fld b = 2047 <;> by_cases h2 : frc b = 0 <;> by_cases h3 : fld b = 0 <;> simp [h, h2, h3]
theorem parts_sub {b : Int} (h : cls b = 0 ∨ cls b = 1) : decide (b < 0) = pneg b ∧ frc b = pmag b ∧ -1074 = pexp b ∧ true = pok b := by
  unfold cls at h; unfold pneg pmag pexp pok
  by_cases h1 : fld b = 2047 <;> by_cases h2 : frc b = 0 <;> by_cases h3 : fld b = 0 <;> simp [h1, h2, h3] at h ⊢
theorem parts_norm {b : Int} (h : cls b = 2) : decide (b < 0) = pneg b ∧ 4503599627370496 + frc b = pmag b ∧ fld b - 1075 = pexp b ∧ true = pok b := by
  unfold cls at h; unfold pneg pmag pexp pok
  by_cases h1 : fld b = 2047 <;> by_cases h2 : frc b = 0 <;> by_cases h3 : fld b = 0 <;> simp [h1, h2, h3] at h ⊢
theorem parts_not {b : Int} (h0 : ¬ cls b = 0) (h1 : ¬ cls b = 1) (h2 : ¬ cls b = 2) : false = pneg b ∧ 0 = pmag b ∧ 0 = pexp b ∧ false = pok b := by
  unfold cls at h0 h1 h2; unfold pneg pmag pexp pok
  by_cases k1 : fld b = 2047 <;> by_cases k2 : frc b = 0 <;> by_cases k3 : fld b = 0 <;> simp [k1, k2, k3] at h0 h1 h2 ⊢
theorem parts32_sub {b : Int} (h : cls32 b = 0 ∨ cls32 b = 1) : decide (2147483648 ≤ b) = pneg32 b ∧ frc32 b = pmag32 b ∧ -149 = pexp32 b ∧ true = pok32 b := by
  have hb := cls32_in (b := b) (by omega)
  have hi : in32 b = true := decide_eq_true hb
  unfold cls32 at h; unfold pneg32 pmag32 pexp32 pok32
  rw [if_neg (by omega)] at h
  by_cases h1 : fld32 b = 255 <;> by_cases h2 : frc32 b = 0 <;> by_cases h3 : fld32 b = 0 <;> simp [h1, h2, h3, hi] at h ⊢
theorem parts32_norm {b : Int} (h : cls32 b = 2) : decide (2147483648 ≤ b) = pneg32 b ∧ 8388608 + frc32 b = pmag32 b ∧ fld32 b - 150 = pexp32 b ∧ true = pok32 b := by
  have hb := cls32_in (b := b) (by omega)
  have hi : in32 b = true := decide_eq_true hb
  unfold cls32 at h; unfold pneg32 pmag32 pexp32 pok32
  rw [if_neg (by omega)] at h
  by_cases h1 : fld32 b = 255 <;> by_cases h2 : frc32 b = 0 <;> by_cases h3 : fld32 b = 0 <;> simp [h1, h2, h3, hi] at h ⊢
theorem parts32_not {b : Int} (h0 : ¬ cls32 b = 0) (h1 : ¬ cls32 b = 1) (h2 : ¬ cls32 b = 2) : false = pneg32 b ∧ 0 = pmag32 b ∧ 0 = pexp32 b ∧ false = pok32 b := by
  have hp : pok32 b = false := by
    by_cases hi : in32 b = true
    · have hb := of_decide_eq_true hi
      unfold cls32 at h0 h1 h2; rw [if_neg (by omega)] at h0 h1 h2; unfold pok32
      by_cases k1 : fld32 b = 255 <;> by_cases k2 : frc32 b = 0 <;> by_cases k3 : fld32 b = 0 <;> simp [k1, k2, k3] at h0 h1 h2 ⊢
    · simp [pok32, hi]
  simp [pneg32, pmag32, pexp32, hp]
/-- the word of a pattern -/
def wd (b : Int) : Nat := (b % 18446744073709551616).toNat
end Go.Proofs.YtmjdlcbiaglkeaaDoor.M

/-
  Plain mathematics of floats: the order of words is the order of signed rungs; less, same and the order of all patterns. No Go text in sight.
-/
namespace Go.Proofs.YtmjdlcbiaglkeaaDoor.M
open Go Ieee
set_option linter.unusedSimpArgs false
set_option linter.unusedVariables false

/-- the magnitude of a rung, in units of the least place -/
def V (f : Format) (r : Nat) : Nat := if r < f.binade then r else (f.binade + r % f.binade) * 2 ^ (r / f.binade - 1)

theorem binade_pos (f : Format) : 0 < f.binade := Nat.two_pow_pos _
theorem V_succ (f : Format) (r : Nat) : V f r < V f (r + 1) := by
  have hB := binade_pos f
  unfold V
  generalize hBd : f.binade = B at *
  clear hBd
  by_cases h1 : r + 1 < B
  · rw [if_pos (by omega), if_pos h1]; omega
  · rw [if_neg h1]
    by_cases h2 : r < B
    · have : r + 1 = B := by omega
      rw [if_pos h2, this, Nat.mod_self, Nat.div_self hB]; simp; omega
    · rw [if_neg h2]
      have hq : 1 ≤ r / B := (Nat.one_le_div_iff hB).2 (by omega)
      have hd := Nat.div_add_mod r B
      have hm := Nat.mod_lt r hB
      have hp : 0 < 2 ^ (r / B - 1) := Nat.two_pow_pos _
      by_cases h3 : r % B + 1 < B
      · have e1 : (r + 1) % B = r % B + 1 := by
          rw [Nat.add_mod, Nat.mod_eq_of_lt (show 1 < B by omega)]; exact Nat.mod_eq_of_lt h3
        have e2 : (r + 1) / B = r / B := by
          have := Nat.div_add_mod (r + 1) B
          rw [e1] at this
          have h4 : B * ((r + 1) / B) = B * (r / B) := by omega
          exact Nat.eq_of_mul_eq_mul_left hB h4
        rw [e1, e2]
        exact Nat.mul_lt_mul_of_pos_right (by omega) hp
      · have h4 : r % B + 1 = B := by omega
        have e0 : r + 1 = B * (r / B + 1) := by rw [Nat.mul_add, Nat.mul_one]; omega
        have e1 : (r + 1) % B = 0 := by rw [e0]; exact Nat.mul_mod_right _ _
        have e2 : (r + 1) / B = r / B + 1 := by rw [e0]; exact Nat.mul_div_cancel_left _ hB
        rw [e1, e2]
        have e3 : 2 ^ (r / B + 1 - 1) = 2 * 2 ^ (r / B - 1) := by
          rw [show r / B + 1 - 1 = (r / B - 1) + 1 by omega, Nat.pow_succ, Nat.mul_comm]
        rw [e3, Nat.add_zero, ← Nat.mul_assoc]
        exact Nat.mul_lt_mul_of_pos_right (by omega) hp
theorem V_lt (f : Format) {r s : Nat} (h : r < s) : V f r < V f s := by
  induction s with
  | zero => omega
  | succ s ih =>
    rcases Nat.lt_or_ge r s with h1 | h1
    · exact Nat.lt_trans (ih h1) (V_succ f s)
    · have : r = s := by omega
      subst this
      exact V_succ f r
theorem V_lt_iff (f : Format) (r s : Nat) : V f r < V f s ↔ r < s := by
  constructor
  · intro h
    rcases Nat.lt_trichotomy r s with h1 | h1 | h1
    · exact h1
    · subst h1; omega
    · have := V_lt f h1; omega
  · exact V_lt f
theorem V_zero (f : Format) : V f 0 = 0 := by unfold V; rw [if_pos (binade_pos f)]

/-- a finite word's reading: its magnitude in units of the least place is V of its rung -/
theorem read_finite (f : Format) (x : Nat) (h : x % f.signWeight < f.infRung) :
    ∃ m u : Nat, f.read x = .number (x / f.signWeight % 2 == 1) m (f.leastPlace + u) ∧ m * 2 ^ u = V f (x % f.signWeight) := by
  unfold Format.read V
  dsimp only
  by_cases h1 : x % f.signWeight < f.binade
  · rw [if_pos h1, if_pos h1]
    exact ⟨x % f.signWeight, 0, by simp, by simp⟩
  · rw [if_neg h1, if_pos h, if_neg h1]
    exact ⟨_, _, rfl, rfl⟩
theorem read_inf (f : Format) (hI : f.binade ≤ f.infRung) (x : Nat) (h : x % f.signWeight = f.infRung) : f.read x = .infinity (x / f.signWeight % 2 == 1) := by
  unfold Format.read
  dsimp only
  rw [h, if_neg (by omega), if_neg (by omega), if_pos rfl]
theorem read_nan (f : Format) (hI : f.binade ≤ f.infRung) (x : Nat) (h : f.infRung < x % f.signWeight) : ∃ s t, f.read x = .nan s t := by
  unfold Format.read
  dsimp only
  rw [if_neg (by omega), if_neg (by omega), if_neg (by omega)]
  exact ⟨_, _, rfl⟩
theorem order_nan (f : Format) (hI : f.binade ≤ f.infRung) (x y : Nat) (h : f.infRung < x % f.signWeight ∨ f.infRung < y % f.signWeight) : f.order x y = none := by
  unfold Format.order
  rcases h with h | h
  · obtain ⟨s, t, e⟩ := read_nan f hI x h
    rw [e]; rfl
  · obtain ⟨s, t, e⟩ := read_nan f hI y h
    rw [e]; cases f.read x <;> rfl
theorem compare_scale (x y k : Int) (hk : 0 < k) : compare (x * k) (y * k) = compare x y := by
  simp only [compare, compareOfLessAndEq]
  have h1 : x * k < y * k ↔ x < y := ⟨fun h => Int.lt_of_mul_lt_mul_right h (Int.le_of_lt hk), fun h => Int.mul_lt_mul_of_pos_right h hk⟩
  have h2 : x * k = y * k ↔ x = y := ⟨fun h => Int.eq_of_mul_eq_mul_right (by omega) h, fun h => by rw [h]⟩
  simp only [h1, h2]
theorem signed_scale (s : Bool) (m u k : Nat) : signed s m u * ((2 ^ k : Nat) : Int) = signed s m (u + k) := by
  unfold signed
  have e : ((m <<< u : Nat) : Int) * ((2 ^ k : Nat) : Int) = ((m <<< (u + k) : Nat) : Int) := by
    rw [Nat.shiftLeft_eq, Nat.shiftLeft_eq, Nat.pow_add, ← Nat.mul_assoc]
    exact (Int.natCast_mul _ _).symm
  split
  · rw [Int.neg_mul, e]
  · exact e
/-- the sign and the rung as one number -/
def skey (neg : Bool) (r : Nat) : Int := if neg then -(r : Int) else r
theorem order_number (s t : Bool) (m n : Nat) (l : Int) (u v : Nat) :
    (Datum.number s m (l + u)).order (Datum.number t n (l + v)) = some (compare (signed s m u) (signed t n v)) := by
  unfold Datum.order
  dsimp only
  have hmin : min (l + (u : Int)) (l + (v : Int)) = l + ((min u v : Nat) : Int) := by omega
  have a : (l + (u : Int) - (l + ((min u v : Nat) : Int))).toNat = u - min u v := by omega
  have b : (l + (v : Int) - (l + ((min u v : Nat) : Int))).toNat = v - min u v := by omega
  rw [hmin, a, b, ← compare_scale _ _ ((2 ^ min u v : Nat) : Int) (by exact_mod_cast Nat.two_pow_pos _), signed_scale, signed_scale,
    show u - min u v + min u v = u by omega, show v - min u v + min u v = v by omega]
theorem signed_V (s : Bool) (m u : Nat) : signed s m u = if s then -((m * 2 ^ u : Nat) : Int) else ((m * 2 ^ u : Nat) : Int) := by
  unfold signed; rw [Nat.shiftLeft_eq]
theorem compare_int (a b c d : Int) (h1 : a < b ↔ c < d) (h2 : b < a ↔ d < c) : compare a b = compare c d := by
  simp only [compare, compareOfLessAndEq]
  by_cases h : a < b
  · rw [if_pos h, if_pos (h1.1 h)]
  · rw [if_neg h, if_neg (fun k => h (h1.2 k))]
    by_cases k : b < a
    · rw [if_neg (by omega), if_neg (by have := h2.1 k; omega)]
    · rw [if_pos (by omega), if_pos (by have := fun z => k (h2.2 z); have := fun z => h (h1.2 z); omega)]
theorem order_finite (f : Format) (x y : Nat) (hx : x % f.signWeight < f.infRung) (hy : y % f.signWeight < f.infRung) :
    f.order x y = some (compare (skey (x / f.signWeight % 2 == 1) (x % f.signWeight)) (skey (y / f.signWeight % 2 == 1) (y % f.signWeight))) := by
  obtain ⟨m, u, e1, k1⟩ := read_finite f x hx
  obtain ⟨n, v, e2, k2⟩ := read_finite f y hy
  unfold Format.order
  rw [e1, e2, order_number, signed_V, signed_V, k1, k2]
  congr 1
  generalize x % f.signWeight = r
  generalize y % f.signWeight = q
  have a := V_lt_iff f r q
  have b := V_lt_iff f q r
  have a0 := V_lt_iff f 0 r
  have b0 := V_lt_iff f 0 q
  rw [V_zero] at a0 b0
  unfold skey
  cases (x / f.signWeight % 2 == 1) <;> cases (y / f.signWeight % 2 == 1) <;> simp only [if_true, if_false, Bool.false_eq_true] <;> apply compare_int <;> omega
theorem compare_lt {a b : Int} (h : a < b) : compare a b = .lt := by simp only [compare, compareOfLessAndEq]; rw [if_pos h]
theorem compare_gt {a b : Int} (h : b < a) : compare a b = .gt := by simp only [compare, compareOfLessAndEq]; rw [if_neg (by omega), if_neg (by omega)]
theorem compare_eq {a b : Int} (h : a = b) : compare a b = .eq := by simp only [compare, compareOfLessAndEq]; rw [if_neg (by omega), if_pos h]
theorem order_all (f : Format) (hI : f.binade ≤ f.infRung) (x y : Nat) (hx : x % f.signWeight ≤ f.infRung) (hy : y % f.signWeight ≤ f.infRung) :
    f.order x y = some (compare (skey (x / f.signWeight % 2 == 1) (x % f.signWeight)) (skey (y / f.signWeight % 2 == 1) (y % f.signWeight))) := by
  have hB := binade_pos f
  rcases Nat.lt_or_ge (x % f.signWeight) f.infRung with h1 | h1
  · rcases Nat.lt_or_ge (y % f.signWeight) f.infRung with h2 | h2
    · exact order_finite f x y h1 h2
    · have e2 := read_inf f hI y (by omega)
      obtain ⟨m, u, e1, _⟩ := read_finite f x h1
      have h2' : y % f.signWeight = f.infRung := by omega
      unfold Format.order skey
      rw [e1, e2, h2']
      cases (x / f.signWeight % 2 == 1) <;> cases (y / f.signWeight % 2 == 1) <;> simp only [if_true, if_false, Bool.false_eq_true, Datum.order]
      · rw [compare_lt (by omega)]
      · rw [compare_gt (by omega)]
      · rw [compare_lt (by omega)]
      · rw [compare_gt (by omega)]
  · have e1 := read_inf f hI x (by omega)
    have h1' : x % f.signWeight = f.infRung := by omega
    rcases Nat.lt_or_ge (y % f.signWeight) f.infRung with h2 | h2
    · obtain ⟨n, v, e2, _⟩ := read_finite f y h2
      unfold Format.order skey
      rw [e1, e2, h1']
      cases (x / f.signWeight % 2 == 1) <;> cases (y / f.signWeight % 2 == 1) <;> simp only [if_true, if_false, Bool.false_eq_true, Datum.order]
      · rw [compare_gt (by omega)]
      · rw [compare_gt (by omega)]
      · rw [compare_lt (by omega)]
      · rw [compare_lt (by omega)]
    · have e2 := read_inf f hI y (by omega)
      have h2' : y % f.signWeight = f.infRung := by omega
      unfold Format.order skey
      rw [e1, e2, h1', h2']
      cases (x / f.signWeight % 2 == 1) <;> cases (y / f.signWeight % 2 == 1) <;> simp only [if_true, if_false, Bool.false_eq_true, Datum.order]
      · rw [compare_eq rfl]; rfl
      · rw [compare_gt (by omega)]; rfl
      · rw [compare_lt (by omega)]; rfl
      · rw [compare_eq rfl]; rfl

/-- a pattern's sign and rung as one number -/
def key (b : Int) : Int := if b < 0 then -(b + 9223372036854775808) else b
theorem dSign : Ieee.double.signWeight = 9223372036854775808 := by decide
theorem dInf : Ieee.double.infRung = 9218868437227405312 := by decide
theorem dOk : Ieee.double.binade ≤ Ieee.double.infRung := by decide
theorem wd_rung {b : Int} (h : rng b) : ((wd b % 9223372036854775808 : Nat) : Int) = if b < 0 then b + 9223372036854775808 else b := by
  unfold rng at h; unfold wd; split <;> omega
theorem wd_neg {b : Int} (h : rng b) : (wd b / 9223372036854775808 % 2 == 1) = decide (b < 0) := by
  unfold rng at h; unfold wd
  rw [Bool.eq_iff_iff]; simp only [beq_iff_eq, decide_eq_true_eq]; omega
theorem cls4_rung {b : Int} (h : rng b) : cls b = 4 ↔ 9218868437227405312 < wd b % 9223372036854775808 := by
  have := wd_rung h
  rw [cls4]; unfold rng at h; unfold fld frc
  split at this <;> omega
theorem skey_key {b : Int} (h : rng b) : skey (wd b / 9223372036854775808 % 2 == 1) (wd b % 9223372036854775808) = key b := by
  rw [wd_neg h]; unfold skey key; rw [wd_rung h]
  by_cases hb : b < 0 <;> simp [hb]
theorem order64 {a b : Int} (ha : rng a) (hb : rng b) (h1 : ¬ cls a = 4) (h2 : ¬ cls b = 4) : FloatKind.f64.format.order (wd a) (wd b) = some (compare (key a) (key b)) := by
  rw [cls4_rung ha] at h1; rw [cls4_rung hb] at h2
  have := order_all Ieee.double dOk (wd a) (wd b) (by rw [dSign, dInf]; omega) (by rw [dSign, dInf]; omega)
  rw [dSign, skey_key ha, skey_key hb] at this
  exact this
theorem order64_nan {a b : Int} (ha : rng a) (hb : rng b) (h : cls a = 4 ∨ cls b = 4) : FloatKind.f64.format.order (wd a) (wd b) = none := by
  refine order_nan Ieee.double dOk _ _ ?_
  rw [dSign, dInf]
  rcases h with h | h
  · exact .inl ((cls4_rung ha).1 h)
  · exact .inr ((cls4_rung hb).1 h)
def less (a b : Int) : Bool := !decide (cls a = 4) && (!decide (cls b = 4) && decide (key a < key b))
def same (a b : Int) : Bool := !decide (cls a = 4) && (!decide (cls b = 4) && decide (key a = key b))
theorem less_order {a b : Int} (ha : rng a) (hb : rng b) : (FloatKind.f64.format.order (wd a) (wd b) == some .lt) = less a b := by
  unfold less
  by_cases h1 : cls a = 4
  · rw [order64_nan ha hb (.inl h1)]; simp [h1]
  · by_cases h2 : cls b = 4
    · rw [order64_nan ha hb (.inr h2)]; simp [h2]
    · rw [order64 ha hb h1 h2]
      simp only [h1, h2, decide_false, Bool.not_false, Bool.true_and]
      rcases Int.lt_trichotomy (key a) (key b) with h | h | h
      · rw [compare_lt h]; simp [h]
      · rw [compare_eq h]; simp [h]
      · rw [compare_gt h]; simp; omega
theorem same_order {a b : Int} (ha : rng a) (hb : rng b) : (FloatKind.f64.format.order (wd a) (wd b) == some .eq) = same a b := by
  unfold same
  by_cases h1 : cls a = 4
  · rw [order64_nan ha hb (.inl h1)]; simp [h1]
  · by_cases h2 : cls b = 4
    · rw [order64_nan ha hb (.inr h2)]; simp [h2]
    · rw [order64 ha hb h1 h2]
      simp only [h1, h2, decide_false, Bool.not_false, Bool.true_and]
      rcases Int.lt_trichotomy (key a) (key b) with h | h | h
      · rw [compare_lt h]; simp; omega
      · rw [compare_eq h]; simp [h]
      · rw [compare_gt h]; simp; omega
/-- where a pattern that is a number stands among all, -0 ahead of 0 -/
def place (b : Int) : Int := if b < 0 then -(b + 9223372036854775808) - 1 else b
theorem cls0 {b : Int} (h : rng b) : cls b = 0 ↔ b = 0 ∨ b = -9223372036854775808 := by
  unfold rng at h
  unfold cls fld frc; repeat' split
  all_goals omega
theorem place_canon {b : Int} (h : rng b) (h4 : ¬ cls b = 4) : place (canon b) = if b = 0 ∨ b = -9223372036854775808 then 0 else if b < 0 then key b - 1 else key b := by
  unfold canon; rw [if_neg h4]
  have := cls0 h
  unfold rng at h
  unfold place key
  by_cases hc : cls b = 0
  · rw [if_pos hc, if_pos (this.1 hc)]; simp
  · rw [if_neg hc, if_neg (fun k => hc (this.2 k))]
    split <;> rfl
theorem less_place {a b : Int} (ha : rng a) (hb : rng b) (h1 : ¬ cls a = 4) (h2 : ¬ cls b = 4) : decide (place (canon a) < place (canon b)) = less a b := by
  unfold less
  simp only [h1, h2, decide_false, Bool.not_false, Bool.true_and]
  rw [place_canon ha h1, place_canon hb h2]
  unfold rng at ha hb
  congr 1
  unfold key
  apply propext
  repeat' split
  all_goals omega
theorem same_canon {a b : Int} (ha : rng a) (hb : rng b) : (!decide (cls a = 4) && decide (canon a = canon b)) = same a b := by
  unfold same canon
  have ca := cls0 ha
  have cb := cls0 hb
  by_cases h1 : cls a = 4
  · simp [h1]
  · have na := cls4_not h1
    by_cases h2 : cls b = 4
    · simp only [h1, h2, if_true, if_false, decide_false, decide_true, Bool.not_false, Bool.not_true, Bool.true_and, Bool.false_and]
      have : ¬ cls (9221120237041090561) = 0 := by decide
      unfold rng at ha
      unfold fld frc at na
      split
      · simp
      · simp; omega
    · simp only [h1, h2, if_false, decide_false, Bool.not_false, Bool.true_and]
      unfold rng at ha hb
      unfold key
      congr 1
      apply propext
      by_cases h3 : cls a = 0 <;> by_cases h4 : cls b = 0
      all_goals simp only [h3, h4, if_true, if_false]
      · rcases ca.1 h3 with rfl | rfl <;> rcases cb.1 h4 with rfl | rfl <;> simp
      · have := ca.1 h3; have : ¬ (b = 0 ∨ b = -9223372036854775808) := fun k => h4 (cb.2 k)
        repeat' split
        all_goals omega
      · have := cb.1 h4; have : ¬ (a = 0 ∨ a = -9223372036854775808) := fun k => h3 (ca.2 k)
        repeat' split
        all_goals omega
      · have : ¬ (b = 0 ∨ b = -9223372036854775808) := fun k => h4 (cb.2 k)
        have : ¬ (a = 0 ∨ a = -9223372036854775808) := fun k => h3 (ca.2 k)
        repeat' split
        all_goals omega
def b_ord (a b : Int) : Int := if cls a = 4 then (if cls b = 4 then 0 else 1) else if cls b = 4 then -1 else if place a < place b then -1 else if place b < place a then 1 else 0
def rank (b : Int) : Int := if cls b = 4 then 9223372036854775807 else place b
def cmp (x y : Int) : Int := if x < y then -1 else if y < x then 1 else 0
theorem place_lt {b : Int} (h : rng b) (h4 : ¬ cls b = 4) : place b < 9223372036854775807 ∧ -9223372036854775808 ≤ place b := by
  have n := cls4_not h4
  unfold rng at h; unfold place; unfold fld frc at n
  split <;> omega
theorem rank_rng {b : Int} (h : rng b) : rng (rank b) := by
  unfold rank; split
  · unfold rng; omega
  · rename_i h4; have := place_lt h h4; unfold rng; omega
theorem cmp_rank {a b : Int} (ha : rng a) (hb : rng b) : cmp (rank a) (rank b) = b_ord a b := by
  unfold cmp rank b_ord
  by_cases h1 : cls a = 4 <;> by_cases h2 : cls b = 4
  · simp [h1, h2]
  · have := place_lt hb h2
    simp only [h1, h2, if_true, if_false]
    rw [if_neg (by omega), if_pos (by omega)]
  · have := place_lt ha h1
    simp only [h1, h2, if_true, if_false]
    rw [if_pos (by omega)]
  · simp only [h1, h2, if_false]
theorem rng_canon {b : Int} (h : rng b) : rng (canon b) := by
  unfold canon; repeat' split
  · unfold rng; omega
  · unfold rng; omega
  · exact h
end Go.Proofs.YtmjdlcbiaglkeaaDoor.M

/-
  Plain mathematics of Join: the odd part of a whole number, its length, how far it is shifted; the document's two loops come to the same. No Go text in sight.
-/
namespace Go.Proofs.YtmjdlcbiaglkeaaDoor.M
open Go
set_option linter.unusedSimpArgs false
set_option linter.unusedVariables false

/-- how often 2 divides; the odd part -/
def jz (mag : Int) : Nat := Lib.ctz 64 mag.toNat
def jo (mag : Int) : Int := mag / 2 ^ jz mag
def jl (mag : Int) : Int := Lib.bitLen (jo mag).toNat
/-- room above the odd part; the shift; the exponent above the least one -/
def jsp (fr mag : Int) : Int := fr + 1 - jl mag
def jsh (fr least mag exp : Int) : Int := min (jsp fr mag) (exp + jz mag - least)
def jab (fr least mag exp : Int) : Int := exp + jz mag - jsh fr least mag exp - least
def jgood (fr top least mag exp : Int) : Bool := decide (0 ≤ jsp fr mag) && (decide (least ≤ exp + jz mag) && decide (jab fr least mag exp ≤ top - 2))
def jk (fr top least mag exp : Int) : Bool := if mag < 0 then false else if mag = 0 then true else jgood fr top least mag exp
def jv (fr top least mag exp : Int) : Int := if mag ≤ 0 then 0 else if jgood fr top least mag exp then jab fr least mag exp * 2 ^ fr.toNat + jo mag * 2 ^ (jsh fr least mag exp).toNat else 0

theorem bitLen_spec (n : Nat) (h : n < 2 ^ 64) (h0 : n ≠ 0) : 2 ^ (Lib.bitLen n - 1) ≤ n ∧ n < 2 ^ Lib.bitLen n ∧ 1 ≤ Lib.bitLen n ∧ Lib.bitLen n ≤ 64 := by
  have hl : Lib.bitLen n ≤ 64 := Lib.bitLen_le n 64 (by omega) h
  -- by halving
  have main : ∀ f n : Nat, n < 2 ^ f → f ≤ 64 → n ≠ 0 → 2 ^ (Lib.bitLen n - 1) ≤ n ∧ n < 2 ^ Lib.bitLen n ∧ 1 ≤ Lib.bitLen n := by
    intro f
    induction f with
    | zero => intro n h _ h0; simp at h; omega
    | succ f ih =>
      intro n h hf h0
      have h64 : n < 2 ^ 64 := Nat.lt_of_lt_of_le h (Nat.pow_le_pow_right (by decide) hf)
      have e := Lib.bitLen_half n h0 h64
      by_cases h2 : n / 2 = 0
      · have h1 : n = 1 := by omega
        subst h1
        have : Lib.bitLen 1 = 1 := by decide +kernel
        rw [this]; decide
      · obtain ⟨a, b, c⟩ := ih (n / 2) (by rw [Nat.pow_succ] at h; omega) (by omega) h2
        obtain ⟨m, hm⟩ : ∃ m, Lib.bitLen (n / 2) = m + 1 := ⟨Lib.bitLen (n / 2) - 1, by omega⟩
        rw [e, hm]
        rw [hm] at a b
        simp only [Nat.add_sub_cancel] at a
        refine ⟨?_, ?_, by omega⟩
        · rw [show 1 + (m + 1) - 1 = m + 1 by omega, Nat.pow_succ]; omega
        · rw [show 1 + (m + 1) = m + 1 + 1 by omega, Nat.pow_succ]; omega
  obtain ⟨a, b, c⟩ := main 64 n h (by omega) h0
  exact ⟨a, b, c, hl⟩
/-- a length is known by the two powers around it -/
theorem bitLen_lt (n k : Nat) (h : n < 2 ^ 64) (h0 : n ≠ 0) : n < 2 ^ k ↔ Lib.bitLen n ≤ k := by
  obtain ⟨a, b, c, d⟩ := bitLen_spec n h h0
  constructor
  · intro hk
    apply Nat.le_of_not_lt
    intro hlt
    have : 2 ^ k ≤ 2 ^ (Lib.bitLen n - 1) := Nat.pow_le_pow_right (by decide) (by omega)
    omega
  · intro hk
    exact Nat.lt_of_lt_of_le b (Nat.pow_le_pow_right (by decide) hk)
theorem jz_spec {mag : Int} (h0 : 0 < mag) (h : mag < 9223372036854775808) : ∃ m : Nat, mag = 2 ^ jz mag * (2 * m + 1) ∧ jz mag < 63 ∧ jo mag = 2 * m + 1 := by
  unfold jo jz
  obtain ⟨n, rfl⟩ := Int.eq_ofNat_of_zero_le (Int.le_of_lt h0)
  have hn : n ≠ 0 := by omega
  simp only [Int.toNat_natCast]
  obtain ⟨m, hm, hk⟩ := Lib.ctzFrom_spec 64 n (by omega) (by omega)
  have e : Lib.ctz 64 n = Lib.ctzFrom 64 n := by simp [Lib.ctz, hn]
  rw [e]
  have hp : 0 < 2 ^ Lib.ctzFrom 64 n := Nat.two_pow_pos _
  have hz : Lib.ctzFrom 64 n < 63 := by
    apply Nat.lt_of_not_le
    intro hle
    have : 2 ^ 63 ≤ 2 ^ Lib.ctzFrom 64 n := Nat.pow_le_pow_right (by decide) hle
    have : 2 ^ Lib.ctzFrom 64 n ≤ n := by
      rw (occs := .pos [2]) [hm]
      exact Nat.le_mul_of_pos_right _ (by omega)
    omega
  have hm' : (n : Int) = 2 ^ Lib.ctzFrom 64 n * (2 * (m : Int) + 1) := by
    have : ((2 ^ Lib.ctzFrom 64 n * (2 * m + 1) : Nat) : Int) = 2 ^ Lib.ctzFrom 64 n * (2 * (m : Int) + 1) := by
      rw [Int.natCast_mul]; simp
    rw [← this, ← hm]
  refine ⟨m, hm', hz, ?_⟩
  have hpi : (0 : Int) < 2 ^ Lib.ctzFrom 64 n := Int.pow_pos (by decide)
  rw (occs := .pos [1]) [hm']
  exact Int.mul_ediv_cancel_left _ (by omega)
theorem jo_le {mag : Int} (h0 : 0 < mag) (h : mag < 9223372036854775808) : 1 ≤ jo mag ∧ jo mag ≤ mag := by
  obtain ⟨m, a, b, c⟩ := jz_spec h0 h
  have hp : (0 : Int) < 2 ^ jz mag := Int.pow_pos (by decide)
  have : (2 * (m : Int) + 1) * 1 ≤ (2 * (m : Int) + 1) * 2 ^ jz mag := Int.mul_le_mul_of_nonneg_left (by omega) (by omega)
  rw [Int.mul_comm _ (2 ^ jz mag), ← a] at this
  omega
theorem jl_le {mag : Int} (h0 : 0 < mag) (h : mag < 9223372036854775808) : 1 ≤ jl mag ∧ jl mag ≤ 63 := by
  obtain ⟨a, b⟩ := jo_le h0 h
  have s := bitLen_spec (jo mag).toNat (by omega) (by omega)
  unfold jl
  have := (bitLen_lt (jo mag).toNat 63 (by omega) (by omega)).1 (by omega)
  omega
/-- what the odd part comes to, shifted -/
theorem jshift_lt {fr mag : Int} (h0 : 0 < mag) (h : mag < 9223372036854775808) (hf : 0 ≤ fr) (s : Nat) (hs : (s : Int) ≤ jsp fr mag) : 1 ≤ jo mag * 2 ^ s ∧ jo mag * 2 ^ s < 2 ^ (fr.toNat + 1) := by
  obtain ⟨a, b⟩ := jo_le h0 h
  have sp := bitLen_spec (jo mag).toNat (by omega) (by omega)
  unfold jsp jl at hs
  have hp : (0 : Int) < 2 ^ s := Int.pow_pos (by decide)
  constructor
  · have : (1 : Int) * 1 ≤ jo mag * 2 ^ s := Int.mul_le_mul a (by omega) (by omega) (by omega)
    omega
  · have h1 : (jo mag).toNat * 2 ^ s < 2 ^ (Lib.bitLen (jo mag).toNat) * 2 ^ s := Nat.mul_lt_mul_of_pos_right sp.2.1 (Nat.two_pow_pos _)
    rw [← Nat.pow_add] at h1
    have h2 : 2 ^ (Lib.bitLen (jo mag).toNat + s) ≤ 2 ^ (fr.toNat + 1) := Nat.pow_le_pow_right (by decide) (by omega)
    have h3 : (jo mag).toNat * 2 ^ s < 2 ^ (fr.toNat + 1) := Nat.lt_of_lt_of_le h1 h2
    have h4 : (((jo mag).toNat * 2 ^ s : Nat) : Int) < ((2 ^ (fr.toNat + 1) : Nat) : Int) := Int.ofNat_lt.2 h3
    rw [Int.natCast_mul, Int.toNat_of_nonneg (by omega)] at h4
    simpa using h4
theorem jgood_far {mag exp : Int} (h0 : 0 < mag) (h : mag < 9223372036854775808) (hf : 1025 < exp) : jgood 52 2047 (-1074) mag exp = false := by
  have := jl_le h0 h
  unfold jgood jab jsh jsp
  simp; intro _ _; omega
theorem jgood_far32 {mag exp : Int} (h0 : 0 < mag) (h : mag < 9223372036854775808) (hf : 129 < exp) : jgood 23 255 (-149) mag exp = false := by
  have := jl_le h0 h
  unfold jgood jab jsh jsp
  simp; intro _ _; omega
theorem jv_le {mag exp : Int} (hm : rng mag) : 0 ≤ jv 52 2047 (-1074) mag exp ∧ jv 52 2047 (-1074) mag exp < 9218868437227405312 := by
  unfold rng at hm
  unfold jv
  by_cases h0 : mag ≤ 0
  · rw [if_pos h0]; omega
  · rw [if_neg h0]
    by_cases hk : jgood 52 2047 (-1074) mag exp = true
    · rw [if_pos hk]
      unfold jgood at hk
      simp only [Bool.and_eq_true, decide_eq_true_eq] at hk
      have hl := jl_le (mag := mag) (by omega) hm.2
      have hs : 0 ≤ jsh 52 (-1074) mag exp ∧ jsh 52 (-1074) mag exp ≤ jsp 52 mag := by unfold jsh; omega
      have hb := jshift_lt (fr := 52) (mag := mag) (by omega) hm.2 (by omega) (jsh 52 (-1074) mag exp).toNat (by omega)
      have hb2 : jo mag * 2 ^ (jsh 52 (-1074) mag exp).toNat < 9007199254740992 := hb.2
      have ha : 0 ≤ jab 52 (-1074) mag exp := by unfold jab jsh; omega
      -- a normal number's highest bit is counted into the field
      have e : (2 : Int) ^ (52 : Int).toNat = 4503599627370496 := by decide
      rw [e]
      omega
    · rw [if_neg hk]; omega
theorem jv_le32 {mag exp : Int} (hm : rng mag) : 0 ≤ jv 23 255 (-149) mag exp ∧ jv 23 255 (-149) mag exp < 2139095040 := by
  unfold rng at hm
  unfold jv
  by_cases h0 : mag ≤ 0
  · rw [if_pos h0]; omega
  · rw [if_neg h0]
    by_cases hk : jgood 23 255 (-149) mag exp = true
    · rw [if_pos hk]
      unfold jgood at hk
      simp only [Bool.and_eq_true, decide_eq_true_eq] at hk
      have hl := jl_le (mag := mag) (by omega) hm.2
      have hs : 0 ≤ jsh 23 (-149) mag exp ∧ jsh 23 (-149) mag exp ≤ jsp 23 mag := by unfold jsh; omega
      have hb := jshift_lt (fr := 23) (mag := mag) (by omega) hm.2 (by omega) (jsh 23 (-149) mag exp).toNat (by omega)
      have hb2 : jo mag * 2 ^ (jsh 23 (-149) mag exp).toNat < 16777216 := hb.2
      have ha : 0 ≤ jab 23 (-149) mag exp := by unfold jab jsh; omega
      have e : (2 : Int) ^ (23 : Int).toNat = 8388608 := by decide
      rw [e]
      omega
    · rw [if_neg hk]; omega
/-- halving: how the document's first loop goes -/
theorem halved {mag : Int} (h0 : 0 < mag) (h : mag < 9223372036854775808) (k : Nat) (hk : k < jz mag) : mag / 2 ^ k % 2 = 0 ∧ mag / 2 ^ k / 2 = mag / 2 ^ (k + 1) ∧ 0 < mag / 2 ^ k ∧ mag / 2 ^ k < 9223372036854775808 := by
  obtain ⟨m, a, b, c⟩ := jz_spec h0 h
  have hp : (0 : Int) < 2 ^ k := Int.pow_pos (by decide)
  have e1 : mag / 2 ^ k = 2 ^ (jz mag - k) * (2 * m + 1) := by
    rw (occs := .pos [1]) [a]
    rw [show jz mag = k + (jz mag - k) by omega, Int.pow_add, Int.mul_assoc]
    rw [show k + (jz mag - k) - k = jz mag - k by omega]
    exact Int.mul_ediv_cancel_left _ (by omega)
  have e2 : (2 : Int) ^ (jz mag - k) = 2 * 2 ^ (jz mag - k - 1) := by
    rw [show jz mag - k = (jz mag - k - 1) + 1 by omega, Int.pow_succ, Int.mul_comm]
    simp
  have hq : (0 : Int) < 2 ^ (jz mag - k) := Int.pow_pos (by decide)
  refine ⟨?_, ?_, ?_, ?_⟩
  · rw [e1, e2, Int.mul_assoc]; exact Int.mul_emod_right _ _
  · rw [Int.pow_succ, Int.ediv_ediv_of_nonneg (by omega)]
  · rw [e1]; exact Int.mul_pos hq (by omega)
  · have : mag / 2 ^ k ≤ mag := Int.ediv_le_self _ (by omega)
    omega
theorem halved_end {mag : Int} (h0 : 0 < mag) (h : mag < 9223372036854775808) : jo mag % 2 = 1 := by
  obtain ⟨m, a, b, c⟩ := jz_spec h0 h
  omega
/-- doubling: how the document's second loop goes -/
theorem doubled {fr mag : Int} (h0 : 0 < mag) (h : mag < 9223372036854775808) (hf : 0 ≤ fr) (j : Nat) : jo mag * 2 ^ j < 2 ^ fr.toNat ↔ (j : Int) < jsp fr mag := by
  obtain ⟨a, b⟩ := jo_le h0 h
  have sp := bitLen_spec (jo mag).toNat (by omega) (by omega)
  unfold jsp jl
  have hc : ((((jo mag).toNat * 2 ^ j : Nat)) : Int) = jo mag * 2 ^ j := by
    rw [Int.natCast_mul, Int.toNat_of_nonneg (by omega)]; simp
  have hd : ((2 ^ fr.toNat : Nat) : Int) = 2 ^ fr.toNat := by simp
  rw [← hc, ← hd, Int.ofNat_lt]
  constructor
  · intro hlt
    have h1 : 2 ^ (Lib.bitLen (jo mag).toNat - 1) * 2 ^ j ≤ (jo mag).toNat * 2 ^ j := Nat.mul_le_mul_right _ sp.1
    rw [← Nat.pow_add] at h1
    have h2 : 2 ^ (Lib.bitLen (jo mag).toNat - 1 + j) < 2 ^ fr.toNat := by omega
    have := (Nat.pow_lt_pow_iff_right (by decide : 1 < 2)).1 h2
    omega
  · intro hlt
    have h1 : (jo mag).toNat * 2 ^ j < 2 ^ (Lib.bitLen (jo mag).toNat) * 2 ^ j := Nat.mul_lt_mul_of_pos_right sp.2.1 (Nat.two_pow_pos _)
    rw [← Nat.pow_add] at h1
    exact Nat.lt_of_lt_of_le h1 (Nat.pow_le_pow_right (by decide) (by omega))
/-- what the document's shifted answers -/
def sk (fr low mag exp : Int) : Bool := decide (0 ≤ jsp fr mag) && decide (low ≤ exp + jz mag)
def sm (fr low mag exp : Int) : Int := if sk fr low mag exp then jo mag * 2 ^ (jsh fr low mag exp).toNat else 0
def se (fr low mag exp : Int) : Int := if sk fr low mag exp then exp + jz mag - jsh fr low mag exp else 0
/-- Join's pattern, with its sign -/
def jp (neg : Bool) (mag exp : Int) : Int := if jk 52 2047 (-1074) mag exp && neg then jv 52 2047 (-1074) mag exp - 9223372036854775808 else jv 52 2047 (-1074) mag exp
def jp32 (neg : Bool) (mag exp : Int) : Int := if jk 23 255 (-149) mag exp && neg then jv 23 255 (-149) mag exp + 2147483648 else jv 23 255 (-149) mag exp
theorem jgood_near {mag exp : Int} (h0 : 0 < mag) (h : mag < 9223372036854775808) (hf : exp < -2000) : jgood 52 2047 (-1074) mag exp = false := by
  obtain ⟨_, _, a, _⟩ := jz_spec h0 h
  unfold jgood; simp; intro _ _; omega
theorem jgood_near32 {mag exp : Int} (h0 : 0 < mag) (h : mag < 9223372036854775808) (hf : exp < -2000) : jgood 23 255 (-149) mag exp = false := by
  obtain ⟨_, _, a, _⟩ := jz_spec h0 h
  unfold jgood; simp; intro _ _; omega
theorem jgood_sk (mag exp : Int) : jgood 52 2047 (-1074) mag exp = (sk 52 (-1074) mag exp && decide (se 52 (-1074) mag exp ≤ 971)) := by
  unfold jgood se jab
  by_cases h : sk 52 (-1074) mag exp = true
  · rw [if_pos h, h]
    unfold sk at h
    simp only [Bool.and_eq_true, decide_eq_true_eq] at h
    simp only [h.1, h.2, decide_true, Bool.true_and]
    congr 1; apply propext; omega
  · have h' : sk 52 (-1074) mag exp = false := by simpa using h
    rw [h']
    unfold sk at h'
    simp only [Bool.false_and]
    simp only [Bool.and_eq_false_iff, decide_eq_false_iff_not] at h' ⊢
    omega
/-- the pattern, off what shifted answers -/
theorem jv_sm {mag exp : Int} (h0 : 0 < mag) (h : mag < 9223372036854775808) (hk : sk 52 (-1074) mag exp = true) (he : se 52 (-1074) mag exp ≤ 971) :
    1 ≤ sm 52 (-1074) mag exp ∧ sm 52 (-1074) mag exp < 9007199254740992 ∧ -1074 ≤ se 52 (-1074) mag exp ∧
    jv 52 2047 (-1074) mag exp = (if sm 52 (-1074) mag exp < 4503599627370496 then sm 52 (-1074) mag exp else (se 52 (-1074) mag exp + 1075) * 4503599627370496 + sm 52 (-1074) mag exp - 4503599627370496) := by
  have hg : jgood 52 2047 (-1074) mag exp = true := by rw [jgood_sk, hk]; simpa using he
  have hk' := hk
  unfold sk at hk'
  simp only [Bool.and_eq_true, decide_eq_true_eq] at hk'
  have hs : 0 ≤ jsh 52 (-1074) mag exp ∧ jsh 52 (-1074) mag exp ≤ jsp 52 mag ∧ jsh 52 (-1074) mag exp ≤ exp + jz mag + 1074 := by unfold jsh; omega
  have hb := jshift_lt (fr := 52) h0 h (by omega) (jsh 52 (-1074) mag exp).toNat (by omega)
  have hb2 : jo mag * 2 ^ (jsh 52 (-1074) mag exp).toNat < 9007199254740992 := hb.2
  have hd := doubled (fr := 52) h0 h (by omega) (jsh 52 (-1074) mag exp).toNat
  rw [show (2 : Int) ^ (52 : Int).toNat = 4503599627370496 by decide] at hd
  have es : sm 52 (-1074) mag exp = jo mag * 2 ^ (jsh 52 (-1074) mag exp).toNat := by unfold sm; rw [if_pos hk]
  have ee : se 52 (-1074) mag exp = exp + jz mag - jsh 52 (-1074) mag exp := by unfold se; rw [if_pos hk]
  rw [es, ee]
  refine ⟨hb.1, hb2, by omega, ?_⟩
  unfold jv jab
  rw [if_neg (by omega), if_pos hg, show (2 : Int) ^ (52 : Int).toNat = 4503599627370496 by decide]
  split
  · rename_i hlt
    have := hd.1 hlt
    have : jsh 52 (-1074) mag exp = exp + jz mag + 1074 := by unfold jsh at *; omega
    omega
  · omega
theorem jgood_sk32 (mag exp : Int) : jgood 23 255 (-149) mag exp = (sk 23 (-149) mag exp && decide (se 23 (-149) mag exp ≤ 104)) := by
  unfold jgood se jab
  by_cases h : sk 23 (-149) mag exp = true
  · rw [if_pos h, h]
    unfold sk at h
    simp only [Bool.and_eq_true, decide_eq_true_eq] at h
    simp only [h.1, h.2, decide_true, Bool.true_and]
    congr 1; apply propext; omega
  · have h' : sk 23 (-149) mag exp = false := by simpa using h
    rw [h']
    unfold sk at h'
    simp only [Bool.false_and]
    simp only [Bool.and_eq_false_iff, decide_eq_false_iff_not] at h' ⊢
    omega
/-- the pattern, off what shifted answers -/
theorem jv_sm32 {mag exp : Int} (h0 : 0 < mag) (h : mag < 9223372036854775808) (hk : sk 23 (-149) mag exp = true) (he : se 23 (-149) mag exp ≤ 104) :
    1 ≤ sm 23 (-149) mag exp ∧ sm 23 (-149) mag exp < 16777216 ∧ -149 ≤ se 23 (-149) mag exp ∧
    jv 23 255 (-149) mag exp = (if sm 23 (-149) mag exp < 8388608 then sm 23 (-149) mag exp else (se 23 (-149) mag exp + 150) * 8388608 + sm 23 (-149) mag exp - 8388608) := by
  have hg : jgood 23 255 (-149) mag exp = true := by rw [jgood_sk32, hk]; simpa using he
  have hk' := hk
  unfold sk at hk'
  simp only [Bool.and_eq_true, decide_eq_true_eq] at hk'
  have hs : 0 ≤ jsh 23 (-149) mag exp ∧ jsh 23 (-149) mag exp ≤ jsp 23 mag ∧ jsh 23 (-149) mag exp ≤ exp + jz mag + 149 := by unfold jsh; omega
  have hb := jshift_lt (fr := 23) h0 h (by omega) (jsh 23 (-149) mag exp).toNat (by omega)
  have hb2 : jo mag * 2 ^ (jsh 23 (-149) mag exp).toNat < 16777216 := hb.2
  have hd := doubled (fr := 23) h0 h (by omega) (jsh 23 (-149) mag exp).toNat
  rw [show (2 : Int) ^ (23 : Int).toNat = 8388608 by decide] at hd
  have es : sm 23 (-149) mag exp = jo mag * 2 ^ (jsh 23 (-149) mag exp).toNat := by unfold sm; rw [if_pos hk]
  have ee : se 23 (-149) mag exp = exp + jz mag - jsh 23 (-149) mag exp := by unfold se; rw [if_pos hk]
  rw [es, ee]
  refine ⟨hb.1, hb2, by omega, ?_⟩
  unfold jv jab
  rw [if_neg (by omega), if_pos hg, show (2 : Int) ^ (23 : Int).toNat = 8388608 by decide]
  split
  · rename_i hlt
    have := hd.1 hlt
    have : jsh 23 (-149) mag exp = exp + jz mag + 149 := by unfold jsh at *; omega
    omega
  · omega
end Go.Proofs.YtmjdlcbiaglkeaaDoor.M
