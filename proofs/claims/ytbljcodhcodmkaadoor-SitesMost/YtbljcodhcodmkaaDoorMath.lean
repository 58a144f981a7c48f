/-
  Plain mathematics behind package bits: masks of 64-bit ints, fields of patterns. No Go text in sight.
-/
import Derived.WalkKit
import Derived.Laws.MathBits
import Derived.Lib.TrailingZeros
namespace Go.Proofs.YtbljcodhcodmkaaDoor.M
open Go
set_option linter.unusedSimpArgs false
set_option linter.unusedVariables false

/-! signed 64-bit masks -/
theorem ofInt64_toNat (x : Int) : (BitVec.ofInt 64 x).toNat = (x % 18446744073709551616).toNat := by
  simp [BitVec.toNat_ofInt]
theorem bits_and64 (x y : Int) : bits .and .i64 x y = IntKind.i64.wrap (((x % 18446744073709551616).toNat &&& (y % 18446744073709551616).toNat : Nat) : Int) := by
  show IntKind.i64.wrap (((BitVec.ofInt 64 x &&& BitVec.ofInt 64 y).toNat : Nat) : Int) = _
  rw [BitVec.toNat_and, ofInt64_toNat, ofInt64_toNat]
theorem wrap_i64_eq (n : Int) : IntKind.i64.wrap n = (n + 9223372036854775808) % 18446744073709551616 - 9223372036854775808 := by
  simp only [IntKind.wrap, IntKind.bits, IntKind.signed]
  simp
  split <;> omega

theorem and_i64_mask (x : Int) (k : Nat) (hk : k < 63) : bits .and .i64 x (2 ^ k - 1) = x % 2 ^ k := by
  have hp : (2:Nat) ^ k < 2 ^ 63 := Nat.pow_lt_pow_right (by decide) hk
  have hp0 : 0 < (2:Nat) ^ k := Nat.two_pow_pos k
  have e2 : ((2 : Int) ^ k - 1) = ((2 ^ k - 1 : Nat) : Int) := by
    rw [Int.ofNat_sub (by omega)]; simp
  have e3 : (((2 : Int) ^ k - 1) % 18446744073709551616).toNat = 2 ^ k - 1 := by
    rw [e2]; omega
  rw [bits_and64, e3, Nat.and_two_pow_sub_one_eq_mod]
  have e4 : (((x % 18446744073709551616).toNat % 2 ^ k : Nat) : Int) = x % 2 ^ k := by
    rw [Int.natCast_emod, Int.toNat_of_nonneg (Int.emod_nonneg _ (by decide))]
    rw [show ((2 ^ k : Nat) : Int) = (2 : Int) ^ k by simp]
    apply Int.emod_emod_of_dvd
    exact ⟨2 ^ (64 - k), by rw [← Int.pow_add, show k + (64 - k) = 64 by omega]; decide⟩
  rw [e4]
  have h5 : 0 ≤ x % 2 ^ k := Int.emod_nonneg _ (by have : (0:Int) < 2 ^ k := Int.pow_pos (by decide); omega)
  have h6 : x % 2 ^ k < 2 ^ k := Int.emod_lt_of_pos _ (Int.pow_pos (by decide))
  have h7 : ((2 : Int) ^ k) < 9223372036854775808 := by
    have : ((2 ^ k : Nat) : Int) < ((2 ^ 63 : Nat) : Int) := Int.ofNat_lt.2 hp
    simpa using this
  rw [wrap_i64_eq]; omega

theorem and_i64_2047 (x : Int) : bits .and .i64 x 2047 = x % 2048 := and_i64_mask x 11 (by decide)
theorem and_i64_255 (x : Int) : bits .and .i64 x 255 = x % 256 := and_i64_mask x 8 (by decide)
theorem and_i64_m52 (x : Int) : bits .and .i64 x 4503599627370495 = x % 4503599627370496 := and_i64_mask x 52 (by decide)
theorem and_i64_m23 (x : Int) : bits .and .i64 x 8388607 = x % 8388608 := and_i64_mask x 23 (by decide)
/-! the fields of a binary64's pattern -/
def fld (b : Int) : Int := b / 4503599627370496 % 2048
def frc (b : Int) : Int := b % 4503599627370496
def fld32 (b : Int) : Int := b / 8388608 % 256
def frc32 (b : Int) : Int := b % 8388608
/-- the class, off the field and the fraction -/
def cls (b : Int) : Int := if fld b = 2047 then (if frc b = 0 then 3 else 4) else if fld b = 0 then (if frc b = 0 then 0 else 1) else 2
def cls32 (b : Int) : Int := if b < 0 ∨ 4294967296 ≤ b then 4 else if fld32 b = 255 then (if frc32 b = 0 then 3 else 4) else if fld32 b = 0 then (if frc32 b = 0 then 0 else 1) else 2
def pok (b : Int) : Bool := !decide (fld b = 2047)
def in32 (b : Int) : Bool := decide (0 ≤ b ∧ b < 4294967296)
def pok32 (b : Int) : Bool := in32 b && !decide (fld32 b = 255)
def pneg32 (b : Int) : Bool := pok32 b && decide (2147483648 ≤ b)
def pmag32 (b : Int) : Int := if pok32 b then (if fld32 b = 0 then frc32 b else 8388608 + frc32 b) else 0
def pexp32 (b : Int) : Int := if pok32 b then (if fld32 b = 0 then -149 else fld32 b - 150) else 0
def nan : Int := 9221120237041090561
def neg (b : Int) : Int := if cls b = 4 then 9221120237041090561 else if b < 0 then b + 9223372036854775808 else b - 9223372036854775808
def canon (b : Int) : Int := if cls b = 4 then 9221120237041090561 else if cls b = 0 then 0 else b
/-- an int's range -/
def rng (b : Int) : Prop := -9223372036854775808 ≤ b ∧ b < 9223372036854775808
theorem fld32_le (b : Int) : 0 ≤ fld32 b ∧ fld32 b < 256 := by unfold fld32; omega
theorem frc32_le (b : Int) : 0 ≤ frc32 b ∧ frc32 b < 8388608 := by unfold frc32; omega
theorem cls4 {b : Int} : cls b = 4 ↔ fld b = 2047 ∧ frc b ≠ 0 := by
  unfold cls; repeat' split
  all_goals omega
/-- the word of a pattern -/
def wd (b : Int) : Nat := (b % 18446744073709551616).toNat
end Go.Proofs.YtbljcodhcodmkaaDoor.M
