/-
  Points: plain mathematics of coordinates: finite ones, their order, tame ones. No Go text in sight.
-/
import Derived.Test.YtbljcodhcodmkaaDoorMathF
import Derived.Test.YtbljcodhcodmkaaDoorMathV
namespace Go.Proofs.YtbljcodhcodmkaaDoor.M
open Go Ieee
set_option linter.unusedSimpArgs false
set_option linter.unusedVariables false

theorem q_rg {b : Int} (h : rng b) : rng (rg b) ∧ 0 ≤ rg b := by unfold rng rg at *; split <;> omega
theorem q_cls {b : Int} (h : rng b) : cls (rg b) = cls b := by
  unfold rng at h; unfold cls rg fld frc
  by_cases h0 : b < 0
  · rw [if_pos h0, show (b + 9223372036854775808) / 4503599627370496 % 2048 = b / 4503599627370496 % 2048 from by omega, show (b + 9223372036854775808) % 4503599627370496 = b % 4503599627370496 from by omega]
  · rw [if_neg h0]
theorem q_wd {b : Int} (h : rng b) : wd b % 9223372036854775808 = wd (rg b) := by unfold rng rg wd at *; split <;> omega
theorem q_key {b : Int} (h : 0 ≤ b) : key b = b := by unfold key; rw [if_neg (by omega)]
theorem q_wdlt (b : Int) : wd b < 18446744073709551616 := by unfold wd; omega
/-- the sign bit left away, of an unsigned word -/
theorem q_abs {b : Int} (h : rng b) : (bits .andNot .u64 (wd b) 9223372036854775808).toNat = wd (rg b) := by
  have e := q_wd h
  have l := q_wdlt b
  rw [← e]
  show (IntKind.u64.wrap (((BitVec.ofInt 64 (wd b : Int) &&& ~~~ BitVec.ofInt 64 9223372036854775808).toNat : Nat) : Int)).toNat = _
  rw [BitVec.toNat_and, BitVec.toNat_not, ofInt64_toNat, ofInt64_toNat, show (2 ^ 64 - 1 - ((9223372036854775808 : Int) % 18446744073709551616).toNat) = 2 ^ 63 - 1 from by decide, Nat.and_two_pow_sub_one_eq_mod, IntKind.wrap_u64]
  omega
theorem q_fin {b : Int} (h : pok b = true) : ¬ cls b = 4 := by
  have := pparts h
  unfold cls; rw [if_neg this]; split
  · split <;> omega
  · omega
theorem q_lt {a b : Int} (ha : rng a) (hb : rng b) (h1 : ¬ cls a = 4) (h2 : ¬ cls b = 4) (h : key a < key b) : FloatKind.f64.format.order (wd a) (wd b) = some .lt := by rw [order64 ha hb h1 h2, compare_lt h]
theorem q_gt {a b : Int} (ha : rng a) (hb : rng b) (h1 : ¬ cls a = 4) (h2 : ¬ cls b = 4) (h : key b < key a) : FloatKind.f64.format.order (wd a) (wd b) = some .gt := by rw [order64 ha hb h1 h2, compare_gt h]
theorem q_eq {a b : Int} (ha : rng a) (hb : rng b) (h1 : ¬ cls a = 4) (h2 : ¬ cls b = 4) (h : key a = key b) : FloatKind.f64.format.order (wd a) (wd b) = some .eq := by rw [order64 ha hb h1 h2, compare_eq h]
/-- tame coordinates -/
def tame (b : Int) : Bool := decide (rg b = 0) || (decide (3931642474694443008 ≤ rg b) && decide (rg b < 5282722362905591808))
theorem pok_rg' {b : Int} (h : rng b) : pok b = decide (rg b ≤ 9218868437227405311) := by
  obtain ⟨h0, h1⟩ := rg_parts h
  have h2 : 0 ≤ frc b ∧ frc b < 4503599627370496 := by unfold frc; omega
  have h3 : 0 ≤ fld b ∧ fld b < 2048 := by unfold fld; omega
  unfold pok
  by_cases e : fld b = 2047
  · simp [e]; omega
  · simp [e]; omega
end Go.Proofs.YtbljcodhcodmkaaDoor.M
