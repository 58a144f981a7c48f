/-
  Parts of the proof, one behind another.
-/
import Derived.WalkKit
import Derived.Laws.MathBits
import Derived.Lib.TrailingZeros
import Ieee.Arith
import GoSem.Core.Float
import Derived.Lib.BitFns
import Derived.Test.YthpachmmjjlomaaGreatDoorProg
import Derived.RowKit3
import Derived.Below
import Derived.Deep.QuietTactic
import Derived.BigQuiet
import Derived.Laws.Externs
import Derived.Laws.Cover2
namespace Go.Proofs.YthpachmmjjlomaaGreatDoor.M
open Go
set_option linter.unusedSimpArgs false
set_option linter.unusedVariables false
/-! signed 64-bit masks -/
theorem ofInt64_toNat (x : Int) : (BitVec.ofInt 64 x).toNat = (x % 18446744073709551616).toNat := by
  simp [BitVec.toNat_ofInt]
theorem bits_and64 (x y : Int) : bits .and .i64 x y = IntKind.i64.wrap (((x % 18446744073709551616).toNat &&& (y % 18446744073709551616).toNat : Nat) : Int) := by
  show IntKind.i64.wrap (((BitVec.ofInt 64 x &&& BitVec.ofInt 64 y).toNat : Nat) : Int) = _
  rw [BitVec.toNat_and, ofInt64_toNat, ofInt64_toNat]
theorem bits_or64 (x y : Int) : bits .or .i64 x y = IntKind.i64.wrap (((x % 18446744073709551616).toNat ||| (y % 18446744073709551616).toNat : Nat) : Int) := by
  show IntKind.i64.wrap (((BitVec.ofInt 64 x ||| BitVec.ofInt 64 y).toNat : Nat) : Int) = _
  rw [BitVec.toNat_or, ofInt64_toNat, ofInt64_toNat]
theorem bits_xor64 (x y : Int) : bits .xor .i64 x y = IntKind.i64.wrap (((x % 18446744073709551616).toNat ^^^ (y % 18446744073709551616).toNat : Nat) : Int) := by
  show IntKind.i64.wrap (((BitVec.ofInt 64 x ^^^ BitVec.ofInt 64 y).toNat : Nat) : Int) = _
  rw [BitVec.toNat_xor, ofInt64_toNat, ofInt64_toNat]
theorem wrap_i64_eq (n : Int) : IntKind.i64.wrap n = (n + 9223372036854775808) % 18446744073709551616 - 9223372036854775808 := by
  simp only [IntKind.wrap, IntKind.bits, IntKind.signed]
  simp
  split <;> omega
theorem and_i64_mask (x : Int) (k : Nat) (hk : k < 63) : bits .and .i64 x (2 ^ k - 1) = x % 2 ^ k := by
  have hp : (2:Nat) ^ k < 2 ^ 63 := Nat.pow_lt_pow_right (by decide) hk
  have hp0 : 0 < (2:Nat) ^ k := Nat.two_pow_pos k
  have e2 : ((2 : Int) ^ k - 1) = ((2 ^ k - 1 : Nat) : Int) := by
    rw [Int.ofNat_sub (by omega)]; simp
  have e3 : (((2 : Int) ^ k - 1) % 18446744073709551616).toNat = 2 ^ k - 1 := by
    rw [e2]; omega
  rw [bits_and64, e3, Nat.and_two_pow_sub_one_eq_mod]
  have e4 : (((x % 18446744073709551616).toNat % 2 ^ k : Nat) : Int) = x % 2 ^ k := by
    rw [Int.natCast_emod, Int.toNat_of_nonneg (Int.emod_nonneg _ (by decide))]
    rw [show ((2 ^ k : Nat) : Int) = (2 : Int) ^ k by simp]
    apply Int.emod_emod_of_dvd
    exact ⟨2 ^ (64 - k), by rw [<- Int.pow_add, show k + (64 - k) = 64 by omega]; decide⟩
  rw [e4]
  have h5 : 0 <= x % 2 ^ k := Int.emod_nonneg _ (by have : (0:Int) < 2 ^ k := Int.pow_pos (by decide); omega)
  have h6 : x % 2 ^ k < 2 ^ k := Int.emod_lt_of_pos _ (Int.pow_pos (by decide))
  have h7 : ((2 : Int) ^ k) < 9223372036854775808 := by
    have : ((2 ^ k : Nat) : Int) < ((2 ^ 63 : Nat) : Int) := Int.ofNat_lt.2 hp
    simpa using this
  rw [wrap_i64_eq]; omega
theorem and_i64_2047 (x : Int) : bits .and .i64 x 2047 = x % 2048 := and_i64_mask x 11 (by decide)
theorem and_i64_m52 (x : Int) : bits .and .i64 x 4503599627370495 = x % 4503599627370496 := and_i64_mask x 52 (by decide)
theorem xor_top (k n : Nat) (h : n < 2 ^ k) : 2 ^ k ^^^ n = 2 ^ k + n := by
  apply Nat.eq_of_testBit_eq
  intro i
  rw [Nat.testBit_xor, Nat.testBit_two_pow]
  rcases Nat.lt_trichotomy i k with hi | hi | hi
  . rw [Nat.testBit_two_pow_add_gt hi]
    simp [show ¬ k = i by omega]
  . subst hi
    rw [Nat.testBit_two_pow_add_eq, Nat.testBit_lt_two_pow h]; simp
  . have hk : 2 ^ (k + 1) <= 2 ^ i := Nat.pow_le_pow_right (by decide) hi
    rw [Nat.testBit_lt_two_pow (show n < 2 ^ i by rw [Nat.pow_succ] at hk; omega), Nat.testBit_lt_two_pow (show 2 ^ k + n < 2 ^ i by rw [Nat.pow_succ] at hk; omega)]
    simp [show ¬ k = i by omega]
theorem xor_top' (k m : Nat) (h : m < 2 ^ k) : (2 ^ k + m) ^^^ 2 ^ k = m := by
  rw [<- xor_top k m h, Nat.xor_comm (2 ^ k) m, Nat.xor_assoc, Nat.xor_self, Nat.xor_zero]
theorem xor_i64_sign (x : Int) (h0 : -9223372036854775808 <= x) (h1 : x < 9223372036854775808) : bits .xor .i64 x (-9223372036854775808) = if x < 0 then x + 9223372036854775808 else x - 9223372036854775808 := by
  rw [bits_xor64, show ((-9223372036854775808 : Int) % 18446744073709551616).toNat = 2 ^ 63 from by decide, wrap_i64_eq]
  split
  . rw [show (x % 18446744073709551616).toNat = 2 ^ 63 + (x + 9223372036854775808).toNat by omega, xor_top' 63 _ (by omega)]; omega
  . rw [Nat.xor_comm, xor_top 63 _ (by omega)]; omega
theorem or_i64_sign (x : Int) (h0 : 0 <= x) (h1 : x < 9223372036854775808) : bits .or .i64 x (-9223372036854775808) = x - 9223372036854775808 := by
  rw [bits_or64, show ((-9223372036854775808 : Int) % 18446744073709551616).toNat = 2 ^ 63 from by decide, wrap_i64_eq, Nat.or_comm, nat_join 63 _ _ (by decide) (by omega)]
  omega
/-! the fields of a binary64's pattern -/
def fld (b : Int) : Int := b / 4503599627370496 % 2048
def frc (b : Int) : Int := b % 4503599627370496
def cls (b : Int) : Int := if fld b = 2047 then (if frc b = 0 then 3 else 4) else if fld b = 0 then (if frc b = 0 then 0 else 1) else 2
def pok (b : Int) : Bool := !decide (fld b = 2047)
def pneg (b : Int) : Bool := pok b && decide (b < 0)
def pmag (b : Int) : Int := if fld b = 2047 then 0 else if fld b = 0 then frc b else 4503599627370496 + frc b
def pexp (b : Int) : Int := if fld b = 2047 then 0 else if fld b = 0 then -1074 else fld b - 1075
def nan : Int := 9221120237041090561
def neg (b : Int) : Int := if cls b = 4 then 9221120237041090561 else if b < 0 then b + 9223372036854775808 else b - 9223372036854775808
def abs (b : Int) : Int := if cls b = 4 then 9221120237041090561 else if b < 0 then b + 9223372036854775808 else b
def canon (b : Int) : Int := if cls b = 4 then 9221120237041090561 else if cls b = 0 then 0 else b
def next (b : Int) : Int := if cls b = 4 then 9221120237041090561 else if b = 9218868437227405312 then b else if b = -9223372036854775808 then 1 else if b < 0 then b - 1 else b + 1
def prev (b : Int) : Int := neg (next (neg b))
def rng (b : Int) : Prop := -9223372036854775808 <= b ∧ b < 9223372036854775808
theorem fld_le (b : Int) : 0 <= fld b ∧ fld b < 2048 := by unfold fld; omega
theorem frc_le (b : Int) : 0 <= frc b ∧ frc b < 4503599627370496 := by unfold frc; omega
theorem cls4 {b : Int} : cls b = 4 ↔ fld b = 2047 ∧ frc b ≠ 0 := by
  unfold cls; repeat' split
  all_goals omega
theorem cls4_not {b : Int} (h : ¬ cls b = 4) : fld b ≠ 2047 ∨ frc b = 0 := by
  rw [cls4] at h; omega
theorem rng_neg {b : Int} (h : rng b) : rng (neg b) := by
  unfold rng neg at *; repeat' split
  all_goals omega
theorem rng_next {b : Int} (h : rng b) : rng (next b) := by
  unfold rng next at *; repeat' split
  . omega
  . omega
  . omega
  . omega
  . rename_i h1 h2 h3 h4
    have := cls4_not h1
    unfold fld frc at this
    omega
theorem neg_neg {b : Int} (h : rng b) (hc : ¬ cls b = 4) : neg (neg b) = b := by
  have hc' := cls4_not hc
  have key : ¬ cls (if b < 0 then b + 9223372036854775808 else b - 9223372036854775808) = 4 := by
    rw [cls4]
    unfold fld frc at *
    split <;> omega
  unfold rng at h
  unfold neg
  simp only [hc, if_false, key]
  split <;> split <;> omega
def wd (b : Int) : Nat := (b % 18446744073709551616).toNat
end Go.Proofs.YthpachmmjjlomaaGreatDoor.M
namespace Go.Proofs.YthpachmmjjlomaaGreatDoor.M
open Go Ieee
set_option linter.unusedSimpArgs false
set_option linter.unusedVariables false
def V (f : Format) (r : Nat) : Nat := if r < f.binade then r else (f.binade + r % f.binade) * 2 ^ (r / f.binade - 1)
theorem binade_pos (f : Format) : 0 < f.binade := Nat.two_pow_pos _
theorem V_succ (f : Format) (r : Nat) : V f r < V f (r + 1) := by
  have hB := binade_pos f
  unfold V
  generalize hBd : f.binade = B at *
  clear hBd
  by_cases h1 : r + 1 < B
  . rw [if_pos (by omega), if_pos h1]; omega
  . rw [if_neg h1]
    by_cases h2 : r < B
    . have : r + 1 = B := by omega
      rw [if_pos h2, this, Nat.mod_self, Nat.div_self hB]; simp; omega
    . rw [if_neg h2]
      have hq : 1 <= r / B := (Nat.one_le_div_iff hB).2 (by omega)
      have hd := Nat.div_add_mod r B
      have hm := Nat.mod_lt r hB
      have hp : 0 < 2 ^ (r / B - 1) := Nat.two_pow_pos _
      by_cases h3 : r % B + 1 < B
      . have e1 : (r + 1) % B = r % B + 1 := by
          rw [Nat.add_mod, Nat.mod_eq_of_lt (show 1 < B by omega)]; exact Nat.mod_eq_of_lt h3
        have e2 : (r + 1) / B = r / B := by
          have := Nat.div_add_mod (r + 1) B
          rw [e1] at this
          have h4 : B * ((r + 1) / B) = B * (r / B) := by omega
          exact Nat.eq_of_mul_eq_mul_left hB h4
        rw [e1, e2]
        exact Nat.mul_lt_mul_of_pos_right (by omega) hp
      . have h4 : r % B + 1 = B := by omega
        have e0 : r + 1 = B * (r / B + 1) := by rw [Nat.mul_add, Nat.mul_one]; omega
        have e1 : (r + 1) % B = 0 := by rw [e0]; exact Nat.mul_mod_right _ _
        have e2 : (r + 1) / B = r / B + 1 := by rw [e0]; exact Nat.mul_div_cancel_left _ hB
        rw [e1, e2]
        have e3 : 2 ^ (r / B + 1 - 1) = 2 * 2 ^ (r / B - 1) := by
          rw [show r / B + 1 - 1 = (r / B - 1) + 1 by omega, Nat.pow_succ, Nat.mul_comm]
        rw [e3, Nat.add_zero, <- Nat.mul_assoc]
        exact Nat.mul_lt_mul_of_pos_right (by omega) hp
theorem V_lt (f : Format) {r s : Nat} (h : r < s) : V f r < V f s := by
  induction s with
  | zero => omega
  | succ s ih =>
    rcases Nat.lt_or_ge r s with h1 | h1
    . exact Nat.lt_trans (ih h1) (V_succ f s)
    . have : r = s := by omega
      subst this
      exact V_succ f r
theorem V_lt_iff (f : Format) (r s : Nat) : V f r < V f s ↔ r < s := by
  constructor
  . intro h
    rcases Nat.lt_trichotomy r s with h1 | h1 | h1
    . exact h1
    . subst h1; omega
    . have := V_lt f h1; omega
  . exact V_lt f
theorem V_zero (f : Format) : V f 0 = 0 := by unfold V; rw [if_pos (binade_pos f)]
theorem read_finite (f : Format) (x : Nat) (h : x % f.signWeight < f.infRung) :
    ∃ m u : Nat, f.read x = .number (x / f.signWeight % 2 == 1) m (f.leastPlace + u) ∧ m * 2 ^ u = V f (x % f.signWeight) := by
  unfold Format.read V
  dsimp only
  by_cases h1 : x % f.signWeight < f.binade
  . rw [if_pos h1, if_pos h1]
    exact ⟨x % f.signWeight, 0, by simp, by simp⟩
  . rw [if_neg h1, if_pos h, if_neg h1]
    exact ⟨_, _, rfl, rfl⟩
theorem read_inf (f : Format) (hI : f.binade <= f.infRung) (x : Nat) (h : x % f.signWeight = f.infRung) : f.read x = .infinity (x / f.signWeight % 2 == 1) := by
  unfold Format.read
  dsimp only
  rw [h, if_neg (by omega), if_neg (by omega), if_pos rfl]
theorem read_nan (f : Format) (hI : f.binade <= f.infRung) (x : Nat) (h : f.infRung < x % f.signWeight) : ∃ s t, f.read x = .nan s t := by
  unfold Format.read
  dsimp only
  rw [if_neg (by omega), if_neg (by omega), if_neg (by omega)]
  exact ⟨_, _, rfl⟩
theorem order_nan (f : Format) (hI : f.binade <= f.infRung) (x y : Nat) (h : f.infRung < x % f.signWeight ∨ f.infRung < y % f.signWeight) : f.order x y = none := by
  unfold Format.order
  rcases h with h | h
  . obtain ⟨s, t, e⟩ := read_nan f hI x h
    rw [e]; rfl
  . obtain ⟨s, t, e⟩ := read_nan f hI y h
    rw [e]; cases f.read x <;> rfl
theorem compare_scale (x y k : Int) (hk : 0 < k) : compare (x * k) (y * k) = compare x y := by
  simp only [compare, compareOfLessAndEq]
  have h1 : x * k < y * k ↔ x < y := ⟨fun h => Int.lt_of_mul_lt_mul_right h (Int.le_of_lt hk), fun h => Int.mul_lt_mul_of_pos_right h hk⟩
  have h2 : x * k = y * k ↔ x = y := ⟨fun h => Int.eq_of_mul_eq_mul_right (by omega) h, fun h => by rw [h]⟩
  simp only [h1, h2]
theorem signed_scale (s : Bool) (m u k : Nat) : signed s m u * ((2 ^ k : Nat) : Int) = signed s m (u + k) := by
  unfold signed
  have e : ((m <<< u : Nat) : Int) * ((2 ^ k : Nat) : Int) = ((m <<< (u + k) : Nat) : Int) := by
    rw [Nat.shiftLeft_eq, Nat.shiftLeft_eq, Nat.pow_add, <- Nat.mul_assoc]
    exact (Int.natCast_mul _ _).symm
  split
  . rw [Int.neg_mul, e]
  . exact e
def skey (neg : Bool) (r : Nat) : Int := if neg then -(r : Int) else r
theorem order_number (s t : Bool) (m n : Nat) (l : Int) (u v : Nat) :
    (Datum.number s m (l + u)).order (Datum.number t n (l + v)) = some (compare (signed s m u) (signed t n v)) := by
  unfold Datum.order
  dsimp only
  have hmin : min (l + (u : Int)) (l + (v : Int)) = l + ((min u v : Nat) : Int) := by omega
  have a : (l + (u : Int) - (l + ((min u v : Nat) : Int))).toNat = u - min u v := by omega
  have b : (l + (v : Int) - (l + ((min u v : Nat) : Int))).toNat = v - min u v := by omega
  rw [hmin, a, b, <- compare_scale _ _ ((2 ^ min u v : Nat) : Int) (by exact_mod_cast Nat.two_pow_pos _), signed_scale, signed_scale,
    show u - min u v + min u v = u by omega, show v - min u v + min u v = v by omega]
theorem signed_V (s : Bool) (m u : Nat) : signed s m u = if s then -((m * 2 ^ u : Nat) : Int) else ((m * 2 ^ u : Nat) : Int) := by
  unfold signed; rw [Nat.shiftLeft_eq]
theorem compare_int (a b c d : Int) (h1 : a < b ↔ c < d) (h2 : b < a ↔ d < c) : compare a b = compare c d := by
  simp only [compare, compareOfLessAndEq]
  by_cases h : a < b
  . rw [if_pos h, if_pos (h1.1 h)]
  . rw [if_neg h, if_neg (fun k => h (h1.2 k))]
    by_cases k : b < a
    . rw [if_neg (by omega), if_neg (by have := h2.1 k; omega)]
    . rw [if_pos (by omega), if_pos (by have := fun z => k (h2.2 z); have := fun z => h (h1.2 z); omega)]
theorem order_finite (f : Format) (x y : Nat) (hx : x % f.signWeight < f.infRung) (hy : y % f.signWeight < f.infRung) :
    f.order x y = some (compare (skey (x / f.signWeight % 2 == 1) (x % f.signWeight)) (skey (y / f.signWeight % 2 == 1) (y % f.signWeight))) := by
  obtain ⟨m, u, e1, k1⟩ := read_finite f x hx
  obtain ⟨n, v, e2, k2⟩ := read_finite f y hy
  unfold Format.order
  rw [e1, e2, order_number, signed_V, signed_V, k1, k2]
  congr 1
  generalize x % f.signWeight = r
  generalize y % f.signWeight = q
  have a := V_lt_iff f r q
  have b := V_lt_iff f q r
  have a0 := V_lt_iff f 0 r
  have b0 := V_lt_iff f 0 q
  rw [V_zero] at a0 b0
  unfold skey
  cases (x / f.signWeight % 2 == 1) <;> cases (y / f.signWeight % 2 == 1) <;> simp only [if_true, if_false, Bool.false_eq_true] <;> apply compare_int <;> omega
theorem compare_lt {a b : Int} (h : a < b) : compare a b = .lt := by simp only [compare, compareOfLessAndEq]; rw [if_pos h]
theorem compare_gt {a b : Int} (h : b < a) : compare a b = .gt := by simp only [compare, compareOfLessAndEq]; rw [if_neg (by omega), if_neg (by omega)]
theorem compare_eq {a b : Int} (h : a = b) : compare a b = .eq := by simp only [compare, compareOfLessAndEq]; rw [if_neg (by omega), if_pos h]
theorem order_all (f : Format) (hI : f.binade <= f.infRung) (x y : Nat) (hx : x % f.signWeight <= f.infRung) (hy : y % f.signWeight <= f.infRung) :
    f.order x y = some (compare (skey (x / f.signWeight % 2 == 1) (x % f.signWeight)) (skey (y / f.signWeight % 2 == 1) (y % f.signWeight))) := by
  have hB := binade_pos f
  rcases Nat.lt_or_ge (x % f.signWeight) f.infRung with h1 | h1
  . rcases Nat.lt_or_ge (y % f.signWeight) f.infRung with h2 | h2
    . exact order_finite f x y h1 h2
    . have e2 := read_inf f hI y (by omega)
      obtain ⟨m, u, e1, _⟩ := read_finite f x h1
      have h2' : y % f.signWeight = f.infRung := by omega
      unfold Format.order skey
      rw [e1, e2, h2']
      cases (x / f.signWeight % 2 == 1) <;> cases (y / f.signWeight % 2 == 1) <;> simp only [if_true, if_false, Bool.false_eq_true, Datum.order]
      . rw [compare_lt (by omega)]
      . rw [compare_gt (by omega)]
      . rw [compare_lt (by omega)]
      . rw [compare_gt (by omega)]
  . have e1 := read_inf f hI x (by omega)
    have h1' : x % f.signWeight = f.infRung := by omega
    rcases Nat.lt_or_ge (y % f.signWeight) f.infRung with h2 | h2
    . obtain ⟨n, v, e2, _⟩ := read_finite f y h2
      unfold Format.order skey
      rw [e1, e2, h1']
      cases (x / f.signWeight % 2 == 1) <;> cases (y / f.signWeight % 2 == 1) <;> simp only [if_true, if_false, Bool.false_eq_true, Datum.order]
      . rw [compare_gt (by omega)]
      . rw [compare_gt (by omega)]
      . rw [compare_lt (by omega)]
      . rw [compare_lt (by omega)]
    . have e2 := read_inf f hI y (by omega)
      have h2' : y % f.signWeight = f.infRung := by omega
      unfold Format.order skey
      rw [e1, e2, h1', h2']
      cases (x / f.signWeight % 2 == 1) <;> cases (y / f.signWeight % 2 == 1) <;> simp only [if_true, if_false, Bool.false_eq_true, Datum.order]
      . rw [compare_eq rfl]; rfl
      . rw [compare_gt (by omega)]; rfl
      . rw [compare_lt (by omega)]; rfl
      . rw [compare_eq rfl]; rfl
def key (b : Int) : Int := if b < 0 then -(b + 9223372036854775808) else b
theorem dSign : Ieee.double.signWeight = 9223372036854775808 := by decide
theorem dInf : Ieee.double.infRung = 9218868437227405312 := by decide
theorem dOk : Ieee.double.binade <= Ieee.double.infRung := by decide
theorem wd_rung {b : Int} (h : rng b) : ((wd b % 9223372036854775808 : Nat) : Int) = if b < 0 then b + 9223372036854775808 else b := by
  unfold rng at h; unfold wd; split <;> omega
theorem wd_neg {b : Int} (h : rng b) : (wd b / 9223372036854775808 % 2 == 1) = decide (b < 0) := by
  unfold rng at h; unfold wd
  rw [Bool.eq_iff_iff]; simp only [beq_iff_eq, decide_eq_true_eq]; omega
theorem cls4_rung {b : Int} (h : rng b) : cls b = 4 ↔ 9218868437227405312 < wd b % 9223372036854775808 := by
  have := wd_rung h
  rw [cls4]; unfold rng at h; unfold fld frc
  split at this <;> omega
theorem skey_key {b : Int} (h : rng b) : skey (wd b / 9223372036854775808 % 2 == 1) (wd b % 9223372036854775808) = key b := by
  rw [wd_neg h]; unfold skey key; rw [wd_rung h]
  by_cases hb : b < 0 <;> simp [hb]
theorem order64 {a b : Int} (ha : rng a) (hb : rng b) (h1 : ¬ cls a = 4) (h2 : ¬ cls b = 4) : FloatKind.f64.format.order (wd a) (wd b) = some (compare (key a) (key b)) := by
  rw [cls4_rung ha] at h1; rw [cls4_rung hb] at h2
  have := order_all Ieee.double dOk (wd a) (wd b) (by rw [dSign, dInf]; omega) (by rw [dSign, dInf]; omega)
  rw [dSign, skey_key ha, skey_key hb] at this
  exact this
theorem order64_nan {a b : Int} (ha : rng a) (hb : rng b) (h : cls a = 4 ∨ cls b = 4) : FloatKind.f64.format.order (wd a) (wd b) = none := by
  refine order_nan Ieee.double dOk _ _ ?_
  rw [dSign, dInf]
  rcases h with h | h
  . exact .inl ((cls4_rung ha).1 h)
  . exact .inr ((cls4_rung hb).1 h)
def less (a b : Int) : Bool := !decide (cls a = 4) && (!decide (cls b = 4) && decide (key a < key b))
def same (a b : Int) : Bool := !decide (cls a = 4) && (!decide (cls b = 4) && decide (key a = key b))
theorem less_order {a b : Int} (ha : rng a) (hb : rng b) : (FloatKind.f64.format.order (wd a) (wd b) == some .lt) = less a b := by
  unfold less
  by_cases h1 : cls a = 4
  . rw [order64_nan ha hb (.inl h1)]; simp [h1]
  . by_cases h2 : cls b = 4
    . rw [order64_nan ha hb (.inr h2)]; simp [h2]
    . rw [order64 ha hb h1 h2]
      simp only [h1, h2, decide_false, Bool.not_false, Bool.true_and]
      rcases Int.lt_trichotomy (key a) (key b) with h | h | h
      . rw [compare_lt h]; simp [h]
      . rw [compare_eq h]; simp [h]
      . rw [compare_gt h]; simp; omega
theorem same_order {a b : Int} (ha : rng a) (hb : rng b) : (FloatKind.f64.format.order (wd a) (wd b) == some .eq) = same a b := by
  unfold same
  by_cases h1 : cls a = 4
  . rw [order64_nan ha hb (.inl h1)]; simp [h1]
  . by_cases h2 : cls b = 4
    . rw [order64_nan ha hb (.inr h2)]; simp [h2]
    . rw [order64 ha hb h1 h2]
      simp only [h1, h2, decide_false, Bool.not_false, Bool.true_and]
      rcases Int.lt_trichotomy (key a) (key b) with h | h | h
      . rw [compare_lt h]; simp; omega
      . rw [compare_eq h]; simp [h]
      . rw [compare_gt h]; simp; omega
def place (b : Int) : Int := if b < 0 then -(b + 9223372036854775808) - 1 else b
theorem cls0 {b : Int} (h : rng b) : cls b = 0 ↔ b = 0 ∨ b = -9223372036854775808 := by
  unfold rng at h
  unfold cls fld frc; repeat' split
  all_goals omega
theorem rng_canon {b : Int} (h : rng b) : rng (canon b) := by
  unfold canon; repeat' split
  . unfold rng; omega
  . unfold rng; omega
  . exact h
end Go.Proofs.YthpachmmjjlomaaGreatDoor.M
namespace Go.Proofs.YthpachmmjjlomaaGreatDoor.M
open Go
set_option linter.unusedSimpArgs false
set_option linter.unusedVariables false
def jz (mag : Int) : Nat := Lib.ctz 64 mag.toNat
def jo (mag : Int) : Int := mag / 2 ^ jz mag
def jl (mag : Int) : Int := Lib.bitLen (jo mag).toNat
def jsp (fr mag : Int) : Int := fr + 1 - jl mag
def jsh (fr least mag exp : Int) : Int := min (jsp fr mag) (exp + jz mag - least)
def jab (fr least mag exp : Int) : Int := exp + jz mag - jsh fr least mag exp - least
def jgood (fr top least mag exp : Int) : Bool := decide (0 <= jsp fr mag) && (decide (least <= exp + jz mag) && decide (jab fr least mag exp <= top - 2))
def jk (fr top least mag exp : Int) : Bool := if mag < 0 then false else if mag = 0 then true else jgood fr top least mag exp
def jv (fr top least mag exp : Int) : Int := if mag <= 0 then 0 else if jgood fr top least mag exp then jab fr least mag exp * 2 ^ fr.toNat + jo mag * 2 ^ (jsh fr least mag exp).toNat else 0
theorem bitLen_spec (n : Nat) (h : n < 2 ^ 64) (h0 : n ≠ 0) : 2 ^ (Lib.bitLen n - 1) <= n ∧ n < 2 ^ Lib.bitLen n ∧ 1 <= Lib.bitLen n ∧ Lib.bitLen n <= 64 := by
  have hl : Lib.bitLen n <= 64 := Lib.bitLen_le n 64 (by omega) h
  -- by halving
  have main : ∀ f n : Nat, n < 2 ^ f -> f <= 64 -> n ≠ 0 -> 2 ^ (Lib.bitLen n - 1) <= n ∧ n < 2 ^ Lib.bitLen n ∧ 1 <= Lib.bitLen n := by
    intro f
    induction f with
    | zero => intro n h _ h0; simp at h; omega
    | succ f ih =>
      intro n h hf h0
      have h64 : n < 2 ^ 64 := Nat.lt_of_lt_of_le h (Nat.pow_le_pow_right (by decide) hf)
      have e := Lib.bitLen_half n h0 h64
      by_cases h2 : n / 2 = 0
      . have h1 : n = 1 := by omega
        subst h1
        have : Lib.bitLen 1 = 1 := by decide +kernel
        rw [this]; decide
      . obtain ⟨a, b, c⟩ := ih (n / 2) (by rw [Nat.pow_succ] at h; omega) (by omega) h2
        obtain ⟨m, hm⟩ : ∃ m, Lib.bitLen (n / 2) = m + 1 := ⟨Lib.bitLen (n / 2) - 1, by omega⟩
        rw [e, hm]
        rw [hm] at a b
        simp only [Nat.add_sub_cancel] at a
        refine ⟨?_, ?_, by omega⟩
        . rw [show 1 + (m + 1) - 1 = m + 1 by omega, Nat.pow_succ]; omega
        . rw [show 1 + (m + 1) = m + 1 + 1 by omega, Nat.pow_succ]; omega
  obtain ⟨a, b, c⟩ := main 64 n h (by omega) h0
  exact ⟨a, b, c, hl⟩
theorem bitLen_lt (n k : Nat) (h : n < 2 ^ 64) (h0 : n ≠ 0) : n < 2 ^ k ↔ Lib.bitLen n <= k := by
  obtain ⟨a, b, c, d⟩ := bitLen_spec n h h0
  constructor
  . intro hk
    apply Nat.le_of_not_lt
    intro hlt
    have : 2 ^ k <= 2 ^ (Lib.bitLen n - 1) := Nat.pow_le_pow_right (by decide) (by omega)
    omega
  . intro hk
    exact Nat.lt_of_lt_of_le b (Nat.pow_le_pow_right (by decide) hk)
theorem jz_spec {mag : Int} (h0 : 0 < mag) (h : mag < 9223372036854775808) : ∃ m : Nat, mag = 2 ^ jz mag * (2 * m + 1) ∧ jz mag < 63 ∧ jo mag = 2 * m + 1 := by
  unfold jo jz
  obtain ⟨n, rfl⟩ := Int.eq_ofNat_of_zero_le (Int.le_of_lt h0)
  have hn : n ≠ 0 := by omega
  simp only [Int.toNat_natCast]
  obtain ⟨m, hm, hk⟩ := Lib.ctzFrom_spec 64 n (by omega) (by omega)
  have e : Lib.ctz 64 n = Lib.ctzFrom 64 n := by simp [Lib.ctz, hn]
  rw [e]
  have hp : 0 < 2 ^ Lib.ctzFrom 64 n := Nat.two_pow_pos _
  have hz : Lib.ctzFrom 64 n < 63 := by
    apply Nat.lt_of_not_le
    intro hle
    have : 2 ^ 63 <= 2 ^ Lib.ctzFrom 64 n := Nat.pow_le_pow_right (by decide) hle
    have : 2 ^ Lib.ctzFrom 64 n <= n := by
      rw (occs := .pos [2]) [hm]
      exact Nat.le_mul_of_pos_right _ (by omega)
    omega
  have hm' : (n : Int) = 2 ^ Lib.ctzFrom 64 n * (2 * (m : Int) + 1) := by
    have : ((2 ^ Lib.ctzFrom 64 n * (2 * m + 1) : Nat) : Int) = 2 ^ Lib.ctzFrom 64 n * (2 * (m : Int) + 1) := by
      rw [Int.natCast_mul]; simp
    rw [<- this, <- hm]
  refine ⟨m, hm', hz, ?_⟩
  have hpi : (0 : Int) < 2 ^ Lib.ctzFrom 64 n := Int.pow_pos (by decide)
  rw (occs := .pos [1]) [hm']
  exact Int.mul_ediv_cancel_left _ (by omega)
theorem jo_le {mag : Int} (h0 : 0 < mag) (h : mag < 9223372036854775808) : 1 <= jo mag ∧ jo mag <= mag := by
  obtain ⟨m, a, b, c⟩ := jz_spec h0 h
  have hp : (0 : Int) < 2 ^ jz mag := Int.pow_pos (by decide)
  have : (2 * (m : Int) + 1) * 1 <= (2 * (m : Int) + 1) * 2 ^ jz mag := Int.mul_le_mul_of_nonneg_left (by omega) (by omega)
  rw [Int.mul_comm _ (2 ^ jz mag), <- a] at this
  omega
theorem jl_le {mag : Int} (h0 : 0 < mag) (h : mag < 9223372036854775808) : 1 <= jl mag ∧ jl mag <= 63 := by
  obtain ⟨a, b⟩ := jo_le h0 h
  have s := bitLen_spec (jo mag).toNat (by omega) (by omega)
  unfold jl
  have := (bitLen_lt (jo mag).toNat 63 (by omega) (by omega)).1 (by omega)
  omega
theorem jshift_lt {fr mag : Int} (h0 : 0 < mag) (h : mag < 9223372036854775808) (hf : 0 <= fr) (s : Nat) (hs : (s : Int) <= jsp fr mag) : 1 <= jo mag * 2 ^ s ∧ jo mag * 2 ^ s < 2 ^ (fr.toNat + 1) := by
  obtain ⟨a, b⟩ := jo_le h0 h
  have sp := bitLen_spec (jo mag).toNat (by omega) (by omega)
  unfold jsp jl at hs
  have hp : (0 : Int) < 2 ^ s := Int.pow_pos (by decide)
  constructor
  . have : (1 : Int) * 1 <= jo mag * 2 ^ s := Int.mul_le_mul a (by omega) (by omega) (by omega)
    omega
  . have h1 : (jo mag).toNat * 2 ^ s < 2 ^ (Lib.bitLen (jo mag).toNat) * 2 ^ s := Nat.mul_lt_mul_of_pos_right sp.2.1 (Nat.two_pow_pos _)
    rw [<- Nat.pow_add] at h1
    have h2 : 2 ^ (Lib.bitLen (jo mag).toNat + s) <= 2 ^ (fr.toNat + 1) := Nat.pow_le_pow_right (by decide) (by omega)
    have h3 : (jo mag).toNat * 2 ^ s < 2 ^ (fr.toNat + 1) := Nat.lt_of_lt_of_le h1 h2
    have h4 : (((jo mag).toNat * 2 ^ s : Nat) : Int) < ((2 ^ (fr.toNat + 1) : Nat) : Int) := Int.ofNat_lt.2 h3
    rw [Int.natCast_mul, Int.toNat_of_nonneg (by omega)] at h4
    simpa using h4
theorem jgood_far {mag exp : Int} (h0 : 0 < mag) (h : mag < 9223372036854775808) (hf : 1025 < exp) : jgood 52 2047 (-1074) mag exp = false := by
  have := jl_le h0 h
  unfold jgood jab jsh jsp
  simp; intro _ _; omega
theorem jv_le {mag exp : Int} (hm : rng mag) : 0 <= jv 52 2047 (-1074) mag exp ∧ jv 52 2047 (-1074) mag exp < 9218868437227405312 := by
  unfold rng at hm
  unfold jv
  by_cases h0 : mag <= 0
  . rw [if_pos h0]; omega
  . rw [if_neg h0]
    by_cases hk : jgood 52 2047 (-1074) mag exp = true
    . rw [if_pos hk]
      unfold jgood at hk
      simp only [Bool.and_eq_true, decide_eq_true_eq] at hk
      have hl := jl_le (mag := mag) (by omega) hm.2
      have hs : 0 <= jsh 52 (-1074) mag exp ∧ jsh 52 (-1074) mag exp <= jsp 52 mag := by unfold jsh; omega
      have hb := jshift_lt (fr := 52) (mag := mag) (by omega) hm.2 (by omega) (jsh 52 (-1074) mag exp).toNat (by omega)
      have hb2 : jo mag * 2 ^ (jsh 52 (-1074) mag exp).toNat < 9007199254740992 := hb.2
      have ha : 0 <= jab 52 (-1074) mag exp := by unfold jab jsh; omega
      -- a normal number's highest bit is counted into the field
      have e : (2 : Int) ^ (52 : Int).toNat = 4503599627370496 := by decide
      rw [e]
      omega
    . rw [if_neg hk]; omega
theorem doubled {fr mag : Int} (h0 : 0 < mag) (h : mag < 9223372036854775808) (hf : 0 <= fr) (j : Nat) : jo mag * 2 ^ j < 2 ^ fr.toNat ↔ (j : Int) < jsp fr mag := by
  obtain ⟨a, b⟩ := jo_le h0 h
  have sp := bitLen_spec (jo mag).toNat (by omega) (by omega)
  unfold jsp jl
  have hc : ((((jo mag).toNat * 2 ^ j : Nat)) : Int) = jo mag * 2 ^ j := by
    rw [Int.natCast_mul, Int.toNat_of_nonneg (by omega)]; simp
  have hd : ((2 ^ fr.toNat : Nat) : Int) = 2 ^ fr.toNat := by simp
  rw [<- hc, <- hd, Int.ofNat_lt]
  constructor
  . intro hlt
    have h1 : 2 ^ (Lib.bitLen (jo mag).toNat - 1) * 2 ^ j <= (jo mag).toNat * 2 ^ j := Nat.mul_le_mul_right _ sp.1
    rw [<- Nat.pow_add] at h1
    have h2 : 2 ^ (Lib.bitLen (jo mag).toNat - 1 + j) < 2 ^ fr.toNat := by omega
    have := (Nat.pow_lt_pow_iff_right (by decide : 1 < 2)).1 h2
    omega
  . intro hlt
    have h1 : (jo mag).toNat * 2 ^ j < 2 ^ (Lib.bitLen (jo mag).toNat) * 2 ^ j := Nat.mul_lt_mul_of_pos_right sp.2.1 (Nat.two_pow_pos _)
    rw [<- Nat.pow_add] at h1
    exact Nat.lt_of_lt_of_le h1 (Nat.pow_le_pow_right (by decide) (by omega))
def sk (fr low mag exp : Int) : Bool := decide (0 <= jsp fr mag) && decide (low <= exp + jz mag)
def jp (neg : Bool) (mag exp : Int) : Int := if jk 52 2047 (-1074) mag exp && neg then jv 52 2047 (-1074) mag exp - 9223372036854775808 else jv 52 2047 (-1074) mag exp
end Go.Proofs.YthpachmmjjlomaaGreatDoor.M
namespace Go.Proofs.YthpachmmjjlomaaGreatDoor.M
open Go Ieee
set_option linter.unusedSimpArgs false
set_option linter.unusedVariables false
theorem V_parts (f : Format) (a n : Nat) (h : (a = 0 ∧ n < 2 * f.binade) ∨ (f.binade <= n ∧ n < 2 * f.binade)) : V f (a * f.binade + n) = n * 2 ^ a := by
  have hB := binade_pos f
  unfold V
  by_cases hn : n < f.binade
  . have ha : a = 0 := by omega
    subst ha
    rw [Nat.zero_mul, Nat.zero_add, if_pos hn]; simp
  . have hge : f.binade <= a * f.binade + n := Nat.le_trans (by omega) (Nat.le_add_left _ _)
    rw [if_neg (by omega)]
    have e : a * f.binade + n = f.binade * (a + 1) + (n - f.binade) := by
      rw [Nat.mul_add, Nat.mul_one, Nat.mul_comm]; omega
    rw [e, Nat.mul_add_mod, Nat.mod_eq_of_lt (show n - f.binade < f.binade by omega), Nat.mul_add_div hB, Nat.div_eq_of_lt (show n - f.binade < f.binade by omega)]
    rw [show a + 1 + 0 - 1 = a by omega, show f.binade + (n - f.binade) = n by omega]
theorem V_inj (f : Format) {r s : Nat} (h : V f r = V f s) : r = s := by
  rcases Nat.lt_trichotomy r s with h1 | h1 | h1
  . have := V_lt f h1; omega
  . exact h1
  . have := V_lt f h1; omega
theorem pow_split (z : Nat) (n : Int) (u : Nat) (m : Nat) (hn : 0 <= n) (h : z <= u) (hm : (m : Int) = n * 2 ^ z) : n.toNat * 2 ^ u = m * 2 ^ (u - z) := by
  obtain ⟨k, rfl⟩ := Int.eq_ofNat_of_zero_le hn
  have hm' : m = k * 2 ^ z := by
    have : ((k * 2 ^ z : Nat) : Int) = (k : Int) * 2 ^ z := by rw [Int.natCast_mul]; simp
    omega
  rw [hm', Int.toNat_natCast, Nat.mul_assoc, <- Nat.pow_add, show z + (u - z) = u by omega]
theorem V_join (f : Format) (fr : Nat) (hB : f.binade = 2 ^ fr) (top least mag exp : Int) (h0 : 0 < mag) (h : mag < 9223372036854775808)
    (hg : jgood fr top least mag exp = true) (he : least <= exp) : V f (jv fr top least mag exp).toNat = mag.toNat * 2 ^ (exp - least).toNat := by
  obtain ⟨m, ez, z63, eo⟩ := jz_spec h0 h
  have hg' := hg
  unfold jgood at hg'
  simp only [Bool.and_eq_true, decide_eq_true_eq] at hg'
  have hs : 0 <= jsh fr least mag exp ∧ jsh fr least mag exp <= jsp fr mag ∧ jsh fr least mag exp <= exp + jz mag - least := by unfold jsh; omega
  have hb := jshift_lt (fr := fr) h0 h (by omega) (jsh fr least mag exp).toNat (by omega)
  have hd := doubled (fr := fr) h0 h (by omega) (jsh fr least mag exp).toNat
  have ha : 0 <= jab fr least mag exp := by unfold jab; omega
  obtain ⟨n, hn⟩ := Int.eq_ofNat_of_zero_le (show 0 <= jo mag * 2 ^ (jsh fr least mag exp).toNat by omega)
  obtain ⟨a, ha'⟩ := Int.eq_ofNat_of_zero_le ha
  rw [hn] at hb hd
  have hB1 : ((f.binade : Nat) : Int) = 2 ^ fr := by rw [hB]; simp
  rw [Int.toNat_natCast, <- hB1] at hd
  have hb2 : (n : Int) < 2 * (f.binade : Int) := by
    have := hb.2
    rw [Int.toNat_natCast, Int.pow_succ, <- hB1] at this
    omega
  have ejv : (jv fr top least mag exp).toNat = a * f.binade + n := by
    unfold jv
    rw [if_neg (by omega), if_pos hg, hn, ha', Int.toNat_natCast, <- hB1]
    have : ((a : Int) * (f.binade : Int) + (n : Int)) = ((a * f.binade + n : Nat) : Int) := by rw [Int.natCast_add, Int.natCast_mul]
    rw [this, Int.toNat_natCast]
  rw [ejv, V_parts f a n (by
    by_cases hn1 : n < f.binade
    . left
      have := hd.1 (by omega)
      have : jab fr least mag exp = 0 := by unfold jab; unfold jsh at *; omega
      omega
    . right; omega)]
  -- n * 2 ^ a = mag * 2 ^ (exp - least)
  have e1 : mag.toNat * 2 ^ (exp - least).toNat = (jo mag).toNat * 2 ^ (jz mag + (exp - least).toNat) := by
    have hm : ((mag.toNat : Nat) : Int) = jo mag * 2 ^ jz mag := by
      rw [Int.toNat_of_nonneg (by omega), eo, Int.mul_comm]; exact ez
    rw [pow_split (jz mag) (jo mag) (jz mag + (exp - least).toNat) mag.toNat (by omega) (by omega) hm]
    congr 2; omega
  have e2 : n * 2 ^ a = (jo mag).toNat * 2 ^ ((jsh fr least mag exp).toNat + a) := by
    rw [pow_split (jsh fr least mag exp).toNat (jo mag) ((jsh fr least mag exp).toNat + a) n (by omega) (by omega) (by rw [<- hn])]
    congr 2; omega
  rw [e1, e2]
  congr 2
  unfold jab at ha'
  omega
theorem jzl {mag : Int} (h0 : 0 < mag) (h : mag < 9223372036854775808) (k : Nat) (hk : mag < 2 ^ k) : (jz mag : Int) + jl mag <= k := by
  obtain ⟨m, ez, z63, eo⟩ := jz_spec h0 h
  have hj := jo_le h0 h
  have sp := bitLen_spec (jo mag).toNat (by omega) (by omega)
  have h1 : 2 ^ (Lib.bitLen (jo mag).toNat - 1) * 2 ^ jz mag <= (jo mag).toNat * 2 ^ jz mag := Nat.mul_le_mul_right _ sp.1
  rw [<- Nat.pow_add] at h1
  have h2 : (((jo mag).toNat * 2 ^ jz mag : Nat) : Int) = mag := by
    rw [Int.natCast_mul, Int.toNat_of_nonneg (by omega), eo, Int.mul_comm]
    simp only [Int.natCast_pow]
    exact ez.symm
  have h3 : (jo mag).toNat * 2 ^ jz mag < 2 ^ k := by
    have : ((2 ^ k : Nat) : Int) = 2 ^ k := by simp
    omega
  have h4 : 2 ^ (Lib.bitLen (jo mag).toNat - 1 + jz mag) < 2 ^ k := by omega
  have := (Nat.pow_lt_pow_iff_right (by decide : 1 < 2)).1 h4
  unfold jl
  omega
theorem jgood_small {fr top least mag exp : Int} (h0 : 0 < mag) (h : mag < 9223372036854775808) (hf : 0 <= fr) (hk : mag < 2 ^ (fr.toNat + 1)) (he : least <= exp) (he2 : exp <= top - 2 + least) : jgood fr top least mag exp = true := by
  have hl := jzl h0 h (fr.toNat + 1) hk
  have := jl_le h0 h
  unfold jgood jab jsh jsp
  simp only [Bool.and_eq_true, decide_eq_true_eq]
  omega
/-! binary64 -/
def rg (b : Int) : Int := if b < 0 then b + 9223372036854775808 else b
theorem rg_parts {b : Int} (h : rng b) : 0 <= rg b ∧ rg b = fld b * 4503599627370496 + frc b := by
  unfold rng at h; unfold rg fld frc; split <;> omega
theorem pparts {b : Int} (h : pok b = true) : fld b ≠ 2047 := by simpa [pok] using h
theorem dB : Ieee.double.binade = 2 ^ 52 := by decide
theorem V_rg {b : Int} (hb : rng b) (hp : pok b = true) : V Ieee.double (rg b).toNat = (pmag b).toNat * 2 ^ (pexp b + 1074).toNat := by
  have hne := pparts hp
  obtain ⟨r0, r1⟩ := rg_parts hb
  have hf := fld_le b
  have ht := frc_le b
  by_cases h0 : fld b = 0
  . have e : (rg b).toNat = 0 * Ieee.double.binade + (frc b).toNat := by omega
    rw [e, V_parts _ _ _ (.inl ⟨rfl, by rw [dB]; omega⟩)]
    simp [pmag, pexp, h0]
  . have e : (rg b).toNat = (fld b - 1).toNat * Ieee.double.binade + (4503599627370496 + frc b).toNat := by rw [dB]; omega
    rw [e, V_parts _ _ _ (.inr (by rw [dB]; omega))]
    unfold pmag pexp
    rw [if_neg hne, if_neg h0, if_neg hne, if_neg h0]
    congr 2; omega
/-! binary32 -/
theorem q_rg {b : Int} (h : rng b) : rng (rg b) ∧ 0 <= rg b := by unfold rng rg at *; split <;> omega
theorem q_cls {b : Int} (h : rng b) : cls (rg b) = cls b := by
  unfold rng at h; unfold cls rg fld frc
  by_cases h0 : b < 0
  . rw [if_pos h0, show (b + 9223372036854775808) / 4503599627370496 % 2048 = b / 4503599627370496 % 2048 from by omega, show (b + 9223372036854775808) % 4503599627370496 = b % 4503599627370496 from by omega]
  . rw [if_neg h0]
theorem q_wd {b : Int} (h : rng b) : wd b % 9223372036854775808 = wd (rg b) := by unfold rng rg wd at *; split <;> omega
theorem q_key {b : Int} (h : 0 <= b) : key b = b := by unfold key; rw [if_neg (by omega)]
theorem q_wdlt (b : Int) : wd b < 18446744073709551616 := by unfold wd; omega
theorem q_abs {b : Int} (h : rng b) : (bits .andNot .u64 (wd b) 9223372036854775808).toNat = wd (rg b) := by
  have e := q_wd h
  have l := q_wdlt b
  rw [<- e]
  show (IntKind.u64.wrap (((BitVec.ofInt 64 (wd b : Int) &&& ~~~ BitVec.ofInt 64 9223372036854775808).toNat : Nat) : Int)).toNat = _
  rw [BitVec.toNat_and, BitVec.toNat_not, ofInt64_toNat, ofInt64_toNat, show (2 ^ 64 - 1 - ((9223372036854775808 : Int) % 18446744073709551616).toNat) = 2 ^ 63 - 1 from by decide, Nat.and_two_pow_sub_one_eq_mod, IntKind.wrap_u64]
  omega
theorem q_fin {b : Int} (h : pok b = true) : ¬ cls b = 4 := by
  have := pparts h
  unfold cls; rw [if_neg this]; split
  . split <;> omega
  . omega
theorem q_lt {a b : Int} (ha : rng a) (hb : rng b) (h1 : ¬ cls a = 4) (h2 : ¬ cls b = 4) (h : key a < key b) : FloatKind.f64.format.order (wd a) (wd b) = some .lt := by rw [order64 ha hb h1 h2, compare_lt h]
theorem q_gt {a b : Int} (ha : rng a) (hb : rng b) (h1 : ¬ cls a = 4) (h2 : ¬ cls b = 4) (h : key b < key a) : FloatKind.f64.format.order (wd a) (wd b) = some .gt := by rw [order64 ha hb h1 h2, compare_gt h]
theorem q_eq {a b : Int} (ha : rng a) (hb : rng b) (h1 : ¬ cls a = 4) (h2 : ¬ cls b = 4) (h : key a = key b) : FloatKind.f64.format.order (wd a) (wd b) = some .eq := by rw [order64 ha hb h1 h2, compare_eq h]
def tame (b : Int) : Bool := decide (rg b = 0) || (decide (3931642474694443008 <= rg b) && decide (rg b < 5282722362905591808))
theorem tame_fld {b : Int} (h : rng b) : tame b = (decide (rg b = 0) || (decide (873 <= fld b) && decide (fld b < 1173))) := by
  obtain ⟨h0, h1⟩ := rg_parts h
  have h2 : 0 <= frc b ∧ frc b < 4503599627370496 := by unfold frc; omega
  unfold tame
  congr 1
  congr 1
  . apply decide_eq_decide.2; omega
  . apply decide_eq_decide.2; omega
theorem pok_rg' {b : Int} (h : rng b) : pok b = decide (rg b <= 9218868437227405311) := by
  obtain ⟨h0, h1⟩ := rg_parts h
  have h2 : 0 <= frc b ∧ frc b < 4503599627370496 := by unfold frc; omega
  have h3 : 0 <= fld b ∧ fld b < 2048 := by unfold fld; omega
  unfold pok
  by_cases e : fld b = 2047
  . simp [e]; omega
  . simp [e]; omega
end Go.Proofs.YthpachmmjjlomaaGreatDoor.M
namespace Go.Proofs.YthpachmmjjlomaaGreatDoor
open Go Go.RowKit Go.Proofs.YthpachmmjjlomaaGreatDoor.M
set_option linter.unusedSimpArgs false
set_option linter.unusedVariables false
structure Lays (w : World) : Prop where
  a0 : w.cell? ⟨1, 0, none⟩ = some (.int .i64 52)
  a1 : w.cell? ⟨1, 1, none⟩ = some (.int .i64 2047)
  a2 : w.cell? ⟨1, 2, none⟩ = some (.int .i64 (-1074))
  b0 : True
  b1 : True
  b2 : True
structure Gr (W w' : World) : Prop where
  gr : Grown W w'
  be : Below W.heap.size W w'
theorem Gr.refl (W : World) : Gr W W := ⟨Grown.refl _, Below.refl _ _⟩
theorem Gr.alloc {W w' : World} (h : Gr W w') (c : Array Value) (t : TypeId) : Gr W (w'.alloc (.cells c t)) := ⟨h.gr.alloc c t, h.be.alloc h.be.size _⟩
theorem Gr.drew {W w' : World} (h : Gr W w') : Gr W w'.drew := ⟨h.gr.drew, ⟨h.be.os, h.be.tape, h.be.output, h.be.size, h.be.block⟩⟩
theorem gDrewN {W w' : World} (h : Gr W w') (n : Nat) : Gr W (w'.drewN n) := ⟨h.gr, ⟨h.be.os, h.be.tape, h.be.output, h.be.size, h.be.block⟩⟩
theorem gCell {a b : World} (h : Gr a b) {p : Addr} {v : Value} (hc : a.cell? p = some v) : b.cell? p = some v := by
  unfold World.cell? at hc ⊢
  have hlt : p.block < a.heap.size := by
    by_cases hp : p.block < a.heap.size
    . exact hp
    . rw [Array.getElem?_eq_none (by omega)] at hc; simp at hc
  have k := h.gr.1.2.2 p.block hlt
  cases ha : a.heap[p.block]? with
  | none => rw [ha] at hc; simp at hc
  | some oa =>
    rw [ha] at hc k
    cases oa with
    | cells c t fr =>
      cases hb : b.heap[p.block]? with
      | none => rw [hb] at k; simp at k
      | some ob =>
        rw [hb] at k
        cases ob with
        | cells c' t' fr' =>
          simp only at hc k ⊢
          obtain ⟨_, _, _, kc⟩ := k
          rw [kc p.off (fun f => f)]
          exact hc
        | _ => simp at k
    | _ => simp at hc
theorem Lays.grown {w w' : World} (h : Lays w) (g : Gr w w') : Lays w' :=
  ⟨gCell g h.a0, gCell g h.a1, gCell g h.a2, trivial, trivial, trivial⟩
theorem b_ret_int {k : IntKind} {a b : Int} (h : a = b) : Ending.returned (.int k a) = .returned (.int k b) := by rw [h]
theorem b_ret_bool {a b : Bool} (h : a = b) : Ending.returned (.bool a) = .returned (.bool b) := by rw [h]
theorem ret_ttt {a a' b b' : Int} {c c' : Bool} (h : a = a') (k : b = b') (l : c = c') : Ending.returned (.tuple #[.int .i64 a, .int .i64 b, .bool c]) = .returned (.tuple #[.int .i64 a', .int .i64 b', .bool c']) := by rw [h, k, l]
theorem split64 (b : Int) (w : World) :
    Calls Tryz.prog 149 #[.agg #[.int .i64 52, .int .i64 2047, .int .i64 (-1074)], .int .i64 b] w fun e w' => e = .returned (.tuple #[.int .i64 (fld b), .int .i64 (frc b)]) ∧ ∃ n, w' = (w.alloc (.cells #[.int .i64 52, .int .i64 2047, .int .i64 (-1074)] 146)).drewN n := by
  have h1 : bits .and .i64 (b / 4503599627370496) 2047 = fld b := and_i64_2047 _
  have h2 : bits .and .i64 b 4503599627370495 = frc b := and_i64_m52 _
  go_enter Tryz.func149, Tryz.ntmps149
  go_wp2
  go_quiet (fail)
  go_wp2
  go_ret2
  exact ⟨rfl, _, rfl⟩
theorem class64 (b : Int) (w : World) :
    Calls Tryz.prog 145 #[.agg #[.int .i64 52, .int .i64 2047, .int .i64 (-1074)], .int .i64 b] w fun e w' => e = .returned (.int .i64 (cls b)) ∧ Gr w w' := by
  by_cases h1 : fld b = 2047 <;> by_cases h2 : frc b = 0 <;> by_cases h3 : fld b = 0
  all_goals first
    | (exfalso; omega)
    | (go_enter Tryz.func145, Tryz.ntmps145
       go_wp2_with (go_at_call 149; refine (split64 _ _).mono ?_; rintro e w1 ⟨rfl, n, rfl⟩)
       go_ret
       exact ⟨b_ret_int (by simp [cls, h1, h2, h3]), gDrewN (((Gr.refl _).alloc _ _).alloc _ _) _⟩)
theorem parts64 (b : Int) (w : World) :
    Calls Tryz.prog 128 #[.agg #[.int .i64 52, .int .i64 2047, .int .i64 (-1074)], .int .i64 b] w fun e w' => e = .returned (.tuple #[.int .i64 (pmag b), .int .i64 (pexp b), .bool (pok b)]) ∧ Gr w w' := by
  have hf := fld_le b
  have hr := frc_le b
  by_cases h1 : fld b = 2047
  . go_enter Tryz.func128, Tryz.ntmps128
    go_wp2_with (go_at_call 149; refine (split64 _ _).mono ?_; rintro e w1 ⟨rfl, n, rfl⟩)
    go_ret3
    exact ⟨ret_ttt (by simp [pmag, h1]) (by simp [pexp, h1]) (by simp [pok, h1]), gDrewN (((Gr.refl _).alloc _ _).alloc _ _) _⟩
  . by_cases h2 : fld b = 0
    . go_enter Tryz.func128, Tryz.ntmps128
      go_wp2_with (go_at_call 149; refine (split64 _ _).mono ?_; rintro e w1 ⟨rfl, n, rfl⟩)
      go_quiet (fail)
      go_wp2
      go_ret3
      exact ⟨ret_ttt (by simp [pmag, h1, h2]) (by simp [pexp, h1, h2]) (by simp [pok, h1]), gDrewN (gDrewN (((Gr.refl _).alloc _ _).alloc _ _) _) _⟩
    . go_enter Tryz.func128, Tryz.ntmps128
      go_wp2_with (go_at_call 149; refine (split64 _ _).mono ?_; rintro e w1 ⟨rfl, n, rfl⟩)
      go_quiet (fail)
      go_wp2
      go_ret3
      exact ⟨ret_ttt (by simp [pmag, h1, h2]) (by simp [pexp, h1, h2]; omega) (by simp [pok, h1]), gDrewN (gDrewN (((Gr.refl _).alloc _ _).alloc _ _) _) _⟩
theorem bitsClass (b : Int) (w : World) (L : Lays w) :
    Calls Tryz.prog 122 #[.int .i64 b] w fun e w' => e = .returned (.int .i64 (cls b)) ∧ Gr w w' := by
  obtain ⟨a0, a1, a2, b0, b1, b2⟩ := L
  go_enter Tryz.func122, Tryz.ntmps122
  go_wp2_with (go_at_call 145; refine (class64 _ _).mono ?_; rintro e w1 ⟨rfl, hg⟩)
  go_ret
  exact ⟨rfl, hg⟩
theorem bitsNeg (b : Int) (w : World) (L : Lays w) (hb : rng b) :
    Calls Tryz.prog 93 #[.int .i64 b] w fun e w' => e = .returned (.int .i64 (neg b)) ∧ Gr w w' := by
  unfold rng at hb
  by_cases h : cls b = 4
  all_goals
    go_enter Tryz.func93, Tryz.ntmps93
    go_wp2_with (go_at_call 122; refine (bitsClass _ _ L).mono ?_; rintro e w1 ⟨rfl, hg⟩)
    go_ret
    exact ⟨b_ret_int (by first | (simp [neg, h]; done) | (rw [xor_i64_sign _ hb.1 hb.2]; simp [neg, h])), hg⟩
theorem bitsCanon (b : Int) (w : World) (L : Lays w) :
    Calls Tryz.prog 129 #[.int .i64 b] w fun e w' => e = .returned (.int .i64 (canon b)) ∧ Gr w w' := by
  by_cases h : cls b = 4 <;> by_cases h0 : cls b = 0
  all_goals first
    | (exfalso; omega)
    | (go_enter Tryz.func129, Tryz.ntmps129
       go_wp2_with (go_at_call 122; refine (bitsClass _ _ L).mono ?_; rintro e w1 ⟨rfl, hg⟩)
       go_ret
       exact ⟨b_ret_int (by simp [canon, h, h0]), hg⟩)
theorem run_from64 (n : Int) (w : World) : (callFunc 56 #[.int .u64 n]).run Tryz.prog w = .ok (.value (.float .f64 n.toNat)) w := by
  rw [run_callFunc_extern Tryz.func56 (by kernel_rfl) (by kernel_rfl) (by kernel_rfl) (e := Extern.MathFloatBits.float64frombits) (by kernel_rfl)]
  rfl
theorem ret_float {k : FloatKind} {a b : Nat} (h : a = b) : Ending.returned (.float k a) = .returned (.float k b) := by rw [h]
theorem bitsFloat (b : Int) (w : World) :
    Calls Tryz.prog 84 #[.int .i64 b] w fun e w' => e = .returned (.float .f64 (wd b)) ∧ w' = w := by
  have hd := run_from64
  go_enter Tryz.func84, Tryz.ntmps84
  go_wp2
  go_ret
  exact ⟨ret_float (by rw [IntKind.wrap_u64]; rfl), rfl⟩
theorem hideIt {p : Prop} (h : p) : Hid p := h
def told (b : Int) : Int := if cls b = 4 then 9221120237041090561 else b
theorem no64 {b : Int} (hb : rng b) : (FloatKind.f64.format.order (wd b) (wd b) != some .eq) = decide (cls b = 4) := by
  have := same_order hb hb
  unfold bne
  rw [this]; unfold same
  by_cases h : cls b = 4 <;> simp [h]
theorem run_bits64 (n : Nat) (w : World) : (callFunc 57 #[.float .f64 n]).run Tryz.prog w = .ok (.value (.int .u64 n)) w := by
  rw [run_callFunc_extern Tryz.func57 (by kernel_rfl) (by kernel_rfl) (by kernel_rfl) (e := Extern.MathFloatBits.float64bits) (by kernel_rfl)]
  rfl
theorem bitsOf (b : Int) (w : World) (hb : rng b) :
    Calls Tryz.prog 86 #[.float .f64 (wd b)] w fun e w' => e = .returned (.int .i64 (told b)) ∧ w' = w := by
  have hd := run_bits64
  have hn := no64 hb
  have hw : Hid (wrap64 (wd b : Int) = b) := by unfold Hid wrap64 wd; unfold rng at hb; omega
  by_cases h : cls b = 4
  . have hn' : (FloatKind.f64.format.order (wd b) (wd b) != some .eq) = true := by rw [hn]; simp [h]
    clear hn
    go_enter Tryz.func86, Tryz.ntmps86
    go_wp2
    go_ret
    exact ⟨b_ret_int (by simp [told, h]), rfl⟩
  . have hn' : (FloatKind.f64.format.order (wd b) (wd b) != some .eq) = false := by rw [hn]; simp [h]
    clear hn
    go_enter Tryz.func86, Tryz.ntmps86
    go_wp2
    go_ret
    exact ⟨b_ret_int (by rw [hw.out]; simp [told, h]), rfl⟩
end Go.Proofs.YthpachmmjjlomaaGreatDoor
namespace Go.Proofs.YthpachmmjjlomaaGreatDoor.M
open Go
set_option linter.unusedSimpArgs false
set_option linter.unusedVariables false
def P : Nat -> Int | 0 => 1 | n + 1 => P n * 1073741824
def val (d : Nat -> Int) : Nat -> Int | 0 => 0 | n + 1 => val d n + d n * P n
def Dig (d : Nat -> Int) (n : Nat) : Prop := ∀ i, i < n -> 0 <= d i ∧ d i < 1073741824
def Top (d : Nat -> Int) (n : Nat) : Prop := n = 0 ∨ d (n - 1) ≠ 0
def Nrm (d : Nat -> Int) (n : Nat) : Prop := Dig d n ∧ Top d n
theorem P_succ (n : Nat) : P (n + 1) = P n * 1073741824 := rfl
theorem P_pos (n : Nat) : 0 < P n := by
  induction n with
  | zero => decide
  | succ n ih => rw [P_succ]; omega
theorem P_add (n m : Nat) : P (n + m) = P n * P m := by
  induction m with
  | zero => show P n = P n * 1; omega
  | succ m ih => show P (n + m) * 1073741824 = P n * (P m * 1073741824); rw [ih, Int.mul_assoc]
theorem P_le {n m : Nat} (h : n <= m) : P n <= P m := by
  obtain ⟨k, rfl⟩ := Nat.exists_eq_add_of_le h
  rw [P_add]
  have := P_pos n
  have := P_pos k
  have : P n * 1 <= P n * P k := Int.mul_le_mul_of_nonneg_left (by omega) (by omega)
  omega
theorem val_succ (d : Nat -> Int) (n : Nat) : val d (n + 1) = val d n + d n * P n := rfl
theorem val_congr {d e : Nat -> Int} {n : Nat} (h : ∀ i, i < n -> d i = e i) : val d n = val e n := by
  induction n with
  | zero => rfl
  | succ n ih => rw [val_succ, val_succ, ih (fun i hi => h i (by omega)), h n (by omega)]
theorem Dig.le {d : Nat -> Int} {n m : Nat} (h : Dig d n) (hm : m <= n) : Dig d m := fun i hi => h i (by omega)
theorem Dig.congr {d e : Nat -> Int} {n : Nat} (h : Dig d n) (he : ∀ i, i < n -> d i = e i) : Dig e n := fun i hi => by rw [<- he i hi]; exact h i hi
theorem val_nonneg {d : Nat -> Int} {n : Nat} (h : Dig d n) : 0 <= val d n := by
  induction n with
  | zero => exact Int.le_refl _
  | succ n ih =>
    rw [val_succ]
    have := ih (h.le (by omega))
    have := Int.mul_nonneg (h n (by omega)).1 (Int.le_of_lt (P_pos n))
    omega
theorem val_lt {d : Nat -> Int} {n : Nat} (h : Dig d n) : val d n < P n := by
  induction n with
  | zero => show (0 : Int) < 1; decide
  | succ n ih =>
    rw [val_succ, P_succ]
    have a := ih (h.le (by omega))
    have b : d n * P n <= 1073741823 * P n := Int.mul_le_mul_of_nonneg_right (by have := (h n (by omega)).2; omega) (Int.le_of_lt (P_pos n))
    omega
theorem val_top {d : Nat -> Int} {n : Nat} (h : Dig d n) (hn : 0 < n) (ht : Top d n) : P (n - 1) <= val d n := by
  obtain ⟨m, rfl⟩ : ∃ m, n = m + 1 := ⟨n - 1, by omega⟩
  rw [val_succ, Nat.add_sub_cancel]
  have a := val_nonneg (h.le (Nat.le_succ m))
  have b : 1 <= d m := by
    rcases ht with h0 | h0
    . omega
    . rw [Nat.add_sub_cancel] at h0; have := (h m (by omega)).1; omega
  have c : 1 * P m <= d m * P m := Int.mul_le_mul_of_nonneg_right b (Int.le_of_lt (P_pos m))
  omega
theorem val_pos {d : Nat -> Int} {n : Nat} (h : Nrm d n) (hn : 0 < n) : 0 < val d n := by
  have := val_top h.1 hn h.2
  have := P_pos (n - 1)
  omega
theorem val_zero {d : Nat -> Int} {n : Nat} (h : Nrm d n) : val d n = 0 ↔ n = 0 := by
  constructor
  . intro h0
    by_cases hn : 0 < n
    . have := val_pos h hn; omega
    . omega
  . rintro rfl; rfl
theorem val_inj {d e : Nat -> Int} {n : Nat} (h : Dig d n) (k : Dig e n) (hv : val d n = val e n) : ∀ i, i < n -> d i = e i := by
  induction n with
  | zero => intro i hi; omega
  | succ n ih =>
    rw [val_succ, val_succ] at hv
    have a := val_lt (h.le (Nat.le_succ n))
    have b := val_lt (k.le (Nat.le_succ n))
    have a0 := val_nonneg (h.le (Nat.le_succ n))
    have b0 := val_nonneg (k.le (Nat.le_succ n))
    have hp := P_pos n
    have e1 : d n = e n := by
      have x1 : (val d n + d n * P n) / P n = d n := by
        rw [Int.add_mul_ediv_right _ _ (by omega), Int.ediv_eq_zero_of_lt a0 a]; omega
      have x2 : (val e n + e n * P n) / P n = e n := by
        rw [Int.add_mul_ediv_right _ _ (by omega), Int.ediv_eq_zero_of_lt b0 b]; omega
      rw [<- x1, <- x2, hv]
    rw [e1] at hv
    intro i hi
    by_cases hi' : i = n
    . rw [hi']; exact e1
    . exact ih (h.le (Nat.le_succ n)) (k.le (Nat.le_succ n)) (by omega) i (by omega)
theorem nrm_lt {d e : Nat -> Int} {n m : Nat} (h : Dig d n) (k : Nrm e m) (hnm : n < m) : val d n < val e m := by
  have a := val_lt h
  have b := val_top k.1 (by omega) k.2
  have c := P_le (show n <= m - 1 by omega)
  omega
theorem nrm_len {d e : Nat -> Int} {n m : Nat} (h : Nrm d n) (k : Nrm e m) (hv : val d n = val e m) : n = m := by
  by_cases h1 : n < m
  . have := nrm_lt h.1 k h1; omega
  by_cases h2 : m < n
  . have := nrm_lt k.1 h h2; omega
  omega
theorem val_split (d : Nat -> Int) (n m : Nat) : val d (n + m) = val d n + P n * val (fun i => d (n + i)) m := by
  induction m with
  | zero => show val d n = val d n + P n * 0; omega
  | succ m ih =>
    show val d (n + m) + d (n + m) * P (n + m) = val d n + P n * (val (fun i => d (n + i)) m + d (n + m) * P m)
    rw [ih, P_add, Int.mul_add, Int.add_assoc]
    congr 2
    rw [<- Int.mul_assoc, Int.mul_comm (d (n + m)) (P n), Int.mul_assoc]
theorem val_zeros {d : Nat -> Int} {n m : Nat} (hm : m <= n) (h : ∀ i, m <= i -> i < n -> d i = 0) : val d n = val d m := by
  induction n with
  | zero => rw [show m = 0 by omega]
  | succ n ih =>
    by_cases he : m = n + 1
    . rw [he]
    . rw [val_succ, h n (by omega) (by omega), ih (by omega) (fun i a b => h i a (by omega))]; omega
def upd (d : Nat -> Int) (i : Nat) (x : Int) : Nat -> Int := fun j => if j = i then x else d j
theorem upd_same (d : Nat -> Int) (i : Nat) (x : Int) : upd d i x i = x := by simp [upd]
theorem upd_other (d : Nat -> Int) {i j : Nat} (x : Int) (h : j ≠ i) : upd d i x j = d j := by simp [upd, h]
theorem val_upd_ge (d : Nat -> Int) {i n : Nat} (x : Int) (h : n <= i) : val (upd d i x) n = val d n := val_congr fun j hj => upd_other d x (by omega)
theorem val_upd (d : Nat -> Int) {i n : Nat} (x : Int) (h : i < n) : val (upd d i x) n = val d n + (x - d i) * P i := by
  induction n with
  | zero => omega
  | succ n ih =>
    rw [val_succ, val_succ]
    by_cases hi : i = n
    . subst hi; rw [upd_same, val_upd_ge d x (Nat.le_refl _), Int.sub_mul]; omega
    . rw [upd_other d x (by omega), ih (by omega)]; omega
theorem Dig.upd {d : Nat -> Int} {n : Nat} (h : Dig d n) (i : Nat) {x : Int} (hx : 0 <= x ∧ x < 1073741824) : Dig (upd d i x) n := fun j hj => by
  by_cases hj' : j = i
  . rw [hj', upd_same]; exact hx
  . rw [upd_other d x hj']; exact h j hj
def ext (d : Nat -> Int) (n : Nat) : Nat -> Int := fun i => if i < n then d i else 0
theorem ext_lt (d : Nat -> Int) {n i : Nat} (h : i < n) : ext d n i = d i := by simp [ext, h]
theorem ext_ge (d : Nat -> Int) {n i : Nat} (h : n <= i) : ext d n i = 0 := by simp [ext]; omega
theorem ext_dig {d : Nat -> Int} {n : Nat} (h : Dig d n) (m : Nat) : Dig (ext d n) m := fun i hi => by
  by_cases hi' : i < n
  . rw [ext_lt d hi']; exact h i hi'
  . rw [ext_ge d (by omega)]; omega
theorem carry_step (V c x p : Int) : V + (c + x) % 1073741824 * p + (c + x) / 1073741824 * (p * 1073741824) = V + c * p + x * p := by
  have h := Int.emod_add_mul_ediv (c + x) 1073741824
  have : (c + x) * p = ((c + x) % 1073741824 + 1073741824 * ((c + x) / 1073741824)) * p := by rw [h]
  rw [Int.add_mul, Int.add_mul] at this
  have e : 1073741824 * ((c + x) / 1073741824) * p = (c + x) / 1073741824 * (p * 1073741824) := by
    rw [Int.mul_comm 1073741824, Int.mul_assoc, Int.mul_comm 1073741824 p]
  omega
theorem and_30 (x : Int) : bits .and .i64 x 1073741823 = x % 1073741824 := and_i64_mask x 30 (by decide)
end Go.Proofs.YthpachmmjjlomaaGreatDoor.M
