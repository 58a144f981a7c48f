/-
  Parts of the proof, one behind another.
-/
import Derived.WalkKit
import Derived.Laws.MathBits
import Derived.Lib.TrailingZeros
import Derived.Test.YtjlmpgbadgkgmaaGreatDoorProg
import Derived.OwnWalk
import Derived.Below
import Derived.Laws.OwnMore
import Derived.Laws.AppendOwnNone
import Derived.Deep.QuietTactic
import Derived.BigQuiet
import Derived.Lib.BitFns
import Derived.Lib.ItoaNum
import Derived.Laws.Bits64b
/-
  Plain mathematics behind package bits: masks of 64-bit ints, fields of patterns. No Go text in sight.
-/
namespace Go.Proofs.YtjlmpgbadgkgmaaGreatDoor.M
open Go
set_option linter.unusedSimpArgs false
set_option linter.unusedVariables false

/-! signed 64-bit masks -/
theorem ofInt64_toNat (x : Int) : (BitVec.ofInt 64 x).toNat = (x % 18446744073709551616).toNat := by
  simp [BitVec.toNat_ofInt]
theorem bits_and64 (x y : Int) : bits .and .i64 x y = IntKind.i64.wrap (((x % 18446744073709551616).toNat &&& (y % 18446744073709551616).toNat : Nat) : Int) := by
  show IntKind.i64.wrap (((BitVec.ofInt 64 x &&& BitVec.ofInt 64 y).toNat : Nat) : Int) = _
  rw [BitVec.toNat_and, ofInt64_toNat, ofInt64_toNat]
theorem bits_xor64 (x y : Int) : bits .xor .i64 x y = IntKind.i64.wrap (((x % 18446744073709551616).toNat ^^^ (y % 18446744073709551616).toNat : Nat) : Int) := by
  show IntKind.i64.wrap (((BitVec.ofInt 64 x ^^^ BitVec.ofInt 64 y).toNat : Nat) : Int) = _
  rw [BitVec.toNat_xor, ofInt64_toNat, ofInt64_toNat]
theorem wrap_i64_eq (n : Int) : IntKind.i64.wrap n = (n + 9223372036854775808) % 18446744073709551616 - 9223372036854775808 := by
  simp only [IntKind.wrap, IntKind.bits, IntKind.signed]
  simp
  split <;> omega

theorem and_i64_mask (x : Int) (k : Nat) (hk : k < 63) : bits .and .i64 x (2 ^ k - 1) = x % 2 ^ k := by
  have hp : (2:Nat) ^ k < 2 ^ 63 := Nat.pow_lt_pow_right (by decide) hk
  have hp0 : 0 < (2:Nat) ^ k := Nat.two_pow_pos k
  have e2 : ((2 : Int) ^ k - 1) = ((2 ^ k - 1 : Nat) : Int) := by
    rw [Int.ofNat_sub (by omega)]; simp
  have e3 : (((2 : Int) ^ k - 1) % 18446744073709551616).toNat = 2 ^ k - 1 := by
    rw [e2]; omega
  rw [bits_and64, e3, Nat.and_two_pow_sub_one_eq_mod]
  have e4 : (((x % 18446744073709551616).toNat % 2 ^ k : Nat) : Int) = x % 2 ^ k := by
    rw [Int.natCast_emod, Int.toNat_of_nonneg (Int.emod_nonneg _ (by decide))]
    rw [show ((2 ^ k : Nat) : Int) = (2 : Int) ^ k by simp]
    apply Int.emod_emod_of_dvd
    exact ⟨2 ^ (64 - k), by rw [← Int.pow_add, show k + (64 - k) = 64 by omega]; decide⟩
  rw [e4]
  have h5 : 0 ≤ x % 2 ^ k := Int.emod_nonneg _ (by have : (0:Int) < 2 ^ k := Int.pow_pos (by decide); omega)
  have h6 : x % 2 ^ k < 2 ^ k := Int.emod_lt_of_pos _ (Int.pow_pos (by decide))
  have h7 : ((2 : Int) ^ k) < 9223372036854775808 := by
    have : ((2 ^ k : Nat) : Int) < ((2 ^ 63 : Nat) : Int) := Int.ofNat_lt.2 hp
    simpa using this
  rw [wrap_i64_eq]; omega

theorem and_i64_2047 (x : Int) : bits .and .i64 x 2047 = x % 2048 := and_i64_mask x 11 (by decide)
theorem and_i64_m52 (x : Int) : bits .and .i64 x 4503599627370495 = x % 4503599627370496 := and_i64_mask x 52 (by decide)
theorem xor_top (k n : Nat) (h : n < 2 ^ k) : 2 ^ k ^^^ n = 2 ^ k + n := by
  apply Nat.eq_of_testBit_eq
  intro i
  rw [Nat.testBit_xor, Nat.testBit_two_pow]
  rcases Nat.lt_trichotomy i k with hi | hi | hi
  · rw [Nat.testBit_two_pow_add_gt hi]
    simp [show ¬ k = i by omega]
  · subst hi
    rw [Nat.testBit_two_pow_add_eq, Nat.testBit_lt_two_pow h]; simp
  · have hk : 2 ^ (k + 1) ≤ 2 ^ i := Nat.pow_le_pow_right (by decide) hi
    rw [Nat.testBit_lt_two_pow (show n < 2 ^ i by rw [Nat.pow_succ] at hk; omega), Nat.testBit_lt_two_pow (show 2 ^ k + n < 2 ^ i by rw [Nat.pow_succ] at hk; omega)]
    simp [show ¬ k = i by omega]
theorem xor_top' (k m : Nat) (h : m < 2 ^ k) : (2 ^ k + m) ^^^ 2 ^ k = m := by
  rw [← xor_top k m h, Nat.xor_comm (2 ^ k) m, Nat.xor_assoc, Nat.xor_self, Nat.xor_zero]
/-- the sign bit turned -/
theorem xor_i64_sign (x : Int) (h0 : -9223372036854775808 ≤ x) (h1 : x < 9223372036854775808) : bits .xor .i64 x (-9223372036854775808) = if x < 0 then x + 9223372036854775808 else x - 9223372036854775808 := by
  rw [bits_xor64, show ((-9223372036854775808 : Int) % 18446744073709551616).toNat = 2 ^ 63 from by decide, wrap_i64_eq]
  split
  · rw [show (x % 18446744073709551616).toNat = 2 ^ 63 + (x + 9223372036854775808).toNat by omega, xor_top' 63 _ (by omega)]; omega
  · rw [Nat.xor_comm, xor_top 63 _ (by omega)]; omega
/-! the fields of a binary64's pattern -/
def fld (b : Int) : Int := b / 4503599627370496 % 2048
def frc (b : Int) : Int := b % 4503599627370496
/-- the class, off the field and the fraction -/
def cls (b : Int) : Int := if fld b = 2047 then (if frc b = 0 then 3 else 4) else if fld b = 0 then (if frc b = 0 then 0 else 1) else 2
def pok (b : Int) : Bool := !decide (fld b = 2047)
def pneg (b : Int) : Bool := pok b && decide (b < 0)
def pmag (b : Int) : Int := if fld b = 2047 then 0 else if fld b = 0 then frc b else 4503599627370496 + frc b
def pexp (b : Int) : Int := if fld b = 2047 then 0 else if fld b = 0 then -1074 else fld b - 1075
def nan : Int := 9221120237041090561
def neg (b : Int) : Int := if cls b = 4 then 9221120237041090561 else if b < 0 then b + 9223372036854775808 else b - 9223372036854775808
def canon (b : Int) : Int := if cls b = 4 then 9221120237041090561 else if cls b = 0 then 0 else b
def next (b : Int) : Int := if cls b = 4 then 9221120237041090561 else if b = 9218868437227405312 then b else if b = -9223372036854775808 then 1 else if b < 0 then b - 1 else b + 1
/-- an int's range -/
def rng (b : Int) : Prop := -9223372036854775808 ≤ b ∧ b < 9223372036854775808
theorem fld_le (b : Int) : 0 ≤ fld b ∧ fld b < 2048 := by unfold fld; omega
theorem frc_le (b : Int) : 0 ≤ frc b ∧ frc b < 4503599627370496 := by unfold frc; omega
theorem cls4 {b : Int} : cls b = 4 ↔ fld b = 2047 ∧ frc b ≠ 0 := by
  unfold cls; repeat' split
  all_goals omega
theorem cls4_not {b : Int} (h : ¬ cls b = 4) : fld b ≠ 2047 ∨ frc b = 0 := by
  rw [cls4] at h; omega
theorem rng_neg {b : Int} (h : rng b) : rng (neg b) := by
  unfold rng neg at *; repeat' split
  all_goals omega
theorem neg_neg {b : Int} (h : rng b) (hc : ¬ cls b = 4) : neg (neg b) = b := by
  have hc' := cls4_not hc
  have key : ¬ cls (if b < 0 then b + 9223372036854775808 else b - 9223372036854775808) = 4 := by
    rw [cls4]
    unfold fld frc at *
    split <;> omega
  unfold rng at h
  unfold neg
  simp only [hc, if_false, key]
  split <;> split <;> omega
/-- the class, as the document's answer tells it -/
def rcls (f t most : Int) : Int := if f = most then (if t = 0 then 3 else 4) else if 0 < f then 2 else if 0 < t then 1 else 0
theorem rcls_cls (b : Int) : rcls (fld b) (frc b) 2047 = cls b := by
  have := fld_le b; have := frc_le b
  unfold rcls cls; repeat' split
  all_goals omega
theorem parts_sub {b : Int} (h : cls b = 0 ∨ cls b = 1) : decide (b < 0) = pneg b ∧ frc b = pmag b ∧ -1074 = pexp b ∧ true = pok b := by
  unfold cls at h; unfold pneg pmag pexp pok
  by_cases h1 : fld b = 2047 <;> by_cases h2 : frc b = 0 <;> by_cases h3 : fld b = 0 <;> simp [h1, h2, h3] at h ⊢
theorem parts_norm {b : Int} (h : cls b = 2) : decide (b < 0) = pneg b ∧ 4503599627370496 + frc b = pmag b ∧ fld b - 1075 = pexp b ∧ true = pok b := by
  unfold cls at h; unfold pneg pmag pexp pok
  by_cases h1 : fld b = 2047 <;> by_cases h2 : frc b = 0 <;> by_cases h3 : fld b = 0 <;> simp [h1, h2, h3] at h ⊢
theorem parts_not {b : Int} (h0 : ¬ cls b = 0) (h1 : ¬ cls b = 1) (h2 : ¬ cls b = 2) : false = pneg b ∧ 0 = pmag b ∧ 0 = pexp b ∧ false = pok b := by
  unfold cls at h0 h1 h2; unfold pneg pmag pexp pok
  by_cases k1 : fld b = 2047 <;> by_cases k2 : frc b = 0 <;> by_cases k3 : fld b = 0 <;> simp [k1, k2, k3] at h0 h1 h2 ⊢
/-- the word of a pattern -/
def wd (b : Int) : Nat := (b % 18446744073709551616).toNat
end Go.Proofs.YtjlmpgbadgkgmaaGreatDoor.M

/-
  Plain mathematics of natural numbers as digits to the base 2^30: the value of the first n digits, one list a value. No Go text in sight.
-/
namespace Go.Proofs.YtjlmpgbadgkgmaaGreatDoor.M
open Go
set_option linter.unusedSimpArgs false
set_option linter.unusedVariables false

/-- The base's powers. -/
def P : Nat → Int | 0 => 1 | n + 1 => P n * 1073741824
/-- The value of the first n digits. -/
def val (d : Nat → Int) : Nat → Int | 0 => 0 | n + 1 => val d n + d n * P n
/-- Each of the first n is a digit. -/
def Dig (d : Nat → Int) (n : Nat) : Prop := ∀ i, i < n → 0 ≤ d i ∧ d i < 1073741824
/-- No zero on top. -/
def Top (d : Nat → Int) (n : Nat) : Prop := n = 0 ∨ d (n - 1) ≠ 0
/-- Without zeros on top, each a digit. -/
def Nrm (d : Nat → Int) (n : Nat) : Prop := Dig d n ∧ Top d n

theorem P_succ (n : Nat) : P (n + 1) = P n * 1073741824 := rfl
theorem P_pos (n : Nat) : 0 < P n := by
  induction n with
  | zero => decide
  | succ n ih => rw [P_succ]; omega
theorem P_add (n m : Nat) : P (n + m) = P n * P m := by
  induction m with
  | zero => show P n = P n * 1; omega
  | succ m ih => show P (n + m) * 1073741824 = P n * (P m * 1073741824); rw [ih, Int.mul_assoc]
theorem P_le {n m : Nat} (h : n ≤ m) : P n ≤ P m := by
  obtain ⟨k, rfl⟩ := Nat.exists_eq_add_of_le h
  rw [P_add]
  have := P_pos n
  have := P_pos k
  have : P n * 1 ≤ P n * P k := Int.mul_le_mul_of_nonneg_left (by omega) (by omega)
  omega
theorem val_succ (d : Nat → Int) (n : Nat) : val d (n + 1) = val d n + d n * P n := rfl
theorem val_congr {d e : Nat → Int} {n : Nat} (h : ∀ i, i < n → d i = e i) : val d n = val e n := by
  induction n with
  | zero => rfl
  | succ n ih => rw [val_succ, val_succ, ih (fun i hi => h i (by omega)), h n (by omega)]
theorem Dig.le {d : Nat → Int} {n m : Nat} (h : Dig d n) (hm : m ≤ n) : Dig d m := fun i hi => h i (by omega)
theorem Dig.congr {d e : Nat → Int} {n : Nat} (h : Dig d n) (he : ∀ i, i < n → d i = e i) : Dig e n := fun i hi => by rw [← he i hi]; exact h i hi
theorem val_nonneg {d : Nat → Int} {n : Nat} (h : Dig d n) : 0 ≤ val d n := by
  induction n with
  | zero => exact Int.le_refl _
  | succ n ih =>
    rw [val_succ]
    have := ih (h.le (by omega))
    have := Int.mul_nonneg (h n (by omega)).1 (Int.le_of_lt (P_pos n))
    omega
theorem val_lt {d : Nat → Int} {n : Nat} (h : Dig d n) : val d n < P n := by
  induction n with
  | zero => show (0 : Int) < 1; decide
  | succ n ih =>
    rw [val_succ, P_succ]
    have a := ih (h.le (by omega))
    have b : d n * P n ≤ 1073741823 * P n := Int.mul_le_mul_of_nonneg_right (by have := (h n (by omega)).2; omega) (Int.le_of_lt (P_pos n))
    omega
theorem val_top {d : Nat → Int} {n : Nat} (h : Dig d n) (hn : 0 < n) (ht : Top d n) : P (n - 1) ≤ val d n := by
  obtain ⟨m, rfl⟩ : ∃ m, n = m + 1 := ⟨n - 1, by omega⟩
  rw [val_succ, Nat.add_sub_cancel]
  have a := val_nonneg (h.le (Nat.le_succ m))
  have b : 1 ≤ d m := by
    rcases ht with h0 | h0
    · omega
    · rw [Nat.add_sub_cancel] at h0; have := (h m (by omega)).1; omega
  have c : 1 * P m ≤ d m * P m := Int.mul_le_mul_of_nonneg_right b (Int.le_of_lt (P_pos m))
  omega
theorem val_pos {d : Nat → Int} {n : Nat} (h : Nrm d n) (hn : 0 < n) : 0 < val d n := by
  have := val_top h.1 hn h.2
  have := P_pos (n - 1)
  omega
theorem val_zero {d : Nat → Int} {n : Nat} (h : Nrm d n) : val d n = 0 ↔ n = 0 := by
  constructor
  · intro h0
    by_cases hn : 0 < n
    · have := val_pos h hn; omega
    · omega
  · rintro rfl; rfl
/-- Digits of equal values are alike. -/
theorem val_inj {d e : Nat → Int} {n : Nat} (h : Dig d n) (k : Dig e n) (hv : val d n = val e n) : ∀ i, i < n → d i = e i := by
  induction n with
  | zero => intro i hi; omega
  | succ n ih =>
    rw [val_succ, val_succ] at hv
    have a := val_lt (h.le (Nat.le_succ n))
    have b := val_lt (k.le (Nat.le_succ n))
    have a0 := val_nonneg (h.le (Nat.le_succ n))
    have b0 := val_nonneg (k.le (Nat.le_succ n))
    have hp := P_pos n
    have e1 : d n = e n := by
      have x1 : (val d n + d n * P n) / P n = d n := by
        rw [Int.add_mul_ediv_right _ _ (by omega), Int.ediv_eq_zero_of_lt a0 a]; omega
      have x2 : (val e n + e n * P n) / P n = e n := by
        rw [Int.add_mul_ediv_right _ _ (by omega), Int.ediv_eq_zero_of_lt b0 b]; omega
      rw [← x1, ← x2, hv]
    rw [e1] at hv
    intro i hi
    by_cases hi' : i = n
    · rw [hi']; exact e1
    · exact ih (h.le (Nat.le_succ n)) (k.le (Nat.le_succ n)) (by omega) i (by omega)
theorem nrm_lt {d e : Nat → Int} {n m : Nat} (h : Dig d n) (k : Nrm e m) (hnm : n < m) : val d n < val e m := by
  have a := val_lt h
  have b := val_top k.1 (by omega) k.2
  have c := P_le (show n ≤ m - 1 by omega)
  omega
/-- Each number has one list. -/
theorem nrm_len {d e : Nat → Int} {n m : Nat} (h : Nrm d n) (k : Nrm e m) (hv : val d n = val e m) : n = m := by
  by_cases h1 : n < m
  · have := nrm_lt h.1 k h1; omega
  by_cases h2 : m < n
  · have := nrm_lt k.1 h h2; omega
  omega
theorem nrm_le_len {d e : Nat → Int} {n m : Nat} (h : Nrm d n) (k : Dig e m) (hv : val d n ≤ val e m) : n ≤ m := by
  by_cases h1 : n ≤ m
  · exact h1
  · have := nrm_lt k h (by omega); omega
theorem val_split (d : Nat → Int) (n m : Nat) : val d (n + m) = val d n + P n * val (fun i => d (n + i)) m := by
  induction m with
  | zero => show val d n = val d n + P n * 0; omega
  | succ m ih =>
    show val d (n + m) + d (n + m) * P (n + m) = val d n + P n * (val (fun i => d (n + i)) m + d (n + m) * P m)
    rw [ih, P_add, Int.mul_add, Int.add_assoc]
    congr 2
    rw [← Int.mul_assoc, Int.mul_comm (d (n + m)) (P n), Int.mul_assoc]
theorem val_zeros {d : Nat → Int} {n m : Nat} (hm : m ≤ n) (h : ∀ i, m ≤ i → i < n → d i = 0) : val d n = val d m := by
  induction n with
  | zero => rw [show m = 0 by omega]
  | succ n ih =>
    by_cases he : m = n + 1
    · rw [he]
    · rw [val_succ, h n (by omega) (by omega), ih (by omega) (fun i a b => h i a (by omega))]; omega
/-- One digit put in another's place. -/
def upd (d : Nat → Int) (i : Nat) (x : Int) : Nat → Int := fun j => if j = i then x else d j
theorem upd_same (d : Nat → Int) (i : Nat) (x : Int) : upd d i x i = x := by simp [upd]
theorem upd_other (d : Nat → Int) {i j : Nat} (x : Int) (h : j ≠ i) : upd d i x j = d j := by simp [upd, h]
theorem val_upd_ge (d : Nat → Int) {i n : Nat} (x : Int) (h : n ≤ i) : val (upd d i x) n = val d n := val_congr fun j hj => upd_other d x (by omega)
theorem val_upd (d : Nat → Int) {i n : Nat} (x : Int) (h : i < n) : val (upd d i x) n = val d n + (x - d i) * P i := by
  induction n with
  | zero => omega
  | succ n ih =>
    rw [val_succ, val_succ]
    by_cases hi : i = n
    · subst hi; rw [upd_same, val_upd_ge d x (Nat.le_refl _), Int.sub_mul]; omega
    · rw [upd_other d x (by omega), ih (by omega)]; omega
theorem Dig.upd {d : Nat → Int} {n : Nat} (h : Dig d n) (i : Nat) {x : Int} (hx : 0 ≤ x ∧ x < 1073741824) : Dig (upd d i x) n := fun j hj => by
  by_cases hj' : j = i
  · rw [hj', upd_same]; exact hx
  · rw [upd_other d x hj']; exact h j hj
/-- The digits of a list, nought behind its end. -/
def ext (d : Nat → Int) (n : Nat) : Nat → Int := fun i => if i < n then d i else 0
theorem ext_lt (d : Nat → Int) {n i : Nat} (h : i < n) : ext d n i = d i := by simp [ext, h]
theorem ext_ge (d : Nat → Int) {n i : Nat} (h : n ≤ i) : ext d n i = 0 := by simp [ext]; omega
theorem ext_dig {d : Nat → Int} {n : Nat} (h : Dig d n) (m : Nat) : Dig (ext d n) m := fun i hi => by
  by_cases hi' : i < n
  · rw [ext_lt d hi']; exact h i hi'
  · rw [ext_ge d (by omega)]; omega
theorem val_ext (d : Nat → Int) {n m : Nat} (h : n ≤ m) : val (ext d n) m = val d n := by
  rw [val_zeros h (fun i a _ => ext_ge d a)]
  exact val_congr fun i hi => ext_lt d hi
/-- A step of a sum with a carry: what is written and what is carried on. -/
theorem carry_step (V c x p : Int) : V + (c + x) % 1073741824 * p + (c + x) / 1073741824 * (p * 1073741824) = V + c * p + x * p := by
  have h := Int.emod_add_mul_ediv (c + x) 1073741824
  have : (c + x) * p = ((c + x) % 1073741824 + 1073741824 * ((c + x) / 1073741824)) * p := by rw [h]
  rw [Int.add_mul, Int.add_mul] at this
  have e : 1073741824 * ((c + x) / 1073741824) * p = (c + x) / 1073741824 * (p * 1073741824) := by
    rw [Int.mul_comm 1073741824, Int.mul_assoc, Int.mul_comm 1073741824 p]
  omega
end Go.Proofs.YtjlmpgbadgkgmaaGreatDoor.M

/-
  Lists of ints in memory: a slice that is read (Row), a block that the call itself has made and writes (Blk), a slice that is answered (Out). Each is carried over what a call leaves behind.
-/
namespace Go.Proofs.YtjlmpgbadgkgmaaGreatDoor
open Go Go.RowKit Go.Proofs.YtjlmpgbadgkgmaaGreatDoor.M
set_option linter.unusedSimpArgs false
set_option linter.unusedVariables false

/-- A slice of n ints that is read: its digits are d's. -/
structure Row (w : World) (ao : Option Addr) (n cap : Nat) (d : Nat → Int) : Prop where
  le : n ≤ cap
  max : cap ≤ 9223372036854775807
  nl : ao = none → cap = 0
  spot : 0 < n → ∃ b off, ao = some ⟨b, off, none⟩ ∧ b < w.heap.size ∧ ∀ i, i < n → w.cell? ⟨b, off + i, none⟩ = some (.int .i64 (d i))

/-- A block of N ints that is the call's own. -/
def Blk (w : World) (g N : Nat) (r : Nat → Int) : Prop :=
  ∃ cur, w.heap[g]? = some (.cells cur 3 (0, 0)) ∧ cur.size = N ∧ ∀ i, i < N → cur[i]? = some (.int .i64 (r i))

/-- The values of n digits. -/
def vals (d : Nat → Int) (n : Nat) : List Value := (List.range n).map fun i => .int .i64 (d i)
theorem vals_length (d : Nat → Int) (n : Nat) : (vals d n).length = n := by simp [vals]
theorem vals_get (d : Nat → Int) {n i : Nat} (h : i < n) : (vals d n)[i]? = some (.int .i64 (d i)) := by simp [vals, h]
theorem vals_one (d : Nat → Int) (n : Nat) : ∀ u ∈ vals d n, u.oneCell' = true := by
  intro u hu
  obtain ⟨_, _, rfl⟩ := List.mem_map.1 hu
  rfl
theorem vals_ext {xs : List Value} {d : Nat → Int} {n : Nat} (hl : xs.length = n) (h : ∀ i, i < n → xs[i]? = some (.int .i64 (d i))) : xs = vals d n := by
  apply List.ext_getElem?
  intro i
  by_cases hi : i < n
  · rw [h i hi, vals_get d hi]
  · rw [List.getElem?_eq_none (by omega), List.getElem?_eq_none (by rw [vals_length]; omega)]
/-- A slice that is answered: nil, or at the head of a block from B on. -/
def Out (B : Nat) (w : World) (v : Value) (n : Nat) (d : Nat → Int) : Prop := w.ownsRow B 3 1 v n (vals d n)

theorem Row.stays {w w' : World} {ao : Option Addr} {n cap : Nat} {d : Nat → Int} (h : Row w ao n cap d) {B : Nat} (hb : Below B w w') (hB : w.heap.size ≤ B) : Row w' ao n cap d :=
  ⟨h.le, h.max, h.nl, fun hn => by
    obtain ⟨b, off, rfl, hlt, hc⟩ := h.spot hn
    exact ⟨b, off, rfl, Nat.lt_of_lt_of_le hlt hb.size, fun i hi => (hb.cell (p := ⟨b, off + i, none⟩) (Nat.lt_of_lt_of_le hlt hB)).trans (hc i hi)⟩⟩
theorem Row.keeps {w w' : World} {ao : Option Addr} {n cap : Nat} {d : Nat → Int} (h : Row w ao n cap d) (hb : Below w.heap.size w w') : Row w' ao n cap d := h.stays hb (Nat.le_refl _)
theorem Row.congr {w : World} {ao : Option Addr} {n cap : Nat} {d e : Nat → Int} (h : Row w ao n cap d) (he : ∀ i, i < n → d i = e i) : Row w ao n cap e :=
  ⟨h.le, h.max, h.nl, fun hn => by
    obtain ⟨b, off, rfl, hlt, hc⟩ := h.spot hn
    exact ⟨b, off, rfl, hlt, fun i hi => by rw [← he i hi]; exact hc i hi⟩⟩
theorem Row.nil (w : World) (d : Nat → Int) : Row w none 0 0 d := ⟨Nat.le_refl _, by decide, fun _ => rfl, fun h => by omega⟩
theorem Row.alloc {w : World} {ao : Option Addr} {n cap : Nat} {d : Nat → Int} (h : Row w ao n cap d) (o : Obj) : Row (w.alloc o) ao n cap d := h.keeps ((Below.refl _ _).alloc (Nat.le_refl _) _)

theorem Blk.cell {w : World} {g N : Nat} {r : Nat → Int} (h : Blk w g N r) {i : Nat} (hi : i < N) : w.cell? ⟨g, i, none⟩ = some (.int .i64 (r i)) := by
  obtain ⟨cur, hg, hs, hc⟩ := h
  rw [cell_of_row w g i cur _ _ hg]; exact hc i hi
theorem Blk.frozen {w : World} {g N : Nat} {r : Nat → Int} (h : Blk w g N r) (i : Nat) : w.frozen? ⟨g, i, none⟩ = false := by
  obtain ⟨cur, hg, hs, hc⟩ := h
  exact frozen_of_row w g i cur _ hg
theorem Blk.lt {w : World} {g N : Nat} {r : Nat → Int} (h : Blk w g N r) : g < w.heap.size := by
  obtain ⟨cur, hg, hs, hc⟩ := h
  exact (Array.getElem?_eq_some_iff.1 hg).1
theorem Blk.store {w : World} {g N : Nat} {r : Nat → Int} (h : Blk w g N r) (i : Nat) (x : Int) : Blk (w.setCell ⟨g, i, none⟩ (.int .i64 x)) g N (upd r i x) := by
  obtain ⟨cur, hg, hs, hc⟩ := h
  refine ⟨cur.setIfInBounds i (.int .i64 x), heap_setCell_same w g i cur _ _ hg, by simpa using hs, fun j hj => ?_⟩
  by_cases hji : j = i
  · subst hji; rw [upd_same, Array.getElem?_setIfInBounds_self_of_lt (by omega)]
  · rw [upd_other r x hji, Array.getElem?_setIfInBounds_ne (by omega)]; exact hc j hj
theorem Blk.of_block {w w' : World} {g N : Nat} {r : Nat → Int} (h : Blk w g N r) (hb : w'.heap[g]? = w.heap[g]?) : Blk w' g N r := by
  obtain ⟨cur, hg, hs, hc⟩ := h
  exact ⟨cur, hb.trans hg, hs, hc⟩
theorem Blk.stays {w w' : World} {g N : Nat} {r : Nat → Int} (h : Blk w g N r) {B : Nat} (hb : Below B w w') (hB : g < B) : Blk w' g N r := h.of_block (hb.block g hB)
theorem Blk.keeps {w w' : World} {g N : Nat} {r : Nat → Int} (h : Blk w g N r) (hb : Below w.heap.size w w') : Blk w' g N r := h.stays hb h.lt
theorem Blk.apart {w : World} {g N : Nat} {r : Nat → Int} (h : Blk w g N r) {a : Addr} (ha : g ≠ a.block) (u : Value) : Blk (w.setCell a u) g N r := h.of_block (heap_setCell_other w a g u ha)
theorem Blk.alloc {w : World} {g N : Nat} {r : Nat → Int} (h : Blk w g N r) (o : Obj) : Blk (w.alloc o) g N r := h.of_block (Below.heap_alloc w o g h.lt)
theorem Blk.congr {w : World} {g N : Nat} {r s : Nat → Int} (h : Blk w g N r) (he : ∀ i, i < N → r i = s i) : Blk w g N s := by
  obtain ⟨cur, hg, hs, hc⟩ := h
  exact ⟨cur, hg, hs, fun i hi => by rw [hc i hi, he i hi]⟩
theorem Blk.row {w : World} {g N : Nat} {r : Nat → Int} (h : Blk w g N r) {off n cap : Nat} (hn : off + n ≤ N) (hc : n ≤ cap) (hm : cap ≤ 9223372036854775807) : Row w (some ⟨g, off, none⟩) n cap (fun i => r (off + i)) :=
  ⟨hc, hm, (fun e => by cases e), fun _ => ⟨g, off, rfl, h.lt, fun i hi => h.cell (by omega)⟩⟩
theorem Blk.row0 {w : World} {g N : Nat} {r : Nat → Int} (h : Blk w g N r) {n : Nat} (hn : n ≤ N) (hm : N ≤ 9223372036854775807) : Row w (some ⟨g, 0, none⟩) n N r :=
  ⟨hn, hm, (fun e => by cases e), fun _ => ⟨g, 0, rfl, h.lt, fun i hi => by rw [Nat.zero_add]; exact h.cell (by omega)⟩⟩
theorem Blk.out {w : World} {g N : Nat} {r : Nat → Int} (h : Blk w g N r) {B n : Nat} (hB : B ≤ g) (hn : n ≤ N) (hm : N ≤ 9223372036854775807) : Out B w (.slice (some ⟨g, 0, none⟩) n N) n r := by
  obtain ⟨cur, hg, hs, hc⟩ := h
  refine ⟨by rw [vals_length]; omega, .inr ⟨g, N, cur, rfl, hB, hg, hn, by unfold maxLen; omega, by omega, ?_⟩⟩
  apply vals_ext (by simp; omega)
  intro i hi
  rw [List.getElem?_take, if_pos (by omega), Array.getElem?_toList]
  exact hc i (by omega)
theorem Blk.made {w : World} {B g N : Nat} (h : w.ownsRow B 3 1 (.slice (some ⟨g, 0, none⟩) N N) N (madeCells (Value.int .i64 0).cells (N * 1)).toList) : Blk w g N (fun _ => 0) := by
  rcases h.2 with ⟨h', _⟩ | ⟨g', cap', cur, h', _, hg, _, _, hs, htake⟩
  · simp at h'
  · simp only [Value.slice.injEq, Option.some.injEq, Addr.mk.injEq, and_true, true_and] at h'
    obtain ⟨rfl, rfl⟩ := h'
    refine ⟨cur, hg, by omega, fun i hi => ?_⟩
    have e : cur.toList[i]? = (madeCells (Value.int .i64 0).cells (N * 1)).toList[i]? := by
      rw [← htake, List.getElem?_take, if_pos (by omega)]
    rw [Array.getElem?_toList] at e
    rw [e]
    show (madeCells #[Value.int .i64 0] (N * 1)).toList[i]? = _
    rw [Nat.mul_one, toList_madeCells_one]
    simp [hi]
theorem Blk.new (w : World) (xs : Array Value) (r : Nat → Int) (h : ∀ i, i < xs.size → xs[i]? = some (.int .i64 (r i))) : Blk (w.alloc (.cells xs 3)) w.heap.size xs.size r :=
  ⟨xs, heap_alloc_new w _, rfl, h⟩

theorem Out.row {B : Nat} {w : World} {v : Value} {n : Nat} {d : Nat → Int} (h : Out B w v n d) : ∃ ao cap, v = .slice ao n cap ∧ Row w ao n cap d := by
  rcases h.2 with ⟨rfl, rfl⟩ | ⟨g, cap, cur, rfl, hb, hg, hn, hm, hs, ht⟩
  · exact ⟨none, 0, rfl, Row.nil _ _⟩
  · refine ⟨_, cap, rfl, hn, by unfold maxLen at hm; exact hm, (fun e => by cases e), fun _ => ⟨g, 0, rfl, (Array.getElem?_eq_some_iff.1 hg).1, fun i hi => ?_⟩⟩
    rw [Nat.zero_add, cell_of_row w g i cur _ _ hg]
    have e : (cur.toList.take (n * 1))[i]? = (vals d n)[i]? := by rw [ht]
    rw [List.getElem?_take, if_pos (by omega), vals_get d hi, Array.getElem?_toList] at e
    exact e
theorem Out.nil (B : Nat) (w : World) (d : Nat → Int) : Out B w (.slice none 0 0) 0 d := World.ownsRow_nil _ _ _ _
theorem Out.stays {B : Nat} {w w' : World} {v : Value} {n : Nat} {d : Nat → Int} (h : Out B w v n d) (hb : Below w.heap.size w w') : Out B w' v n d := by
  refine ⟨h.1, ?_⟩
  rcases h.2 with hn | ⟨g, cap, cur, rfl, hbb, hg, rest⟩
  · exact .inl hn
  · exact .inr ⟨g, cap, cur, rfl, hbb, (hb.block g (Array.getElem?_eq_some_iff.1 hg).1).trans hg, rest⟩
theorem Out.lower {B B' : Nat} {w : World} {v : Value} {n : Nat} {d : Nat → Int} (h : Out B w v n d) (hB : B' ≤ B) : Out B' w v n d := by
  refine ⟨h.1, ?_⟩
  rcases h.2 with hn | ⟨g, cap, cur, rfl, hbb, rest⟩
  · exact .inl hn
  · exact .inr ⟨g, cap, cur, rfl, by omega, rest⟩
theorem Out.congr {B : Nat} {w : World} {v : Value} {n : Nat} {d e : Nat → Int} (h : Out B w v n d) (he : ∀ i, i < n → d i = e i) : Out B w v n e := by
  unfold Out at h ⊢
  rwa [show vals e n = vals d n from (vals_ext (vals_length d n) fun i hi => by rw [vals_get d hi, he i hi]).symm]
/-- What a Go call hands back: one value of slices. -/
theorem bel_trans {a b c : World} (h : Below a.heap.size a b) (k : Below b.heap.size b c) : Below a.heap.size a c := h.trans (k.mono h.size)
theorem bel_refl (w : World) : Below w.heap.size w w := Below.refl _ _
theorem bDrewN {B : Nat} {a w : World} (h : Below B a w) (n : Nat) : Below B a (w.drewN n) := ⟨h.os, h.tape, h.output, h.size, h.block⟩
/-- A slice cut to its first t; nil where nothing is left. -/
def cutV (ao : Option Addr) (t cap : Nat) : Value := if t = 0 then .slice none 0 0 else .slice ao t cap
theorem Blk.cut {w : World} {g N : Nat} {r : Nat → Int} (h : Blk w g N r) {B t : Nat} (hB : B ≤ g) (ht : t ≤ N) (hm : N ≤ 9223372036854775807) : Out B w (cutV (some ⟨g, 0, none⟩) t N) t r := by
  unfold cutV
  split
  · rename_i h0; subst h0; exact Out.nil _ _ _
  · exact h.out hB ht hm
/-- The list of V, without zeros on top, in memory that is new since w; nothing of w has turned. -/
def Ans (w w' : World) (V : Int) (v : Value) : Prop := ∃ t d, Out w.heap.size w' v t d ∧ Nrm d t ∧ val d t = V ∧ Below w.heap.size w w'
theorem Ans.below {w w' : World} {V : Int} {v : Value} (h : Ans w w' V v) : Below w.heap.size w w' := h.choose_spec.choose_spec.2.2.2
theorem Ans.from {w0 w w' : World} {V : Int} {v : Value} (h : Ans w w' V v) (hb : Below w0.heap.size w0 w) : Ans w0 w' V v := by
  obtain ⟨t, d, h1, h2, h3, h4⟩ := h
  exact ⟨t, d, h1.lower hb.size, h2, h3, bel_trans hb h4⟩
theorem Ans.stays {w w1 w2 : World} {V : Int} {v : Value} (h : Ans w w1 V v) (hb : Below w1.heap.size w1 w2) : Ans w w2 V v := by
  obtain ⟨t, d, h1, h2, h3, h4⟩ := h
  exact ⟨t, d, h1.stays hb, h2, h3, bel_trans h4 hb⟩
theorem Ans.nil {w w' : World} (hb : Below w.heap.size w w') : Ans w w' 0 (.slice none 0 0) := ⟨0, fun _ => 0, Out.nil _ _ _, ⟨fun i hi => by omega, .inl rfl⟩, rfl, hb⟩
/-- A list and an error, of a number that may be too long. -/
def Fit (w w' : World) (V : Int) (v : Value) (er : Int) : Prop := Below w.heap.size w w' ∧ ((V < P 2000 ∧ er = 0 ∧ Ans w w' V v) ∨ (P 2000 ≤ V ∧ er = 2 ∧ v = .slice none 0 0))
theorem info_int : (Tryz.prog.info? 3).map (fun i => (i.zero, i.size, i.bytes)) = some (some (.int .i64 0), 1, 8) := by kernel_rfl
theorem grown_below {w w' : World} (h : w.grownBy w' none) : Below w.heap.size w w' := ⟨h.os, h.tape, h.output, h.size, fun k hk => h.block k hk (by simp)⟩
/-- 'make([]int, n)': a block of the call's own, all nought. -/
theorem wpList_mk {w : World} {ops : Array Oper} {rest : List Oper} {o : Oper} {a : Act} {Q : Exit → Act → World → Prop} (hg : o.guard = none) (l c : Operand) (hop : o.op = Op.makeSlice 22 l c)
    (L C : Int) (n : Nat) (hl : a.eval l = .int .i64 L) (hc : a.eval c = .int .i64 C) (hL : L = (n : Int)) (hC : C = (n : Int)) (hn : n ≤ 1000000)
    (hK : ∀ w', Blk w' w.heap.size n (fun _ => 0) → Below w.heap.size w w' → wpList Tryz.prog ops Q rest (a.put o.dst (.slice (some ⟨w.heap.size, 0, none⟩) n n)) w') :
    wpList Tryz.prog ops Q (o :: rest) a w := by
  obtain ⟨i0, hi, hz0, hz1, hz2⟩ := info_parts info_int
  exact wpList_make_full w hg l c 22 hop w.heap.size 3 i0 (.int .i64 0) 1 Tryz.underlying22 hi hz0 hz1 .i64 .i64 L C n hl hc hL hC (by rw [hz2]; omega) (by unfold maxLen; omega) (Nat.le_refl _)
    fun w' h1 h2 => hK w' (Blk.made h1) (grown_below h2)
/-- A slice of one, of two ints, as the text lays it. -/
theorem row1 (w : World) (x : Int) {g : Nat} (hg : g = w.heap.size) : Row (w.alloc (.cells #[.int .i64 x] 3)) (some ⟨g, 0, none⟩) 1 1 (fun _ => x) := by
  subst hg
  exact (Blk.new w #[.int .i64 x] (fun _ => x) (fun i hi => by simp at hi; subst hi; rfl)).row0 (Nat.le_refl _) (show 1 ≤ 9223372036854775807 by decide)
/-- Two digits. -/
def d2 (x y : Int) : Nat → Int := fun i => if i = 0 then x else y
theorem row2 (w : World) (x y : Int) {g : Nat} (hg : g = w.heap.size) : Row (w.alloc (.cells #[.int .i64 x, .int .i64 y] 3)) (some ⟨g, 0, none⟩) 2 2 (d2 x y) := by
  subst hg
  refine (Blk.new w #[.int .i64 x, .int .i64 y] (d2 x y) (fun i hi => ?_)).row0 (Nat.le_refl _) (show 2 ≤ 9223372036854775807 by decide)
  match i, hi with
  | 0, _ => rfl
  | 1, _ => rfl
/-- One list behind another. -/
def cat (d : Nat → Int) (n : Nat) (e : Nat → Int) : Nat → Int := fun i => if i < n then d i else e (i - n)
theorem vals_cat (d e : Nat → Int) (n m : Nat) : vals d n ++ vals e m = vals (cat d n e) (n + m) := by
  apply vals_ext (by simp [vals_length])
  intro i hi
  by_cases h : i < n
  · rw [List.getElem?_append_left (by rw [vals_length]; exact h), vals_get d h]; simp [cat, h]
  · rw [List.getElem?_append_right (by rw [vals_length]; omega), vals_length, vals_get e (by omega)]; simp [cat, h]
theorem add_none (b off n : Nat) : (⟨b, off, none⟩ : Addr).add n = ⟨b, off + n, none⟩ := by
  unfold Addr.add; split <;> simp_all
/-- 'append(xs, ys...)', xs nil or the call's own, ys whatever. -/
theorem wpList_app {w : World} {ops : Array Oper} {rest : List Oper} {o : Oper} {a : Act} {Q : Exit → Act → World → Prop} (hgd : o.guard = none) (s x : Operand)
    (ho : o.op = .call { callee := .builtin .append, args := #[s, x], argTypes := #[22, 22] }) (B : Nat) (v : Value) (n : Nat) (d : Nat → Int) (hs : a.eval s = v) (hO : Out B w v n d)
    (bo : Option Addr) (m cb : Nat) (e : Nat → Int) (hx : a.eval x = .slice bo m cb) (hR : Row w bo m cb e) (hlen : n + m ≤ 1000000) (hB : B ≤ w.heap.size)
    (h : ∀ v' w', Out B w' v' (n + m) (cat d n e) → w.grownBy w' v.ownBlock → wpList Tryz.prog ops Q rest (a.put o.dst v') w') : wpList Tryz.prog ops Q (o :: rest) a w := by
  obtain ⟨i0, hi, hz0, hz1, hz2⟩ := info_parts info_int
  cases bo with
  | none =>
    have hc := hR.nl rfl
    have hl := hR.le
    subst hc
    obtain rfl : m = 0 := by omega
    refine wpList_append_own_none hgd s x 22 ho B 3 i0 1 Tryz.underlying22 hi v n (vals d n) hs hO hx ?_
    refine h v w ?_ ⟨rfl, rfl, rfl, Nat.le_refl _, fun _ _ _ => rfl⟩
    exact Out.congr hO fun i hi => by simp [cat]; omega
  | some ad =>
    refine wpList_append_own w hgd s x 22 ho B 3 i0 (.int .i64 0) 1 8 Tryz.underlying22 hi hz0 hz1 hz2 rfl (by decide) v n (vals d n) hs hO ad m cb (vals e m) hx (by rw [vals_length]; omega) ?_ (vals_one e m) (by unfold maxLen; omega) (by omega) hB ?_
    · intro j u hu
      have hj : j < m := by have := (List.getElem?_eq_some_iff.1 hu).1; rwa [vals_length] at this
      obtain ⟨b, off, hb, _, hc⟩ := hR.spot (by omega)
      obtain rfl := Option.some.inj hb
      rw [vals_get e hj] at hu
      rw [add_none, hc j hj]; exact hu
    · intro v' w' h1 h2 _
      rw [vals_cat] at h1
      exact h v' w' h1 h2
theorem own_ge {B : Nat} {w : World} {v : Value} {n : Nat} {d : Nat → Int} (h : Out B w v n d) : ∀ k, v.ownBlock = some k → B ≤ k := fun k hk => (World.ownsRow.lt h k hk).1
/-- A number that is read: a list without zeros on top, and its value. -/
def Num (w : World) (v : Value) (V : Int) : Prop := ∃ ao n cap d, v = .slice ao n cap ∧ Row w ao n cap d ∧ Nrm d n ∧ val d n = V
theorem Ans.num {w w' : World} {V : Int} {v : Value} (h : Ans w w' V v) : Num w' v V := by
  obtain ⟨t, d, h1, h2, h3, h4⟩ := h
  obtain ⟨ao, cap, rfl, hR⟩ := h1.row
  exact ⟨ao, t, cap, d, rfl, hR, h2, h3⟩
theorem Num.keeps {w w' : World} {v : Value} {V : Int} (h : Num w v V) (hb : Below w.heap.size w w') : Num w' v V := by
  obtain ⟨ao, n, cap, d, rfl, hR, h2⟩ := h
  exact ⟨ao, n, cap, d, rfl, hR.keeps hb, h2⟩
theorem Num.shape {w : World} {v : Value} {V : Int} (h : Num w v V) : ∃ ao n cap, v = .slice ao n cap := by
  obtain ⟨ao, n, cap, d, e, _⟩ := h
  exact ⟨ao, n, cap, e⟩
theorem Num.alloc {w : World} {v : Value} {V : Int} (h : Num w v V) (o : Obj) : Num (w.alloc o) v V := h.keeps ((Below.refl _ _).alloc (Nat.le_refl _) _)
theorem Num.len {w : World} {ao : Option Addr} {n cap : Nat} {V : Int} (h : Num w (.slice ao n cap) V) {k : Nat} (hV : V < P k) : n ≤ k := by
  obtain ⟨ao', n', cap', d, e, hR, h2, h3⟩ := h
  simp only [Value.slice.injEq] at e
  obtain ⟨rfl, rfl, rfl⟩ := e
  by_cases hk : n ≤ k
  · exact hk
  · have a := val_top h2.1 (by omega) h2.2
    have b := P_le (show k ≤ n - 1 by omega)
    omega
theorem Num.nonneg {w : World} {v : Value} {V : Int} (h : Num w v V) : 0 ≤ V := by
  obtain ⟨ao', n', cap', d, e, hR, h2, rfl⟩ := h
  exact val_nonneg h2.1
theorem Num.zero {w : World} {ao : Option Addr} {n cap : Nat} {V : Int} (h : Num w (.slice ao n cap) V) : V = 0 ↔ n = 0 := by
  obtain ⟨ao', n', cap', d, e, hR, h2, rfl⟩ := h
  simp only [Value.slice.injEq] at e
  obtain ⟨rfl, rfl, rfl⟩ := e
  exact val_zero h2
theorem bel_alloc (w : World) (o : Obj) : Below w.heap.size w (w.alloc o) := (Below.refl _ _).alloc (Nat.le_refl _) _
theorem bel_alloc2 (w : World) (o p : Obj) : Below w.heap.size w ((w.alloc o).alloc p) := (bel_alloc w o).alloc (by simp) _
end Go.Proofs.YtjlmpgbadgkgmaaGreatDoor

/-
  Plain mathematics of sums, differences, products of digit lists, a digit at a time; of their order. No Go text in sight.
-/
namespace Go.Proofs.YtjlmpgbadgkgmaaGreatDoor.M
open Go
set_option linter.unusedSimpArgs false
set_option linter.unusedVariables false

theorem dig_mul {x y : Int} (hx : 0 ≤ x ∧ x < 1073741824) (hy : 0 ≤ y ∧ y < 1073741824) : 0 ≤ x * y ∧ x * y ≤ 1152921502459363329 := by
  refine ⟨Int.mul_nonneg hx.1 hy.1, ?_⟩
  have h1 : x * y ≤ 1073741823 * y := Int.mul_le_mul_of_nonneg_right (by omega) hy.1
  omega
theorem zero_dig (n : Nat) : Dig (fun _ => 0) n := fun i _ => ⟨Int.le_refl 0, show (0 : Int) < 1073741824 by decide⟩
theorem mod_dig (x : Int) : 0 ≤ x % 1073741824 ∧ x % 1073741824 < 1073741824 := by omega
/-- One digit of a sum (x is what the lists hold there): what is written, what is carried on. -/
theorem sum_step {r : Nat → Int} {k : Nat} {c x V : Int} (h : val r k + c * P k = V) : val (upd r k ((c + x) % 1073741824)) (k + 1) + (c + x) / 1073741824 * P (k + 1) = V + x * P k := by
  rw [val_succ, val_upd_ge r _ (Nat.le_refl k), upd_same, P_succ, carry_step, h]
/-- One digit of a row of a product. -/
theorem mul_step {r r0 b : Nat → Int} {i j : Nat} {c ai : Int} (h : val r (i + j) + c * P (i + j) = val r0 (i + j) + ai * val b j * P i) (hr : r (i + j) = r0 (i + j)) :
    val (upd r (i + j) ((c + (ai * b j + r (i + j))) % 1073741824)) (i + (j + 1)) + (c + (ai * b j + r (i + j))) / 1073741824 * P (i + (j + 1)) = val r0 (i + (j + 1)) + ai * val b (j + 1) * P i := by
  have e := sum_step (x := ai * b j + r (i + j)) h
  rw [← Nat.add_assoc, e, val_succ, val_succ, P_add, hr]
  grind
/-- A row of a product, with what it carries out put on top. -/
theorem mul_row {r r0 b : Nat → Int} {i m : Nat} {c ai A : Int} (h : val r (i + m) + c * P (i + m) = val r0 (i + m) + ai * val b m * P i) (h0 : val r0 (i + m) = A * val b m) :
    val (upd r (i + m) c) (i + 1 + m) = (A + ai * P i) * val b m := by
  rw [show i + 1 + m = i + m + 1 by omega, val_succ, upd_same, val_upd_ge r _ (Nat.le_refl _), h, h0]
  grind
theorem nrm_of_top {d : Nat → Int} {n t : Nat} (hd : Dig d n) (ht : t ≤ n) (htop : Top d t) (hz : ∀ i, t ≤ i → i < n → d i = 0) : Nrm d t ∧ val d t = val d n :=
  ⟨⟨hd.le ht, htop⟩, (val_zeros ht hz).symm⟩
/-- The order of two lists of one length: the highest digits that differ tell it. -/
theorem cmp_top {d e : Nat → Int} {n k : Nat} (hd : Dig d n) (he : Dig e n) (hk : k < n) (hs : ∀ i, k < i → i < n → d i = e i) (hlt : d k < e k) : val d n < val e n := by
  have s1 := val_split d (k + 1) (n - (k + 1))
  have s2 := val_split e (k + 1) (n - (k + 1))
  rw [show k + 1 + (n - (k + 1)) = n by omega] at s1 s2
  have e1 : val (fun i => d (k + 1 + i)) (n - (k + 1)) = val (fun i => e (k + 1 + i)) (n - (k + 1)) := val_congr fun i hi => hs _ (by omega) (by omega)
  rw [s1, s2, e1, val_succ, val_succ]
  have a := val_lt (hd.le (show k ≤ n by omega))
  have b := val_nonneg (he.le (show k ≤ n by omega))
  have c : (d k + 1) * P k ≤ e k * P k := Int.mul_le_mul_of_nonneg_right (by omega) (Int.le_of_lt (P_pos k))
  rw [Int.add_mul] at c
  omega
/-- The order of two numbers, as Go tells it. -/
def ord (a b : Int) : Int := if a < b then -1 else if b < a then 1 else 0
theorem ord_lt {a b : Int} (h : a < b) : ord a b = -1 := by simp [ord, h]
theorem ord_gt {a b : Int} (h : b < a) : ord a b = 1 := by simp [ord, h]; omega
theorem ord_eq {a b : Int} (h : a = b) : ord a b = 0 := by simp [ord, h]
end Go.Proofs.YtjlmpgbadgkgmaaGreatDoor.M

/-
  Package nat: Valid, trim, compare, sum, difference, by contracts: for every list in memory.
-/
namespace Go.Proofs.YtjlmpgbadgkgmaaGreatDoor
open Go Go.RowKit Go.Proofs.YtjlmpgbadgkgmaaGreatDoor.M
set_option linter.unusedSimpArgs false
set_option linter.unusedVariables false

instance (d : Nat → Int) (n : Nat) : Decidable (Dig d n) := by unfold Dig; infer_instance
instance (d : Nat → Int) (n : Nat) : Decidable (Top d n) := by unfold Top; infer_instance
instance (d : Nat → Int) (n : Nat) : Decidable (Nrm d n) := by unfold Nrm; infer_instance
/-- Is it a valid list? -/
def okB (d : Nat → Int) (n : Nat) : Bool := decide (n ≤ 2000 ∧ Nrm d n)
theorem okB_yes {d : Nat → Int} {n : Nat} (h : n ≤ 2000) (k : Nrm d n) : okB d n = true := by simp [okB, h, k]
theorem ret_bool {a b : Bool} (h : a = b) : Ending.returned (.bool a) = .returned (.bool b) := by rw [h]
theorem ret_int {k : IntKind} {a b : Int} (h : a = b) : Ending.returned (.int k a) = .returned (.int k b) := by rw [h]
end Go.Proofs.YtjlmpgbadgkgmaaGreatDoor

/-
  Package nat: sum, difference, compare, by contracts: for every two lists of digits.
-/
namespace Go.Proofs.YtjlmpgbadgkgmaaGreatDoor
open Go Go.RowKit Go.Proofs.YtjlmpgbadgkgmaaGreatDoor.M
set_option linter.unusedSimpArgs false
set_option linter.unusedVariables false

end Go.Proofs.YtjlmpgbadgkgmaaGreatDoor

/-
  Package nat: product, by its contract: for every two lists of digits.
-/
namespace Go.Proofs.YtjlmpgbadgkgmaaGreatDoor
open Go Go.RowKit Go.Proofs.YtjlmpgbadgkgmaaGreatDoor.M
set_option linter.unusedSimpArgs false
set_option linter.unusedVariables false

end Go.Proofs.YtjlmpgbadgkgmaaGreatDoor

/-
  Package nat: Cmp, Add, Sub, Mul, by contracts: for every two lists.
-/
namespace Go.Proofs.YtjlmpgbadgkgmaaGreatDoor
open Go Go.RowKit Go.Proofs.YtjlmpgbadgkgmaaGreatDoor.M
set_option linter.unusedSimpArgs false
set_option linter.unusedVariables false

theorem ord_top {d e : Nat → Int} {n k : Nat} (hd : Dig d n) (he : Dig e n) (hk : k < n) (hs : ∀ i, k < i → i < n → d i = e i) (hne : d k ≠ e k) : ord (d k) (e k) = ord (val d n) (val e n) := by
  rcases Int.lt_or_gt_of_ne hne with h1 | h1
  · rw [ord_lt h1, ord_lt (cmp_top hd he hk hs h1)]
  · rw [ord_gt h1, ord_gt (cmp_top he hd hk (fun i a b => (hs i a b).symm) h1)]

/-- What fit hands on. -/
def fitV (ao : Option Addr) (t cap : Nat) : Value := if 2000 < t then .slice none 0 0 else .slice ao t cap
def fitE (t : Nat) : Int := if 2000 < t then 2 else 0
theorem Fit.of {w w' : World} {V : Int} {ao : Option Addr} {t cap : Nat} {d : Nat → Int} (h1 : Out w.heap.size w' (.slice ao t cap) t d) (h2 : Nrm d t) (h3 : val d t = V) (hb : Below w.heap.size w w') : Fit w w' V (fitV ao t cap) (fitE t) := by
  refine ⟨hb, ?_⟩
  by_cases h : 2000 < t
  · refine .inr ⟨?_, by simp [fitE, h], by simp [fitV, h]⟩
    have a := val_top h2.1 (by omega) h2.2
    have b := P_le (show 2000 ≤ t - 1 by omega)
    omega
  · refine .inl ⟨?_, by simp [fitE, h], ?_⟩
    · have a := val_lt h2.1
      have b := P_le (show t ≤ 2000 by omega)
      omega
    · rw [show fitV ao t cap = .slice ao t cap by simp [fitV, h]]
      exact ⟨t, d, h1, h2, h3, hb⟩

/-- The two lists of a call, as they lie. -/
structure Two (w : World) (ao bo : Option Addr) (n m ca cb : Nat) (a b : Nat → Int) : Prop where
  ra : Row w ao n ca a
  rb : Row w bo m cb b
theorem Two.keeps {w w' : World} {ao bo : Option Addr} {n m ca cb : Nat} {a b : Nat → Int} (h : Two w ao bo n m ca cb a b) (hb : Below w.heap.size w w') : Two w' ao bo n m ca cb a b := ⟨h.ra.keeps hb, h.rb.keeps hb⟩

end Go.Proofs.YtjlmpgbadgkgmaaGreatDoor

/-
  Plain mathematics of shifts of digit lists: powers of 2, bits put together, digits shifted by part of a digit. No Go text in sight.
-/
namespace Go.Proofs.YtjlmpgbadgkgmaaGreatDoor.M
open Go
set_option linter.unusedSimpArgs false
set_option linter.unusedVariables false

/-- l is the lowest bit of V. -/
def IsLow (V : Int) (l : Nat) : Prop := ∃ m : Int, V = (2 * m + 1) * 2 ^ l
theorem two_pos (k : Nat) : (0 : Int) < 2 ^ k := Int.pow_pos (by decide)
theorem P_two (n : Nat) : P n = 2 ^ (30 * n) := by
  induction n with
  | zero => rfl
  | succ n ih => rw [P_succ, ih, show 30 * (n + 1) = 30 * n + 30 by omega, Int.pow_add]; rfl
theorem two_split (k : Nat) : (2 : Int) ^ k = P (k / 30) * 2 ^ (k % 30) := by
  rw [P_two, ← Int.pow_add]; congr 1; omega
theorem two_le {j k : Nat} (h : j ≤ k) : (2 : Int) ^ j ≤ 2 ^ k := by
  obtain ⟨m, rfl⟩ := Nat.exists_eq_add_of_le h
  rw [Int.pow_add]
  have h1 := two_pos j
  have h2 := two_pos m
  have h3 : (2 : Int) ^ j * 1 ≤ 2 ^ j * 2 ^ m := Int.mul_le_mul_of_nonneg_left (by omega) (by omega)
  omega
/-- The digits of a list divided by 2^t (u is 2^t, v is 2^(30 - t)), cut. -/
def low (s : Nat → Int) (u v : Int) : Nat → Int := fun i => s i / u + s (i + 1) % u * v
theorem low_dig {s : Nat → Int} {u v : Int} {n : Nat} (hu : 0 < u) (huv : u * v = 1073741824) (h : Dig s (n + 1)) : Dig (low s u v) n := by
  intro i hi
  have a := h i (by omega)
  have hv : 0 < v := by
    rcases Int.lt_or_le 0 v with h | h
    · exact h
    · have := Int.mul_nonneg (show 0 ≤ u by omega) (show 0 ≤ -v by omega); rw [Int.mul_neg] at this; omega
  have b0 : 0 ≤ s (i + 1) % u := Int.emod_nonneg _ (by omega)
  have b1 : s (i + 1) % u < u := Int.emod_lt_of_pos _ hu
  have c0 : 0 ≤ s i / u := Int.ediv_nonneg a.1 (by omega)
  have c1 : s i / u < v := (Int.ediv_lt_iff_lt_mul hu).2 (by rw [Int.mul_comm, huv]; exact a.2)
  have d1 : s (i + 1) % u * v ≤ (u - 1) * v := Int.mul_le_mul_of_nonneg_right (by omega) (by omega)
  have d0 : 0 ≤ s (i + 1) % u * v := Int.mul_nonneg b0 (by omega)
  rw [Int.sub_mul, huv] at d1
  unfold low
  omega
theorem low_val (s : Nat → Int) {u v : Int} (huv : u * v = 1073741824) (n : Nat) : val (low s u v) n * u = val s n - s 0 % u + s n % u * P n := by
  induction n with
  | zero => show (0 : Int) * u = 0 - s 0 % u + s 0 % u * 1; omega
  | succ n ih =>
    rw [val_succ, val_succ, P_succ]
    have e : s n / u * u = s n - s n % u := by have := Int.emod_add_ediv_mul (s n) u; omega
    unfold low at ih ⊢
    have e2 : (val (fun i => s i / u + s (i + 1) % u * v) n + (s n / u + s (n + 1) % u * v) * P n) * u = val (fun i => s i / u + s (i + 1) % u * v) n * u + (s n / u * u) * P n + s (n + 1) % u * (u * v) * P n := by grind
    rw [e2, ih, e, huv]; grind
theorem low_eq {s : Nat → Int} {u v : Int} (hu : 0 < u) (huv : u * v = 1073741824) {n : Nat} (h : s n = 0) : val (low s u v) n = val s n / u := by
  have h1 := low_val s huv n
  rw [h, Int.zero_emod, Int.zero_mul, Int.add_zero] at h1
  have b0 : 0 ≤ s 0 % u := Int.emod_nonneg _ (by omega)
  have b1 : s 0 % u < u := Int.emod_lt_of_pos _ hu
  have : val s n = s 0 % u + val (low s u v) n * u := by omega
  rw [this, Int.add_mul_ediv_right _ _ (by omega), Int.ediv_eq_zero_of_lt b0 b1]; omega
/-- A list without its lowest digits. -/
theorem val_drop (d : Nat → Int) {w n : Nat} (h : w ≤ n) (hd : Dig d n) : val (fun i => d (w + i)) (n - w) = val d n / P w := by
  have e := val_split d w (n - w)
  rw [show w + (n - w) = n by omega] at e
  rw [e, Int.add_mul_ediv_left _ _ (by have := P_pos w; omega), Int.ediv_eq_zero_of_lt (val_nonneg (hd.le h)) (val_lt (hd.le h))]; omega
theorem val_shift0 (d : Nat → Int) (w n : Nat) (h : ∀ i, i < w → d i = 0) : val d (w + n) = P w * val (fun i => d (w + i)) n := by
  rw [val_split, val_zeros (Nat.zero_le w) (fun i _ b => h i b)]; show 0 + _ = _; omega
end Go.Proofs.YtjlmpgbadgkgmaaGreatDoor.M

/-
  Plain mathematics of the number of bits: the least k with V < 2^k. No Go text in sight.
-/
namespace Go.Proofs.YtjlmpgbadgkgmaaGreatDoor.M
open Go
set_option linter.unusedSimpArgs false
set_option linter.unusedVariables false

/-- The number of bits. -/
def blen (V : Int) : Nat := if V ≤ 0 then 0 else Nat.log2 V.toNat + 1
theorem blen_zero : blen 0 = 0 := by decide
theorem blen_lt (V : Int) : V < 2 ^ blen V := by
  unfold blen
  split
  · show V < 1; omega
  · have h := @Nat.lt_log2_self V.toNat
    have e : ((V.toNat : Nat) : Int) < ((2 ^ (Nat.log2 V.toNat + 1) : Nat) : Int) := Int.ofNat_lt.2 h
    rw [Int.toNat_of_nonneg (by omega)] at e
    simpa using e
theorem blen_pos {V : Int} (h : 0 < V) : 1 ≤ blen V ∧ 2 ^ (blen V - 1) ≤ V := by
  unfold blen
  rw [if_neg (by omega)]
  refine ⟨by omega, ?_⟩
  have h1 := Nat.log2_self_le (n := V.toNat) (by omega)
  have e : ((2 ^ Nat.log2 V.toNat : Nat) : Int) ≤ ((V.toNat : Nat) : Int) := Int.ofNat_le.2 h1
  rw [Int.toNat_of_nonneg (by omega)] at e
  simpa using e
theorem two_lt_iff {j k : Nat} (h : (2 : Int) ^ j < 2 ^ k) : j < k := by
  rcases Nat.lt_or_ge j k with h1 | h1
  · exact h1
  · have := two_le h1; omega
theorem blen_le {V : Int} {k : Nat} (h : V < 2 ^ k) : blen V ≤ k := by
  by_cases h0 : 0 < V
  · obtain ⟨h1, h2⟩ := blen_pos h0
    have := two_lt_iff (show (2 : Int) ^ (blen V - 1) < 2 ^ k by omega)
    omega
  · unfold blen; rw [if_pos (by omega)]; omega
theorem blen_ge {V : Int} {k : Nat} (h : 2 ^ k ≤ V) : k < blen V := by
  have h1 := blen_lt V
  exact two_lt_iff (by omega)
theorem blen_of {V : Int} {k : Nat} (h1 : 2 ^ k ≤ V) (h2 : V < 2 ^ (k + 1)) : blen V = k + 1 := by
  have a := blen_ge h1
  have b := blen_le h2
  omega
theorem bitLen_eq {x : Int} (h0 : 0 ≤ x) (h1 : x < 18446744073709551616) : (Lib.bitLen x.toNat : Int) = blen x := by
  by_cases hx : x = 0
  · subst hx; decide
  · obtain ⟨a, b, c⟩ := Lib.bitLenAux_bounds 64 x.toNat (by omega) (by omega)
    have e : blen x = Lib.bitLen x.toNat := by
      have hb : Lib.bitLen x.toNat = Lib.bitLenAux 64 x.toNat := rfl
      rw [← hb] at a b c
      obtain ⟨k, hk⟩ : ∃ k, Lib.bitLen x.toNat = k + 1 := ⟨Lib.bitLen x.toNat - 1, by omega⟩
      rw [hk] at b c ⊢
      have b' : ((2 ^ k : Nat) : Int) ≤ ((x.toNat : Nat) : Int) := Int.ofNat_le.2 (by simpa using b)
      have c' : ((x.toNat : Nat) : Int) < ((2 ^ (k + 1) : Nat) : Int) := Int.ofNat_lt.2 c
      rw [Int.toNat_of_nonneg h0] at b' c'
      exact blen_of (by simpa using b') (by simpa using c')
    rw [e]
theorem blen_val {d : Nat → Int} {n : Nat} (h : Nrm d (n + 1)) : blen (val d (n + 1)) = 30 * n + blen (d n) := by
  have hd := h.1 n (by omega)
  have ht : d n ≠ 0 := by rcases h.2 with e | e; (· omega); (· simpa using e)
  have hp : 0 < d n := by omega
  obtain ⟨a, b⟩ := blen_pos hp
  have c := blen_lt (d n)
  have v0 := val_nonneg (h.1.le (Nat.le_succ n))
  have v1 := val_lt (h.1.le (Nat.le_succ n))
  have pp := P_pos n
  obtain ⟨k, hk⟩ : ∃ k, blen (d n) = k + 1 := ⟨blen (d n) - 1, by omega⟩
  rw [hk] at b c ⊢
  rw [show 30 * n + (k + 1) = (30 * n + k) + 1 by omega]
  have e1 : (2 : Int) ^ (30 * n + k) = 2 ^ k * P n := by rw [Int.pow_add, P_two, Int.mul_comm]
  have e2 : (2 : Int) ^ (30 * n + k + 1) = 2 ^ (k + 1) * P n := by rw [show 30 * n + k + 1 = 30 * n + (k + 1) by omega, Int.pow_add, P_two, Int.mul_comm]
  have f1 : (2 : Int) ^ k * P n ≤ d n * P n := Int.mul_le_mul_of_nonneg_right (by simpa using b) (by omega)
  have f2 : (d n + 1) * P n ≤ 2 ^ (k + 1) * P n := Int.mul_le_mul_of_nonneg_right (by omega) (by omega)
  rw [Int.add_mul] at f2
  apply blen_of
  · rw [e1, val_succ]; omega
  · rw [e2, val_succ]; omega
end Go.Proofs.YtjlmpgbadgkgmaaGreatDoor.M

/-
  math/bits.Len64 and Len; nat's width, bitLength, Bits, by contracts.
-/
namespace Go.Proofs.YtjlmpgbadgkgmaaGreatDoor
open Go Go.RowKit Go.Proofs.YtjlmpgbadgkgmaaGreatDoor.M
set_option linter.unusedSimpArgs false
set_option linter.unusedVariables false

theorem len_close (x q : Int) (s : Nat) (h : q.toNat < Lib.len8tab.size) (hq0 : 0 ≤ q) (hq : q ≤ 255) (hs : s ≤ 56) (hb : Lib.bitLen x.toNat = s + Lib.bitLen q.toNat) :
    wrap64 ((s : Int) + wrap64 ((Lib.len8tab[q.toNat]'h).toNat : Int)) = (Lib.bitLen x.toNat : Int) := by
  have e := Lib.len8_of q hq0 hq
  have l := Lib.bitLen_le8' q hq0 hq
  unfold Lib.len8 at e
  rw [getElem?_pos Lib.len8tab q.toNat h] at e
  simp only [Option.getD_some] at e
  rw [e, hb]
  unfold wrap64
  omega
theorem len_close0 (x : Int) (h : x.toNat < Lib.len8tab.size) (hq0 : 0 ≤ x) (hq : x ≤ 255) :
    wrap64 (wrap64 ((Lib.len8tab[x.toNat]'h).toNat : Int)) = (Lib.bitLen x.toNat : Int) := by
  have := len_close x x 0 h hq0 hq (by omega) (by omega)
  simpa using this
theorem len_q (x q : Int) (s : Nat) (h0 : 0 ≤ x) (h1 : x ≤ 18446744073709551615) (hx : ((2 ^ s : Nat) : Int) ≤ x) (e : q = x / ((2 ^ s : Nat) : Int)) : Lib.bitLen x.toNat = s + Lib.bitLen q.toNat := by
  rw [Lib.bitLen_shift s x.toNat (by omega) (by omega), e]
  congr 2
  obtain ⟨n, rfl⟩ := Int.eq_ofNat_of_zero_le h0
  rw [← Int.natCast_ediv, Int.toNat_natCast, Int.toNat_natCast]
set_option maxHeartbeats 4000000 in
set_option maxRecDepth 100000 in
theorem len64 (x : Int) (w : World) (h0 : 0 ≤ x) (h1 : x ≤ 18446744073709551615) :
    Calls Tryz.prog 56 #[.int .u64 x] w fun e w' => e = .returned (.int .i64 (Lib.bitLen x.toNat)) ∧ w' = w := by
  have hs : Lib.len8tab.size = 256 := by decide +kernel
  go_enter Tryz.func56, Tryz.ntmps56
  go_wp2
  all_goals go_ret
  · exact ⟨ret_int (len_close x _ 56 _ (by omega) (by omega) (by omega) (len_q x _ 56 h0 h1 (by omega) (by omega))), rfl⟩
  · exact ⟨ret_int (len_close x _ 48 _ (by omega) (by omega) (by omega) (len_q x _ 48 h0 h1 (by omega) (by omega))), rfl⟩
  · exact ⟨ret_int (len_close x _ 40 _ (by omega) (by omega) (by omega) (len_q x _ 40 h0 h1 (by omega) (by omega))), rfl⟩
  · exact ⟨ret_int (len_close x _ 32 _ (by omega) (by omega) (by omega) (len_q x _ 32 h0 h1 (by omega) (by omega))), rfl⟩
  · exact ⟨ret_int (len_close x _ 24 _ (by omega) (by omega) (by omega) (len_q x _ 24 h0 h1 (by omega) (by omega))), rfl⟩
  · exact ⟨ret_int (len_close x _ 16 _ (by omega) (by omega) (by omega) (len_q x _ 16 h0 h1 (by omega) (by omega))), rfl⟩
  · exact ⟨ret_int (len_close x _ 8 _ (by omega) (by omega) (by omega) (len_q x _ 8 h0 h1 (by omega) (by omega))), rfl⟩
  · exact ⟨ret_int (len_close0 x _ (by omega) (by omega)), rfl⟩
theorem len_any (x : Int) (w : World) (h0 : 0 ≤ x) (h1 : x ≤ 18446744073709551615) :
    Calls Tryz.prog 33 #[.int .u64 x] w fun e w' => e = .returned (.int .i64 (blen x)) ∧ w' = w := by
  go_enter Tryz.func33, Tryz.ntmps33
  go_wp2_with (go_at_call 56; refine (len64 _ _ (by omega) (by omega)).mono ?_; rintro e w' ⟨rfl, rfl⟩)
  go_ret
  exact ⟨ret_int (bitLen_eq h0 (by omega)), rfl⟩
end Go.Proofs.YtjlmpgbadgkgmaaGreatDoor

/-
  The statements' own helpers: Same, digits, alive, by contracts.
-/
namespace Go.Proofs.YtjlmpgbadgkgmaaGreatDoor
open Go Go.RowKit Go.Proofs.YtjlmpgbadgkgmaaGreatDoor.M
set_option linter.unusedSimpArgs false
set_option linter.unusedVariables false

instance (n : Nat) (a b : Nat → Int) : Decidable (∀ i, i < n → a i = b i) := by infer_instance
/-- Are two lists one? -/
def sameB (a b : Nat → Int) (n m : Nat) : Bool := decide (n = m ∧ ∀ i, i < n → a i = b i)
set_option maxHeartbeats 1000000 in
theorem same_any (ao bo : Option Addr) (n m ca cb : Nat) (a b : Nat → Int) (w : World) (ha : Row w ao n ca a) (hb : Row w bo m cb b) :
    Calls Tryz.prog 11 #[.slice ao n ca, .slice bo m cb] w fun e w' => e = .returned (.bool (sameB a b n m)) ∧ Below w.heap.size w w' := by
  have hla := ha.le
  have hma := ha.max
  have hlb := hb.le
  have hmb := hb.max
  by_cases hnm : n = m
  · subst hnm
    go_enter Tryz.func11, Tryz.ntmps11
    go_wp2
    go_loopw [5] (fun i wr => ∃ k : Nat, k ≤ n ∧ i = .int .i64 k ∧ Hid (∀ i, i < k → a i = b i) ∧ Below w.heap.size w wr) (fun i _ => n - (intOf i).toNat)
    case atStart => exact ⟨0, Nat.zero_le _, rfl, fun i _ => by omega, bel_refl _⟩
    case round =>
      obtain ⟨k, hk, rfl, HS, hbw⟩ := hrel
      by_cases hlt : k < n
      · obtain ⟨ba, fa, rfl, hba, hca⟩ := ha.spot (by omega)
        obtain ⟨bb, fb, rfl, hbb, hcb⟩ := hb.spot (by omega)
        have c1 := (hbw.cell (p := ⟨ba, fa + k, none⟩) hba).trans (hca k hlt)
        have c2 := (hbw.cell (p := ⟨bb, fb + k, none⟩) hbb).trans (hcb k hlt)
        by_cases he : a k = b k
        · have he' : (a k != b k) = false := by simp [he]
          have HE : Hid (a k = b k) := he
          clear he
          go_wp2
          go_quiet (fail)
          go_wp2
          go_roundw
          case rel => exact ⟨k + 1, by omega, by go_num, fun i x => by by_cases e : i = k; (· rw [e]; exact HE.out); (· exact HS.out i (by omega)), bDrewN hbw _⟩
          case measure => simp [intOf]; omega
        · have he' : (a k != b k) = true := by simp [he]
          go_wp2
          go_quiet (fail)
          go_wp2
          go_ret
          exact ⟨ret_bool (decide_eq_false (fun q => he (q.2 k hlt))).symm, bDrewN hbw _⟩
      · obtain rfl : k = n := by omega
        go_wp2
        go_ret
        exact ⟨ret_bool (decide_eq_true (⟨rfl, HS.out⟩ : k = k ∧ ∀ i, i < k → a i = b i)).symm, hbw⟩
  · go_enter Tryz.func11, Tryz.ntmps11
    go_wp2
    go_ret
    exact ⟨ret_bool (decide_eq_false (fun q => hnm q.1)).symm, bel_refl _⟩
theorem Num.ok {d : Nat → Int} {n : Nat} (h : Nrm d n) (hV : val d n < P 2000) : okB d n = true := by
  refine okB_yes ?_ h
  by_cases hk : n ≤ 2000
  · exact hk
  · have a := val_top h.1 (by omega) h.2
    have b := P_le (show 2000 ≤ n - 1 by omega)
    omega
theorem Fit.ans {w w' : World} {V er : Int} {v : Value} (h : Fit w w' V v er) (hV : V < P 2000) : er = 0 ∧ Ans w w' V v := by
  rcases h.2 with ⟨_, h1, h2⟩ | ⟨h1, _⟩
  · exact ⟨h1, h2⟩
  · omega
end Go.Proofs.YtjlmpgbadgkgmaaGreatDoor
