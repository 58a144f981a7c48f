/-
  Parts of the proof, one behind another.
-/
import Derived.Test.YtjlmpgbadgkgmaaGreatDoorPart1
import Derived.Lib.BitFns
import Derived.Lib.TrailingZeros
import Derived.Test.YtjlmpgbadgkgmaaGreatDoorPart4
import Derived.Tactics
import Derived.Tactics2
import Derived.Defers
import Derived.Recover
import Derived.Laws.Pointers
import Derived.WalkLawsBesides
import Derived.WideLaws
import Derived.Deep.RegionHeld3
import Derived.WalkSmall
/-
  Plain mathematics of Join: the odd part of a whole number, its length, how far it is shifted; the document's two loops come to the same. No Go text in sight.
-/
namespace Go.Proofs.YtjlmpgbadgkgmaaGreatDoor.M
open Go
set_option linter.unusedSimpArgs false
set_option linter.unusedVariables false

/-- how often 2 divides; the odd part -/
def jz (mag : Int) : Nat := Lib.ctz 64 mag.toNat
def jo (mag : Int) : Int := mag / 2 ^ jz mag
def jl (mag : Int) : Int := Lib.bitLen (jo mag).toNat
/-- room above the odd part; the shift; the exponent above the least one -/
def jsp (fr mag : Int) : Int := fr + 1 - jl mag
def jsh (fr least mag exp : Int) : Int := min (jsp fr mag) (exp + jz mag - least)
def jab (fr least mag exp : Int) : Int := exp + jz mag - jsh fr least mag exp - least
def jgood (fr top least mag exp : Int) : Bool := decide (0 ≤ jsp fr mag) && (decide (least ≤ exp + jz mag) && decide (jab fr least mag exp ≤ top - 2))
def jk (fr top least mag exp : Int) : Bool := if mag < 0 then false else if mag = 0 then true else jgood fr top least mag exp
def jv (fr top least mag exp : Int) : Int := if mag ≤ 0 then 0 else if jgood fr top least mag exp then jab fr least mag exp * 2 ^ fr.toNat + jo mag * 2 ^ (jsh fr least mag exp).toNat else 0

theorem bitLen_spec (n : Nat) (h : n < 2 ^ 64) (h0 : n ≠ 0) : 2 ^ (Lib.bitLen n - 1) ≤ n ∧ n < 2 ^ Lib.bitLen n ∧ 1 ≤ Lib.bitLen n ∧ Lib.bitLen n ≤ 64 := by
  have hl : Lib.bitLen n ≤ 64 := Lib.bitLen_le n 64 (by omega) h
  -- by halving
  have main : ∀ f n : Nat, n < 2 ^ f → f ≤ 64 → n ≠ 0 → 2 ^ (Lib.bitLen n - 1) ≤ n ∧ n < 2 ^ Lib.bitLen n ∧ 1 ≤ Lib.bitLen n := by
    intro f
    induction f with
    | zero => intro n h _ h0; simp at h; omega
    | succ f ih =>
      intro n h hf h0
      have h64 : n < 2 ^ 64 := Nat.lt_of_lt_of_le h (Nat.pow_le_pow_right (by decide) hf)
      have e := Lib.bitLen_half n h0 h64
      by_cases h2 : n / 2 = 0
      · have h1 : n = 1 := by omega
        subst h1
        have : Lib.bitLen 1 = 1 := by decide +kernel
        rw [this]; decide
      · obtain ⟨a, b, c⟩ := ih (n / 2) (by rw [Nat.pow_succ] at h; omega) (by omega) h2
        obtain ⟨m, hm⟩ : ∃ m, Lib.bitLen (n / 2) = m + 1 := ⟨Lib.bitLen (n / 2) - 1, by omega⟩
        rw [e, hm]
        rw [hm] at a b
        simp only [Nat.add_sub_cancel] at a
        refine ⟨?_, ?_, by omega⟩
        · rw [show 1 + (m + 1) - 1 = m + 1 by omega, Nat.pow_succ]; omega
        · rw [show 1 + (m + 1) = m + 1 + 1 by omega, Nat.pow_succ]; omega
  obtain ⟨a, b, c⟩ := main 64 n h (by omega) h0
  exact ⟨a, b, c, hl⟩
/-- a length is known by the two powers around it -/
theorem bitLen_lt (n k : Nat) (h : n < 2 ^ 64) (h0 : n ≠ 0) : n < 2 ^ k ↔ Lib.bitLen n ≤ k := by
  obtain ⟨a, b, c, d⟩ := bitLen_spec n h h0
  constructor
  · intro hk
    apply Nat.le_of_not_lt
    intro hlt
    have : 2 ^ k ≤ 2 ^ (Lib.bitLen n - 1) := Nat.pow_le_pow_right (by decide) (by omega)
    omega
  · intro hk
    exact Nat.lt_of_lt_of_le b (Nat.pow_le_pow_right (by decide) hk)
theorem jz_spec {mag : Int} (h0 : 0 < mag) (h : mag < 9223372036854775808) : ∃ m : Nat, mag = 2 ^ jz mag * (2 * m + 1) ∧ jz mag < 63 ∧ jo mag = 2 * m + 1 := by
  unfold jo jz
  obtain ⟨n, rfl⟩ := Int.eq_ofNat_of_zero_le (Int.le_of_lt h0)
  have hn : n ≠ 0 := by omega
  simp only [Int.toNat_natCast]
  obtain ⟨m, hm, hk⟩ := Lib.ctzFrom_spec 64 n (by omega) (by omega)
  have e : Lib.ctz 64 n = Lib.ctzFrom 64 n := by simp [Lib.ctz, hn]
  rw [e]
  have hp : 0 < 2 ^ Lib.ctzFrom 64 n := Nat.two_pow_pos _
  have hz : Lib.ctzFrom 64 n < 63 := by
    apply Nat.lt_of_not_le
    intro hle
    have : 2 ^ 63 ≤ 2 ^ Lib.ctzFrom 64 n := Nat.pow_le_pow_right (by decide) hle
    have : 2 ^ Lib.ctzFrom 64 n ≤ n := by
      rw (occs := .pos [2]) [hm]
      exact Nat.le_mul_of_pos_right _ (by omega)
    omega
  have hm' : (n : Int) = 2 ^ Lib.ctzFrom 64 n * (2 * (m : Int) + 1) := by
    have : ((2 ^ Lib.ctzFrom 64 n * (2 * m + 1) : Nat) : Int) = 2 ^ Lib.ctzFrom 64 n * (2 * (m : Int) + 1) := by
      rw [Int.natCast_mul]; simp
    rw [← this, ← hm]
  refine ⟨m, hm', hz, ?_⟩
  have hpi : (0 : Int) < 2 ^ Lib.ctzFrom 64 n := Int.pow_pos (by decide)
  rw (occs := .pos [1]) [hm']
  exact Int.mul_ediv_cancel_left _ (by omega)
theorem jo_le {mag : Int} (h0 : 0 < mag) (h : mag < 9223372036854775808) : 1 ≤ jo mag ∧ jo mag ≤ mag := by
  obtain ⟨m, a, b, c⟩ := jz_spec h0 h
  have hp : (0 : Int) < 2 ^ jz mag := Int.pow_pos (by decide)
  have : (2 * (m : Int) + 1) * 1 ≤ (2 * (m : Int) + 1) * 2 ^ jz mag := Int.mul_le_mul_of_nonneg_left (by omega) (by omega)
  rw [Int.mul_comm _ (2 ^ jz mag), ← a] at this
  omega
theorem jl_le {mag : Int} (h0 : 0 < mag) (h : mag < 9223372036854775808) : 1 ≤ jl mag ∧ jl mag ≤ 63 := by
  obtain ⟨a, b⟩ := jo_le h0 h
  have s := bitLen_spec (jo mag).toNat (by omega) (by omega)
  unfold jl
  have := (bitLen_lt (jo mag).toNat 63 (by omega) (by omega)).1 (by omega)
  omega
/-- what the odd part comes to, shifted -/
theorem jshift_lt {fr mag : Int} (h0 : 0 < mag) (h : mag < 9223372036854775808) (hf : 0 ≤ fr) (s : Nat) (hs : (s : Int) ≤ jsp fr mag) : 1 ≤ jo mag * 2 ^ s ∧ jo mag * 2 ^ s < 2 ^ (fr.toNat + 1) := by
  obtain ⟨a, b⟩ := jo_le h0 h
  have sp := bitLen_spec (jo mag).toNat (by omega) (by omega)
  unfold jsp jl at hs
  have hp : (0 : Int) < 2 ^ s := Int.pow_pos (by decide)
  constructor
  · have : (1 : Int) * 1 ≤ jo mag * 2 ^ s := Int.mul_le_mul a (by omega) (by omega) (by omega)
    omega
  · have h1 : (jo mag).toNat * 2 ^ s < 2 ^ (Lib.bitLen (jo mag).toNat) * 2 ^ s := Nat.mul_lt_mul_of_pos_right sp.2.1 (Nat.two_pow_pos _)
    rw [← Nat.pow_add] at h1
    have h2 : 2 ^ (Lib.bitLen (jo mag).toNat + s) ≤ 2 ^ (fr.toNat + 1) := Nat.pow_le_pow_right (by decide) (by omega)
    have h3 : (jo mag).toNat * 2 ^ s < 2 ^ (fr.toNat + 1) := Nat.lt_of_lt_of_le h1 h2
    have h4 : (((jo mag).toNat * 2 ^ s : Nat) : Int) < ((2 ^ (fr.toNat + 1) : Nat) : Int) := Int.ofNat_lt.2 h3
    rw [Int.natCast_mul, Int.toNat_of_nonneg (by omega)] at h4
    simpa using h4
theorem jgood_far {mag exp : Int} (h0 : 0 < mag) (h : mag < 9223372036854775808) (hf : 1025 < exp) : jgood 52 2047 (-1074) mag exp = false := by
  have := jl_le h0 h
  unfold jgood jab jsh jsp
  simp; intro _ _; omega
theorem jgood_far32 {mag exp : Int} (h0 : 0 < mag) (h : mag < 9223372036854775808) (hf : 129 < exp) : jgood 23 255 (-149) mag exp = false := by
  have := jl_le h0 h
  unfold jgood jab jsh jsp
  simp; intro _ _; omega
theorem jv_le {mag exp : Int} (hm : rng mag) : 0 ≤ jv 52 2047 (-1074) mag exp ∧ jv 52 2047 (-1074) mag exp < 9218868437227405312 := by
  unfold rng at hm
  unfold jv
  by_cases h0 : mag ≤ 0
  · rw [if_pos h0]; omega
  · rw [if_neg h0]
    by_cases hk : jgood 52 2047 (-1074) mag exp = true
    · rw [if_pos hk]
      unfold jgood at hk
      simp only [Bool.and_eq_true, decide_eq_true_eq] at hk
      have hl := jl_le (mag := mag) (by omega) hm.2
      have hs : 0 ≤ jsh 52 (-1074) mag exp ∧ jsh 52 (-1074) mag exp ≤ jsp 52 mag := by unfold jsh; omega
      have hb := jshift_lt (fr := 52) (mag := mag) (by omega) hm.2 (by omega) (jsh 52 (-1074) mag exp).toNat (by omega)
      have hb2 : jo mag * 2 ^ (jsh 52 (-1074) mag exp).toNat < 9007199254740992 := hb.2
      have ha : 0 ≤ jab 52 (-1074) mag exp := by unfold jab jsh; omega
      -- a normal number's highest bit is counted into the field
      have e : (2 : Int) ^ (52 : Int).toNat = 4503599627370496 := by decide
      rw [e]
      omega
    · rw [if_neg hk]; omega
theorem jv_le32 {mag exp : Int} (hm : rng mag) : 0 ≤ jv 23 255 (-149) mag exp ∧ jv 23 255 (-149) mag exp < 2139095040 := by
  unfold rng at hm
  unfold jv
  by_cases h0 : mag ≤ 0
  · rw [if_pos h0]; omega
  · rw [if_neg h0]
    by_cases hk : jgood 23 255 (-149) mag exp = true
    · rw [if_pos hk]
      unfold jgood at hk
      simp only [Bool.and_eq_true, decide_eq_true_eq] at hk
      have hl := jl_le (mag := mag) (by omega) hm.2
      have hs : 0 ≤ jsh 23 (-149) mag exp ∧ jsh 23 (-149) mag exp ≤ jsp 23 mag := by unfold jsh; omega
      have hb := jshift_lt (fr := 23) (mag := mag) (by omega) hm.2 (by omega) (jsh 23 (-149) mag exp).toNat (by omega)
      have hb2 : jo mag * 2 ^ (jsh 23 (-149) mag exp).toNat < 16777216 := hb.2
      have ha : 0 ≤ jab 23 (-149) mag exp := by unfold jab jsh; omega
      have e : (2 : Int) ^ (23 : Int).toNat = 8388608 := by decide
      rw [e]
      omega
    · rw [if_neg hk]; omega
/-- halving: how the document's first loop goes -/
theorem halved {mag : Int} (h0 : 0 < mag) (h : mag < 9223372036854775808) (k : Nat) (hk : k < jz mag) : mag / 2 ^ k % 2 = 0 ∧ mag / 2 ^ k / 2 = mag / 2 ^ (k + 1) ∧ 0 < mag / 2 ^ k ∧ mag / 2 ^ k < 9223372036854775808 := by
  obtain ⟨m, a, b, c⟩ := jz_spec h0 h
  have hp : (0 : Int) < 2 ^ k := Int.pow_pos (by decide)
  have e1 : mag / 2 ^ k = 2 ^ (jz mag - k) * (2 * m + 1) := by
    rw (occs := .pos [1]) [a]
    rw [show jz mag = k + (jz mag - k) by omega, Int.pow_add, Int.mul_assoc]
    rw [show k + (jz mag - k) - k = jz mag - k by omega]
    exact Int.mul_ediv_cancel_left _ (by omega)
  have e2 : (2 : Int) ^ (jz mag - k) = 2 * 2 ^ (jz mag - k - 1) := by
    rw [show jz mag - k = (jz mag - k - 1) + 1 by omega, Int.pow_succ, Int.mul_comm]
    simp
  have hq : (0 : Int) < 2 ^ (jz mag - k) := Int.pow_pos (by decide)
  refine ⟨?_, ?_, ?_, ?_⟩
  · rw [e1, e2, Int.mul_assoc]; exact Int.mul_emod_right _ _
  · rw [Int.pow_succ, Int.ediv_ediv_of_nonneg (by omega)]
  · rw [e1]; exact Int.mul_pos hq (by omega)
  · have : mag / 2 ^ k ≤ mag := Int.ediv_le_self _ (by omega)
    omega
theorem halved_end {mag : Int} (h0 : 0 < mag) (h : mag < 9223372036854775808) : jo mag % 2 = 1 := by
  obtain ⟨m, a, b, c⟩ := jz_spec h0 h
  omega
/-- doubling: how the document's second loop goes -/
theorem doubled {fr mag : Int} (h0 : 0 < mag) (h : mag < 9223372036854775808) (hf : 0 ≤ fr) (j : Nat) : jo mag * 2 ^ j < 2 ^ fr.toNat ↔ (j : Int) < jsp fr mag := by
  obtain ⟨a, b⟩ := jo_le h0 h
  have sp := bitLen_spec (jo mag).toNat (by omega) (by omega)
  unfold jsp jl
  have hc : ((((jo mag).toNat * 2 ^ j : Nat)) : Int) = jo mag * 2 ^ j := by
    rw [Int.natCast_mul, Int.toNat_of_nonneg (by omega)]; simp
  have hd : ((2 ^ fr.toNat : Nat) : Int) = 2 ^ fr.toNat := by simp
  rw [← hc, ← hd, Int.ofNat_lt]
  constructor
  · intro hlt
    have h1 : 2 ^ (Lib.bitLen (jo mag).toNat - 1) * 2 ^ j ≤ (jo mag).toNat * 2 ^ j := Nat.mul_le_mul_right _ sp.1
    rw [← Nat.pow_add] at h1
    have h2 : 2 ^ (Lib.bitLen (jo mag).toNat - 1 + j) < 2 ^ fr.toNat := by omega
    have := (Nat.pow_lt_pow_iff_right (by decide : 1 < 2)).1 h2
    omega
  · intro hlt
    have h1 : (jo mag).toNat * 2 ^ j < 2 ^ (Lib.bitLen (jo mag).toNat) * 2 ^ j := Nat.mul_lt_mul_of_pos_right sp.2.1 (Nat.two_pow_pos _)
    rw [← Nat.pow_add] at h1
    exact Nat.lt_of_lt_of_le h1 (Nat.pow_le_pow_right (by decide) (by omega))
/-- what the document's shifted answers -/
def sk (fr low mag exp : Int) : Bool := decide (0 ≤ jsp fr mag) && decide (low ≤ exp + jz mag)
def sm (fr low mag exp : Int) : Int := if sk fr low mag exp then jo mag * 2 ^ (jsh fr low mag exp).toNat else 0
def se (fr low mag exp : Int) : Int := if sk fr low mag exp then exp + jz mag - jsh fr low mag exp else 0
/-- Join's pattern, with its sign -/
def jp (neg : Bool) (mag exp : Int) : Int := if jk 52 2047 (-1074) mag exp && neg then jv 52 2047 (-1074) mag exp - 9223372036854775808 else jv 52 2047 (-1074) mag exp
def jp32 (neg : Bool) (mag exp : Int) : Int := if jk 23 255 (-149) mag exp && neg then jv 23 255 (-149) mag exp + 2147483648 else jv 23 255 (-149) mag exp
theorem jgood_near {mag exp : Int} (h0 : 0 < mag) (h : mag < 9223372036854775808) (hf : exp < -2000) : jgood 52 2047 (-1074) mag exp = false := by
  obtain ⟨_, _, a, _⟩ := jz_spec h0 h
  unfold jgood; simp; intro _ _; omega
theorem jgood_near32 {mag exp : Int} (h0 : 0 < mag) (h : mag < 9223372036854775808) (hf : exp < -2000) : jgood 23 255 (-149) mag exp = false := by
  obtain ⟨_, _, a, _⟩ := jz_spec h0 h
  unfold jgood; simp; intro _ _; omega
theorem jgood_sk (mag exp : Int) : jgood 52 2047 (-1074) mag exp = (sk 52 (-1074) mag exp && decide (se 52 (-1074) mag exp ≤ 971)) := by
  unfold jgood se jab
  by_cases h : sk 52 (-1074) mag exp = true
  · rw [if_pos h, h]
    unfold sk at h
    simp only [Bool.and_eq_true, decide_eq_true_eq] at h
    simp only [h.1, h.2, decide_true, Bool.true_and]
    congr 1; apply propext; omega
  · have h' : sk 52 (-1074) mag exp = false := by simpa using h
    rw [h']
    unfold sk at h'
    simp only [Bool.false_and]
    simp only [Bool.and_eq_false_iff, decide_eq_false_iff_not] at h' ⊢
    omega
/-- the pattern, off what shifted answers -/
theorem jv_sm {mag exp : Int} (h0 : 0 < mag) (h : mag < 9223372036854775808) (hk : sk 52 (-1074) mag exp = true) (he : se 52 (-1074) mag exp ≤ 971) :
    1 ≤ sm 52 (-1074) mag exp ∧ sm 52 (-1074) mag exp < 9007199254740992 ∧ -1074 ≤ se 52 (-1074) mag exp ∧
    jv 52 2047 (-1074) mag exp = (if sm 52 (-1074) mag exp < 4503599627370496 then sm 52 (-1074) mag exp else (se 52 (-1074) mag exp + 1075) * 4503599627370496 + sm 52 (-1074) mag exp - 4503599627370496) := by
  have hg : jgood 52 2047 (-1074) mag exp = true := by rw [jgood_sk, hk]; simpa using he
  have hk' := hk
  unfold sk at hk'
  simp only [Bool.and_eq_true, decide_eq_true_eq] at hk'
  have hs : 0 ≤ jsh 52 (-1074) mag exp ∧ jsh 52 (-1074) mag exp ≤ jsp 52 mag ∧ jsh 52 (-1074) mag exp ≤ exp + jz mag + 1074 := by unfold jsh; omega
  have hb := jshift_lt (fr := 52) h0 h (by omega) (jsh 52 (-1074) mag exp).toNat (by omega)
  have hb2 : jo mag * 2 ^ (jsh 52 (-1074) mag exp).toNat < 9007199254740992 := hb.2
  have hd := doubled (fr := 52) h0 h (by omega) (jsh 52 (-1074) mag exp).toNat
  rw [show (2 : Int) ^ (52 : Int).toNat = 4503599627370496 by decide] at hd
  have es : sm 52 (-1074) mag exp = jo mag * 2 ^ (jsh 52 (-1074) mag exp).toNat := by unfold sm; rw [if_pos hk]
  have ee : se 52 (-1074) mag exp = exp + jz mag - jsh 52 (-1074) mag exp := by unfold se; rw [if_pos hk]
  rw [es, ee]
  refine ⟨hb.1, hb2, by omega, ?_⟩
  unfold jv jab
  rw [if_neg (by omega), if_pos hg, show (2 : Int) ^ (52 : Int).toNat = 4503599627370496 by decide]
  split
  · rename_i hlt
    have := hd.1 hlt
    have : jsh 52 (-1074) mag exp = exp + jz mag + 1074 := by unfold jsh at *; omega
    omega
  · omega
theorem jgood_sk32 (mag exp : Int) : jgood 23 255 (-149) mag exp = (sk 23 (-149) mag exp && decide (se 23 (-149) mag exp ≤ 104)) := by
  unfold jgood se jab
  by_cases h : sk 23 (-149) mag exp = true
  · rw [if_pos h, h]
    unfold sk at h
    simp only [Bool.and_eq_true, decide_eq_true_eq] at h
    simp only [h.1, h.2, decide_true, Bool.true_and]
    congr 1; apply propext; omega
  · have h' : sk 23 (-149) mag exp = false := by simpa using h
    rw [h']
    unfold sk at h'
    simp only [Bool.false_and]
    simp only [Bool.and_eq_false_iff, decide_eq_false_iff_not] at h' ⊢
    omega
/-- the pattern, off what shifted answers -/
theorem jv_sm32 {mag exp : Int} (h0 : 0 < mag) (h : mag < 9223372036854775808) (hk : sk 23 (-149) mag exp = true) (he : se 23 (-149) mag exp ≤ 104) :
    1 ≤ sm 23 (-149) mag exp ∧ sm 23 (-149) mag exp < 16777216 ∧ -149 ≤ se 23 (-149) mag exp ∧
    jv 23 255 (-149) mag exp = (if sm 23 (-149) mag exp < 8388608 then sm 23 (-149) mag exp else (se 23 (-149) mag exp + 150) * 8388608 + sm 23 (-149) mag exp - 8388608) := by
  have hg : jgood 23 255 (-149) mag exp = true := by rw [jgood_sk32, hk]; simpa using he
  have hk' := hk
  unfold sk at hk'
  simp only [Bool.and_eq_true, decide_eq_true_eq] at hk'
  have hs : 0 ≤ jsh 23 (-149) mag exp ∧ jsh 23 (-149) mag exp ≤ jsp 23 mag ∧ jsh 23 (-149) mag exp ≤ exp + jz mag + 149 := by unfold jsh; omega
  have hb := jshift_lt (fr := 23) h0 h (by omega) (jsh 23 (-149) mag exp).toNat (by omega)
  have hb2 : jo mag * 2 ^ (jsh 23 (-149) mag exp).toNat < 16777216 := hb.2
  have hd := doubled (fr := 23) h0 h (by omega) (jsh 23 (-149) mag exp).toNat
  rw [show (2 : Int) ^ (23 : Int).toNat = 8388608 by decide] at hd
  have es : sm 23 (-149) mag exp = jo mag * 2 ^ (jsh 23 (-149) mag exp).toNat := by unfold sm; rw [if_pos hk]
  have ee : se 23 (-149) mag exp = exp + jz mag - jsh 23 (-149) mag exp := by unfold se; rw [if_pos hk]
  rw [es, ee]
  refine ⟨hb.1, hb2, by omega, ?_⟩
  unfold jv jab
  rw [if_neg (by omega), if_pos hg, show (2 : Int) ^ (23 : Int).toNat = 8388608 by decide]
  split
  · rename_i hlt
    have := hd.1 hlt
    have : jsh 23 (-149) mag exp = exp + jz mag + 149 := by unfold jsh at *; omega
    omega
  · omega
end Go.Proofs.YtjlmpgbadgkgmaaGreatDoor.M

/-
  Plain mathematics: the value of a joined pattern; what Parts tells is joined again to the same pattern; the neighbour of a pattern by its parts. No Go text in sight.
-/
namespace Go.Proofs.YtjlmpgbadgkgmaaGreatDoor.M
open Go Ieee
set_option linter.unusedSimpArgs false
set_option linter.unusedVariables false

theorem V_parts (f : Format) (a n : Nat) (h : (a = 0 ∧ n < 2 * f.binade) ∨ (f.binade ≤ n ∧ n < 2 * f.binade)) : V f (a * f.binade + n) = n * 2 ^ a := by
  have hB := binade_pos f
  unfold V
  by_cases hn : n < f.binade
  · have ha : a = 0 := by omega
    subst ha
    rw [Nat.zero_mul, Nat.zero_add, if_pos hn]; simp
  · have hge : f.binade ≤ a * f.binade + n := Nat.le_trans (by omega) (Nat.le_add_left _ _)
    rw [if_neg (by omega)]
    have e : a * f.binade + n = f.binade * (a + 1) + (n - f.binade) := by
      rw [Nat.mul_add, Nat.mul_one, Nat.mul_comm]; omega
    rw [e, Nat.mul_add_mod, Nat.mod_eq_of_lt (show n - f.binade < f.binade by omega), Nat.mul_add_div hB, Nat.div_eq_of_lt (show n - f.binade < f.binade by omega)]
    rw [show a + 1 + 0 - 1 = a by omega, show f.binade + (n - f.binade) = n by omega]
theorem V_inj (f : Format) {r s : Nat} (h : V f r = V f s) : r = s := by
  rcases Nat.lt_trichotomy r s with h1 | h1 | h1
  · have := V_lt f h1; omega
  · exact h1
  · have := V_lt f h1; omega
theorem pow_split (z : Nat) (n : Int) (u : Nat) (m : Nat) (hn : 0 ≤ n) (h : z ≤ u) (hm : (m : Int) = n * 2 ^ z) : n.toNat * 2 ^ u = m * 2 ^ (u - z) := by
  obtain ⟨k, rfl⟩ := Int.eq_ofNat_of_zero_le hn
  have hm' : m = k * 2 ^ z := by
    have : ((k * 2 ^ z : Nat) : Int) = (k : Int) * 2 ^ z := by rw [Int.natCast_mul]; simp
    omega
  rw [hm', Int.toNat_natCast, Nat.mul_assoc, ← Nat.pow_add, show z + (u - z) = u by omega]
/-- the value of a joined pattern, in units of the least place -/
theorem V_join (f : Format) (fr : Nat) (hB : f.binade = 2 ^ fr) (top least mag exp : Int) (h0 : 0 < mag) (h : mag < 9223372036854775808)
    (hg : jgood fr top least mag exp = true) (he : least ≤ exp) : V f (jv fr top least mag exp).toNat = mag.toNat * 2 ^ (exp - least).toNat := by
  obtain ⟨m, ez, z63, eo⟩ := jz_spec h0 h
  have hg' := hg
  unfold jgood at hg'
  simp only [Bool.and_eq_true, decide_eq_true_eq] at hg'
  have hs : 0 ≤ jsh fr least mag exp ∧ jsh fr least mag exp ≤ jsp fr mag ∧ jsh fr least mag exp ≤ exp + jz mag - least := by unfold jsh; omega
  have hb := jshift_lt (fr := fr) h0 h (by omega) (jsh fr least mag exp).toNat (by omega)
  have hd := doubled (fr := fr) h0 h (by omega) (jsh fr least mag exp).toNat
  have ha : 0 ≤ jab fr least mag exp := by unfold jab; omega
  obtain ⟨n, hn⟩ := Int.eq_ofNat_of_zero_le (show 0 ≤ jo mag * 2 ^ (jsh fr least mag exp).toNat by omega)
  obtain ⟨a, ha'⟩ := Int.eq_ofNat_of_zero_le ha
  rw [hn] at hb hd
  have hB1 : ((f.binade : Nat) : Int) = 2 ^ fr := by rw [hB]; simp
  rw [Int.toNat_natCast, ← hB1] at hd
  have hb2 : (n : Int) < 2 * (f.binade : Int) := by
    have := hb.2
    rw [Int.toNat_natCast, Int.pow_succ, ← hB1] at this
    omega
  have ejv : (jv fr top least mag exp).toNat = a * f.binade + n := by
    unfold jv
    rw [if_neg (by omega), if_pos hg, hn, ha', Int.toNat_natCast, ← hB1]
    have : ((a : Int) * (f.binade : Int) + (n : Int)) = ((a * f.binade + n : Nat) : Int) := by rw [Int.natCast_add, Int.natCast_mul]
    rw [this, Int.toNat_natCast]
  rw [ejv, V_parts f a n (by
    by_cases hn1 : n < f.binade
    · left
      have := hd.1 (by omega)
      have : jab fr least mag exp = 0 := by unfold jab; unfold jsh at *; omega
      omega
    · right; omega)]
  -- n * 2 ^ a = mag * 2 ^ (exp - least)
  have e1 : mag.toNat * 2 ^ (exp - least).toNat = (jo mag).toNat * 2 ^ (jz mag + (exp - least).toNat) := by
    have hm : ((mag.toNat : Nat) : Int) = jo mag * 2 ^ jz mag := by
      rw [Int.toNat_of_nonneg (by omega), eo, Int.mul_comm]; exact ez
    rw [pow_split (jz mag) (jo mag) (jz mag + (exp - least).toNat) mag.toNat (by omega) (by omega) hm]
    congr 2; omega
  have e2 : n * 2 ^ a = (jo mag).toNat * 2 ^ ((jsh fr least mag exp).toNat + a) := by
    rw [pow_split (jsh fr least mag exp).toNat (jo mag) ((jsh fr least mag exp).toNat + a) n (by omega) (by omega) (by rw [← hn])]
    congr 2; omega
  rw [e1, e2]
  congr 2
  unfold jab at ha'
  omega
/-- the odd part and the twos together are no longer than the whole -/
theorem jzl {mag : Int} (h0 : 0 < mag) (h : mag < 9223372036854775808) (k : Nat) (hk : mag < 2 ^ k) : (jz mag : Int) + jl mag ≤ k := by
  obtain ⟨m, ez, z63, eo⟩ := jz_spec h0 h
  have hj := jo_le h0 h
  have sp := bitLen_spec (jo mag).toNat (by omega) (by omega)
  have h1 : 2 ^ (Lib.bitLen (jo mag).toNat - 1) * 2 ^ jz mag ≤ (jo mag).toNat * 2 ^ jz mag := Nat.mul_le_mul_right _ sp.1
  rw [← Nat.pow_add] at h1
  have h2 : (((jo mag).toNat * 2 ^ jz mag : Nat) : Int) = mag := by
    rw [Int.natCast_mul, Int.toNat_of_nonneg (by omega), eo, Int.mul_comm]
    simp only [Int.natCast_pow]
    exact ez.symm
  have h3 : (jo mag).toNat * 2 ^ jz mag < 2 ^ k := by
    have : ((2 ^ k : Nat) : Int) = 2 ^ k := by simp
    omega
  have h4 : 2 ^ (Lib.bitLen (jo mag).toNat - 1 + jz mag) < 2 ^ k := by omega
  have := (Nat.pow_lt_pow_iff_right (by decide : 1 < 2)).1 h4
  unfold jl
  omega
theorem jgood_small {fr top least mag exp : Int} (h0 : 0 < mag) (h : mag < 9223372036854775808) (hf : 0 ≤ fr) (hk : mag < 2 ^ (fr.toNat + 1)) (he : least ≤ exp) (he2 : exp ≤ top - 2 + least) : jgood fr top least mag exp = true := by
  have hl := jzl h0 h (fr.toNat + 1) hk
  have := jl_le h0 h
  unfold jgood jab jsh jsp
  simp only [Bool.and_eq_true, decide_eq_true_eq]
  omega
/-! binary64 -/
def rg (b : Int) : Int := if b < 0 then b + 9223372036854775808 else b
theorem rg_parts {b : Int} (h : rng b) : 0 ≤ rg b ∧ rg b = fld b * 4503599627370496 + frc b := by
  unfold rng at h; unfold rg fld frc; split <;> omega
theorem pparts {b : Int} (h : pok b = true) : fld b ≠ 2047 := by simpa [pok] using h
theorem dB : Ieee.double.binade = 2 ^ 52 := by decide
theorem V_rg {b : Int} (hb : rng b) (hp : pok b = true) : V Ieee.double (rg b).toNat = (pmag b).toNat * 2 ^ (pexp b + 1074).toNat := by
  have hne := pparts hp
  obtain ⟨r0, r1⟩ := rg_parts hb
  have hf := fld_le b
  have ht := frc_le b
  by_cases h0 : fld b = 0
  · have e : (rg b).toNat = 0 * Ieee.double.binade + (frc b).toNat := by omega
    rw [e, V_parts _ _ _ (.inl ⟨rfl, by rw [dB]; omega⟩)]
    simp [pmag, pexp, h0]
  · have e : (rg b).toNat = (fld b - 1).toNat * Ieee.double.binade + (4503599627370496 + frc b).toNat := by rw [dB]; omega
    rw [e, V_parts _ _ _ (.inr (by rw [dB]; omega))]
    unfold pmag pexp
    rw [if_neg hne, if_neg h0, if_neg hne, if_neg h0]
    congr 2; omega
theorem pmag_le {b : Int} (hp : pok b = true) : 0 ≤ pmag b ∧ pmag b < 9007199254740992 ∧ -1074 ≤ pexp b ∧ pexp b ≤ 971 := by
  have hne := pparts hp
  have hf := fld_le b
  have ht := frc_le b
  unfold pmag pexp; rw [if_neg hne, if_neg hne]; split <;> omega
/-- Parts joined again: the same pattern -/
theorem join_parts {b : Int} (hb : rng b) (hp : pok b = true) : jk 52 2047 (-1074) (pmag b) (pexp b) = true ∧ jp (pneg b) (pmag b) (pexp b) = b := by
  obtain ⟨m0, m1, e0, e1⟩ := pmag_le hp
  obtain ⟨r0, r1⟩ := rg_parts hb
  have hV := V_rg hb hp
  have hneg : pneg b = decide (b < 0) := by unfold pneg; rw [hp]; simp
  by_cases hz : pmag b = 0
  · have hr : (rg b).toNat = 0 := by
      rw [hz] at hV
      refine V_inj Ieee.double ?_
      rw [hV, V_zero]; simp
    have hk : jk 52 2047 (-1074) (pmag b) (pexp b) = true := by rw [hz]; simp [jk]
    refine ⟨hk, ?_⟩
    unfold jp; rw [hk, hneg, hz]
    unfold rng at hb; unfold rg at *
    by_cases h : b < 0
    · simp [h, jv] at *; omega
    · simp [h, jv] at *; omega
  · have hg : jgood 52 2047 (-1074) (pmag b) (pexp b) = true := jgood_small (by omega) (by omega) (by omega) (by simpa using m1) e0 (by omega)
    have hk : jk 52 2047 (-1074) (pmag b) (pexp b) = true := by unfold jk; rw [if_neg (by omega), if_neg hz]; exact hg
    have hj := V_join Ieee.double 52 dB 2047 (-1074) (pmag b) (pexp b) (by omega) (by omega) hg e0
    rw [show pexp b - -1074 = pexp b + 1074 by omega, ← hV] at hj
    have hj' := V_inj _ hj
    have hl := jv_le (mag := pmag b) (exp := pexp b) (by unfold rng; omega)
    refine ⟨hk, ?_⟩
    have ev : jv 52 2047 (-1074) (pmag b) (pexp b) = rg b := by
      have : jv ((52 : Nat) : Int) 2047 (-1074) (pmag b) (pexp b) = jv 52 2047 (-1074) (pmag b) (pexp b) := rfl
      rw [this] at hj'
      omega
    unfold jp; rw [hk, hneg, ev]
    unfold rng at hb; unfold rg
    by_cases h : b < 0
    · simp [h] <;> omega
    · simp [h]
/-- the neighbour away from 0, by the parts -/
theorem join_next {b : Int} (hb : rng b) (hp : pok b = true) (hk : jk 52 2047 (-1074) (pmag b + 1) (pexp b) = true) : jp false (pmag b + 1) (pexp b) = next (abs b) := by
  obtain ⟨m0, m1, e0, e1⟩ := pmag_le hp
  obtain ⟨r0, r1⟩ := rg_parts hb
  have hV := V_rg hb hp
  have hne := pparts hp
  have hf := fld_le b
  have ht := frc_le b
  have hg : jgood 52 2047 (-1074) (pmag b + 1) (pexp b) = true := by unfold jk at hk; rw [if_neg (by omega), if_neg (by omega)] at hk; exact hk
  have hj := V_join Ieee.double 52 dB 2047 (-1074) (pmag b + 1) (pexp b) (by omega) (by omega) hg e0
  -- the next rung's value
  have hV1 : V Ieee.double ((rg b).toNat + 1) = (pmag b + 1).toNat * 2 ^ (pexp b + 1074).toNat := by
    by_cases h0 : fld b = 0
    · have e : (rg b).toNat + 1 = 0 * Ieee.double.binade + (frc b + 1).toNat := by omega
      rw [e, V_parts _ _ _ (.inl ⟨rfl, by rw [dB]; omega⟩)]
      simp [pmag, pexp, h0]
    · by_cases h9 : frc b + 1 < 4503599627370496
      · have e : (rg b).toNat + 1 = (fld b - 1).toNat * Ieee.double.binade + (4503599627370496 + frc b + 1).toNat := by rw [dB]; omega
        rw [e, V_parts _ _ _ (.inr (by rw [dB]; omega))]
        unfold pmag pexp
        rw [if_neg hne, if_neg h0, if_neg hne, if_neg h0]
        congr 2; omega
      · have e : (rg b).toNat + 1 = (fld b).toNat * Ieee.double.binade + (4503599627370496 : Nat) := by rw [dB]; omega
        rw [e, V_parts _ _ _ (.inr (by rw [dB]; omega))]
        unfold pmag pexp
        rw [if_neg hne, if_neg h0, if_neg hne, if_neg h0]
        have e2 : (fld b).toNat = (fld b - 1075 + 1074).toNat + 1 := by omega
        rw [e2, Nat.pow_succ]
        have e3 : (4503599627370496 + frc b + 1).toNat = 4503599627370496 * 2 := by omega
        rw [e3]
        rw [Nat.mul_comm (2 ^ (fld b - 1075 + 1074).toNat) 2, ← Nat.mul_assoc]
  rw [show pexp b - -1074 = pexp b + 1074 by omega, ← hV1] at hj
  have hj' := V_inj _ hj
  have hl := jv_le (mag := pmag b + 1) (exp := pexp b) (by unfold rng; omega)
  have ev : jv 52 2047 (-1074) (pmag b + 1) (pexp b) = rg b + 1 := by
    have : jv ((52 : Nat) : Int) 2047 (-1074) (pmag b + 1) (pexp b) = jv 52 2047 (-1074) (pmag b + 1) (pexp b) := rfl
    rw [this] at hj'
    omega
  have hc4 : ¬ cls b = 4 := by rw [cls4]; omega
  have ea : abs b = rg b := by unfold abs; rw [if_neg hc4]; rfl
  have hc4' : ¬ cls (rg b) = 4 := by
    rw [cls4]; unfold rng at hb; unfold rg fld frc at *; split <;> omega
  unfold jp
  rw [ev, ea]
  simp only [Bool.and_false, Bool.false_eq_true, if_false]
  unfold next
  rw [if_neg hc4', if_neg (by omega), if_neg (by omega), if_neg (by omega)]
/-- a power of 2 that Parts tells of is there -/
theorem join_one {b : Int} (hp : pok b = true) : jk 52 2047 (-1074) 1 (pexp b) = true := by
  obtain ⟨m0, m1, e0, e1⟩ := pmag_le hp
  unfold jk; rw [if_neg (by omega), if_neg (by omega)]
  exact jgood_small (by omega) (by omega) (by omega) (by decide) e0 (by omega)
/-! binary32 -/
def rg32 (b : Int) : Int := if b < 2147483648 then b else b - 2147483648
theorem pparts32 {b : Int} (h : pok32 b = true) : 0 ≤ b ∧ b < 4294967296 ∧ fld32 b ≠ 255 := by
  unfold pok32 at h
  simp only [Bool.and_eq_true] at h
  have := of_decide_eq_true h.1
  exact ⟨this.1, this.2, by simpa using h.2⟩
theorem rg32_parts {b : Int} (h0 : 0 ≤ b) (h1 : b < 4294967296) : 0 ≤ rg32 b ∧ rg32 b = fld32 b * 8388608 + frc32 b := by
  unfold rg32 fld32 frc32; split <;> omega
theorem sB : Ieee.single.binade = 2 ^ 23 := by decide
theorem V_rg32 {b : Int} (hp : pok32 b = true) : V Ieee.single (rg32 b).toNat = (pmag32 b).toNat * 2 ^ (pexp32 b + 149).toNat := by
  obtain ⟨b0, b1, hne⟩ := pparts32 hp
  obtain ⟨r0, r1⟩ := rg32_parts b0 b1
  have hf := fld32_le b
  have ht := frc32_le b
  by_cases h0 : fld32 b = 0
  · have e : (rg32 b).toNat = 0 * Ieee.single.binade + (frc32 b).toNat := by omega
    rw [e, V_parts _ _ _ (.inl ⟨rfl, by rw [sB]; omega⟩)]
    simp [pmag32, pexp32, h0, hp]
  · have e : (rg32 b).toNat = (fld32 b - 1).toNat * Ieee.single.binade + (8388608 + frc32 b).toNat := by rw [sB]; omega
    rw [e, V_parts _ _ _ (.inr (by rw [sB]; omega))]
    unfold pmag32 pexp32
    rw [if_pos hp, if_neg h0, if_pos hp, if_neg h0]
    congr 2; omega
theorem pmag32_le {b : Int} (hp : pok32 b = true) : 0 ≤ pmag32 b ∧ pmag32 b < 16777216 ∧ -149 ≤ pexp32 b ∧ pexp32 b ≤ 104 := by
  obtain ⟨b0, b1, hne⟩ := pparts32 hp
  have hf := fld32_le b
  have ht := frc32_le b
  unfold pmag32 pexp32; rw [if_pos hp, if_pos hp]; split <;> omega
theorem join_parts32 {b : Int} (hp : pok32 b = true) : jk 23 255 (-149) (pmag32 b) (pexp32 b) = true ∧ jp32 (pneg32 b) (pmag32 b) (pexp32 b) = b := by
  obtain ⟨m0, m1, e0, e1⟩ := pmag32_le hp
  obtain ⟨b0, b1, hne⟩ := pparts32 hp
  obtain ⟨r0, r1⟩ := rg32_parts b0 b1
  have hV := V_rg32 hp
  have hneg : pneg32 b = decide (2147483648 ≤ b) := by unfold pneg32; rw [hp]; simp
  by_cases hz : pmag32 b = 0
  · have hr : (rg32 b).toNat = 0 := by
      rw [hz] at hV
      refine V_inj Ieee.single ?_
      rw [hV, V_zero]; simp
    have hk : jk 23 255 (-149) (pmag32 b) (pexp32 b) = true := by rw [hz]; simp [jk]
    refine ⟨hk, ?_⟩
    unfold jp32; rw [hk, hneg, hz]
    have hr0 : rg32 b = 0 := by omega
    unfold rg32 at hr0
    by_cases h : 2147483648 ≤ b
    · simp [h, jv]; split at hr0 <;> omega
    · simp [h, jv]; split at hr0 <;> omega
  · have hg : jgood 23 255 (-149) (pmag32 b) (pexp32 b) = true := jgood_small (by omega) (by omega) (by omega) (by simpa using m1) e0 (by omega)
    have hk : jk 23 255 (-149) (pmag32 b) (pexp32 b) = true := by unfold jk; rw [if_neg (by omega), if_neg hz]; exact hg
    have hj := V_join Ieee.single 23 sB 255 (-149) (pmag32 b) (pexp32 b) (by omega) (by omega) hg e0
    rw [show pexp32 b - -149 = pexp32 b + 149 by omega, ← hV] at hj
    have hj' := V_inj _ hj
    have hl := jv_le32 (mag := pmag32 b) (exp := pexp32 b) (by unfold rng; omega)
    refine ⟨hk, ?_⟩
    have ev : jv 23 255 (-149) (pmag32 b) (pexp32 b) = rg32 b := by
      have : jv ((23 : Nat) : Int) 255 (-149) (pmag32 b) (pexp32 b) = jv 23 255 (-149) (pmag32 b) (pexp32 b) := rfl
      rw [this] at hj'
      omega
    unfold jp32; rw [hk, hneg, ev]
    by_cases h : 2147483648 ≤ b
    · have e : rg32 b = b - 2147483648 := by unfold rg32; rw [if_neg (by omega)]
      simp [h, e]
    · have e : rg32 b = b := by unfold rg32; rw [if_pos (by omega)]
      simp [h, e]
theorem pok32_cls (b : Int) : pok32 b = decide (cls32 b < 3) := by
  by_cases hi : in32 b = true
  · have hb := of_decide_eq_true hi
    unfold pok32 cls32
    rw [hi, if_neg (by omega)]
    by_cases h : fld32 b = 255 <;> by_cases h2 : frc32 b = 0 <;> by_cases h3 : fld32 b = 0 <;> simp [h, h2, h3]
  · have hn : b < 0 ∨ 4294967296 ≤ b := by simp [in32] at hi; omega
    have h' : in32 b = false := by simpa using hi
    unfold pok32 cls32
    rw [h', if_pos hn]; simp
theorem rng_pmag (b : Int) : rng (pmag b) := by
  have := frc_le b
  unfold rng pmag; repeat' split
  all_goals omega
theorem rng_pexp' (b : Int) : rng (pexp b) := by
  have := fld_le b
  unfold rng pexp; repeat' split
  all_goals omega
theorem rng_pmag32 (b : Int) : rng (pmag32 b) := by
  have := frc32_le b
  unfold rng pmag32; repeat' split
  all_goals omega
theorem rng_pexp32 (b : Int) : rng (pexp32 b) := by
  have := fld32_le b
  unfold rng pexp32; repeat' split
  all_goals omega
end Go.Proofs.YtjlmpgbadgkgmaaGreatDoor.M

/-
  Plain mathematics of rounding: the units that are cut out of a number, what is left, the rung of a float. No Go text in sight.
-/
namespace Go.Proofs.YtjlmpgbadgkgmaaGreatDoor.M
open Go Ieee
set_option linter.unusedSimpArgs false
set_option linter.unusedVariables false

/-- How many units of 2^sh a magnitude holds. -/
def rU (mag : Nat) (sh : Int) : Nat := if sh ≤ 0 then mag * 2 ^ (-sh).toNat else mag / 2 ^ sh.toNat
/-- What is left, held against half a unit: nothing, less, half, more. -/
def rL (mag : Nat) (cut : Bool) (sh : Int) : Int :=
  if sh ≤ 0 then 0 else if mag % 2 ^ sh.toNat = 0 ∧ cut = false then 0 else if 2 * (mag % 2 ^ sh.toNat) < 2 ^ sh.toNat then 1 else if 2 * (mag % 2 ^ sh.toNat) = 2 ^ sh.toNat ∧ cut = false then 2 else 3
/-- The exponent of the units. -/
def rE (size low : Int) (mag : Nat) (exp : Int) : Int := max (exp + (Lib.bitLen mag : Int) - size) low
/-- Does a way raise the units? -/
def rUp (way : Int) (neg odd : Bool) (left : Int) : Bool :=
  if way = 0 then decide (left = 3) || (decide (left = 2) && odd) else if way = 1 then decide (left ≠ 0) && neg else if way = 2 then decide (left ≠ 0) && !neg else false
/-- What is known of a number: mag 2^exp, or more by less than 2^exp. -/
def Held (A : Int) (mag : Nat) (exp : Int) (cut : Bool) : Prop := (mag : Int) * pw exp ≤ A ∧ A < ((mag : Int) + 1) * pw exp ∧ (cut = false ↔ A = (mag : Int) * pw exp)
/-- A number among the units 2^e: u of them, and what is left. -/
structure Left (A : Int) (u : Nat) (q : Int) (left : Int) : Prop where
  lo : (u : Int) * q ≤ A
  hi : A < (u : Int) * q + q
  l0 : left = 0 ↔ A = (u : Int) * q
  l1 : left = 1 ↔ (u : Int) * q < A ∧ 2 * A < 2 * ((u : Int) * q) + q
  l2 : left = 2 ↔ 2 * A = 2 * ((u : Int) * q) + q
  l3 : left = 3 ↔ 2 * ((u : Int) * q) + q < 2 * A
theorem Left.mk' {A U q left : Int} {u : Nat} (hU : (u : Int) * q = U) (lo : U ≤ A) (hi : A < U + q) (l0 : left = 0 ↔ A = U) (l1 : left = 1 ↔ U < A ∧ 2 * A < 2 * U + q) (l2 : left = 2 ↔ 2 * A = 2 * U + q) (l3 : left = 3 ↔ 2 * U + q < 2 * A) : Left A u q left := by
  subst hU
  exact ⟨lo, hi, l0, l1, l2, l3⟩
theorem two_half (n : Nat) (h : 0 < n) : ∃ k, 2 ^ n = 2 * k ∧ 0 < k := ⟨2 ^ (n - 1), by rw [← Nat.pow_succ', Nat.succ_eq_add_one, Nat.sub_add_cancel h], Nat.two_pow_pos _⟩
theorem left_of {A : Int} {mag : Nat} {exp e : Int} {cut : Bool} (h : Held A mag exp cut) (hc : cut = true → 0 < e - exp) (h0 : -4194304 ≤ e) (h1 : -4194304 ≤ exp) : Left A (rU mag (e - exp)) (pw e) (rL mag cut (e - exp)) := by
  obtain ⟨a1, a2, a3⟩ := h
  have hq := pw_pos exp
  have hqe := pw_pos e
  by_cases hs : e - exp ≤ 0
  · have hcf : cut = false := by cases cut; rfl; have := hc rfl; omega
    have hA := a3.1 hcf
    unfold rU rL
    rw [if_pos hs, if_pos hs]
    have e1 : ((mag * 2 ^ (-(e - exp)).toNat : Nat) : Int) * pw e = A := by
      rw [hA, pw_sub (e := exp) (low := e) h0 (by omega), show (exp - e).toNat = (-(e - exp)).toNat by omega]
      push_cast
      rw [Int.mul_assoc]
    exact ⟨by rw [e1]; omega, by rw [e1]; omega, by rw [e1]; simp, by rw [e1]; constructor <;> intro h <;> omega, by rw [e1]; constructor <;> intro h <;> omega, by rw [e1]; constructor <;> intro h <;> omega⟩
  · have hp : pw e = 2 ^ (e - exp).toNat * pw exp := pw_sub h1 (by omega)
    obtain ⟨s, hsn⟩ : ∃ s, (e - exp).toNat = s := ⟨_, rfl⟩
    have hs0 : 0 < s := by omega
    unfold rU rL
    rw [if_neg hs, if_neg hs, hsn]
    rw [hsn] at hp
    obtain ⟨k, hk, hk0⟩ := two_half s hs0
    have hpn : (2 : Int) ^ s = ((2 ^ s : Nat) : Int) := by simp
    rw [hpn, hk] at hp
    rw [hk]
    have hdm := Nat.div_add_mod mag (2 * k)
    have hml := Nat.mod_lt mag (show 0 < 2 * k by omega)
    generalize mag / (2 * k) = u at *
    generalize mag % (2 * k) = t at *
    generalize hQ : pw exp = q at *
    have e1 : (mag : Int) * q = (u : Int) * (((2 * k : Nat) : Int) * q) + (t : Int) * q := by
      rw [← hdm]; push_cast; rw [Int.add_mul]; congr 1; rw [Int.mul_comm (2 * (k : Int)) u, Int.mul_assoc]
    have e2 : ((mag : Int) + 1) * q = (mag : Int) * q + q := by rw [Int.add_mul, Int.one_mul]
    rw [e2, e1] at a2
    rw [e1] at a1 a3
    rw [hp]
    have e3 : ((2 * k : Nat) : Int) * q = 2 * ((k : Int) * q) := by push_cast; rw [Int.mul_assoc]
    have t1 : ∀ x y : Nat, x ≤ y → (x : Int) * q ≤ (y : Int) * q := fun x y h => Int.mul_le_mul_of_nonneg_right (by omega) (by omega)
    have t2 : ∀ x y : Nat, x < y → (x : Int) * q + q ≤ (y : Int) * q := fun x y h => by
      have := t1 (x + 1) y h
      push_cast at this
      rwa [Int.add_mul, Int.one_mul] at this
    have t0 : 0 ≤ (t : Int) * q := Int.mul_nonneg (by omega) (by omega)
    have b1 : (t : Int) * q + q ≤ 2 * ((k : Int) * q) := by rw [← e3]; exact t2 t (2 * k) hml
    rw [e3] at a1 a2 a3 ⊢
    have c1 : t < k → (t : Int) * q + q ≤ (k : Int) * q := t2 t k
    have c2 : t = k → (t : Int) * q = (k : Int) * q := fun h => by rw [h]
    have c3 : k < t → (k : Int) * q + q ≤ (t : Int) * q := t2 k t
    have c4 : t = 0 → (t : Int) * q = 0 := fun h => by rw [h]; simp
    have c5 : 0 < t → q ≤ (t : Int) * q := fun h => by have := t1 1 t h; rwa [Int.natCast_one, Int.one_mul] at this
    clear e1 e2 e3 t1 t2 hp
    obtain ⟨T, hT⟩ : ∃ T, (t : Int) * q = T := ⟨_, rfl⟩
    obtain ⟨K, hK⟩ : ∃ K, (k : Int) * q = K := ⟨_, rfl⟩
    obtain ⟨U, hU⟩ : ∃ U, (u : Int) * (2 * K) = U := ⟨_, rfl⟩
    rw [hT] at c1 c2 c3 c4 c5 t0 b1 a1 a2 a3
    rw [hK] at c1 c2 c3 b1 a1 a2 a3 ⊢
    rw [hU] at a1 a2 a3
    have a3' : cut = true → A ≠ U + T := fun h h2 => by rw [a3.2 h2] at h; cases h
    cases cut
    · have hA := a3.1 rfl
      subst hA
      by_cases z0 : t = 0
      · have := c4 z0
        rw [if_pos ⟨z0, rfl⟩]
        exact Left.mk' hU (by omega) (by omega) (by constructor <;> intro h <;> omega) (by constructor <;> intro h <;> omega) (by constructor <;> intro h <;> omega) (by constructor <;> intro h <;> omega)
      · have := c5 (by omega)
        rw [if_neg (fun h => z0 h.1)]
        by_cases z1 : t < k
        · have := c1 z1
          rw [if_pos (by omega)]
          exact Left.mk' hU (by omega) (by omega) (by constructor <;> intro h <;> omega) (by constructor <;> intro h <;> omega) (by constructor <;> intro h <;> omega) (by constructor <;> intro h <;> omega)
        · rw [if_neg (by omega)]
          by_cases z2 : t = k
          · have := c2 z2
            rw [if_pos ⟨by omega, rfl⟩]
            exact Left.mk' hU (by omega) (by omega) (by constructor <;> intro h <;> omega) (by constructor <;> intro h <;> omega) (by constructor <;> intro h <;> omega) (by constructor <;> intro h <;> omega)
          · have := c3 (by omega)
            rw [if_neg (fun h => z2 (by omega))]
            exact Left.mk' hU (by omega) (by omega) (by constructor <;> intro h <;> omega) (by constructor <;> intro h <;> omega) (by constructor <;> intro h <;> omega) (by constructor <;> intro h <;> omega)
    · have hA := a3' rfl
      rw [if_neg (fun h => by cases h.2)]
      by_cases z1 : t < k
      · have := c1 z1
        rw [if_pos (by omega)]
        exact Left.mk' hU (by omega) (by omega) (by constructor <;> intro h <;> omega) (by constructor <;> intro h <;> omega) (by constructor <;> intro h <;> omega) (by constructor <;> intro h <;> omega)
      · rw [if_neg (by omega), if_neg (fun h => by cases h.2)]
        have hkt : K ≤ T := by
          by_cases z2 : t = k
          · have := c2 z2; omega
          · have := c3 (by omega); omega
        exact Left.mk' hU (by omega) (by omega) (by constructor <;> intro h <;> omega) (by constructor <;> intro h <;> omega) (by constructor <;> intro h <;> omega) (by constructor <;> intro h <;> omega)
/-- How many bits the units have. -/
theorem rU_bits {size low : Int} {mag : Nat} {exp : Int} (hs : 0 < size) (h : mag < 2 ^ 64) (h0 : mag ≠ 0) : rU mag (rE size low mag exp - exp) < 2 ^ size.toNat ∧ (low < rE size low mag exp → 2 ^ (size.toNat - 1) ≤ rU mag (rE size low mag exp - exp)) := by
  obtain ⟨b1, b2, b3, b4⟩ := bitLen_spec mag h h0
  obtain ⟨n, hn⟩ : ∃ n, Lib.bitLen mag = n := ⟨_, rfl⟩
  obtain ⟨z, rfl⟩ : ∃ z : Nat, size = z := ⟨size.toNat, by omega⟩
  unfold rE rU
  rw [hn] at b1 b2 b3 b4 ⊢
  rw [Int.toNat_natCast]
  obtain ⟨e, he⟩ : ∃ e, max (exp + (n : Int) - (z : Int)) low = e := ⟨_, rfl⟩
  have he1 : exp + n - z ≤ e := by omega
  have he2 : low < e → e = exp + n - z := by omega
  rw [he]
  by_cases hse : e - exp ≤ 0
  · rw [if_pos hse]
    obtain ⟨k, hk⟩ : ∃ k, (-(e - exp)).toNat = k := ⟨_, rfl⟩
    rw [hk]
    refine ⟨?_, fun hl => ?_⟩
    · calc mag * 2 ^ k < 2 ^ n * 2 ^ k := Nat.mul_lt_mul_of_pos_right b2 (Nat.two_pow_pos k)
        _ = 2 ^ (n + k) := by rw [Nat.pow_add]
        _ ≤ 2 ^ z := Nat.pow_le_pow_right (by decide) (by omega)
    · have := he2 hl
      calc 2 ^ (z - 1) ≤ 2 ^ (n - 1 + k) := Nat.pow_le_pow_right (by decide) (by omega)
        _ = 2 ^ (n - 1) * 2 ^ k := by rw [Nat.pow_add]
        _ ≤ mag * 2 ^ k := Nat.mul_le_mul_right _ b1
  · rw [if_neg hse]
    obtain ⟨k, hk⟩ : ∃ k, (e - exp).toNat = k := ⟨_, rfl⟩
    rw [hk]
    refine ⟨?_, fun hl => ?_⟩
    · rw [Nat.div_lt_iff_lt_mul (Nat.two_pow_pos k), ← Nat.pow_add]
      exact Nat.lt_of_lt_of_le b2 (Nat.pow_le_pow_right (by decide) (by omega))
    · have := he2 hl
      rw [Nat.le_div_iff_mul_le (Nat.two_pow_pos k), ← Nat.pow_add]
      exact Nat.le_trans (Nat.pow_le_pow_right (by decide) (by omega)) b1
/-- The rung of u units, and of one more. -/
theorem V_rung (f : Format) (a u : Nat) (h : u < 2 * f.binade) (h2 : 0 < a → f.binade ≤ u) : V f (a * f.binade + u) = u * 2 ^ a ∧ V f (a * f.binade + u + 1) = (u + 1) * 2 ^ a := by
  have hB := binade_pos f
  refine ⟨V_parts f a u (by by_cases ha : a = 0 <;> omega), ?_⟩
  by_cases hu : u + 1 < 2 * f.binade
  · rw [Nat.add_assoc]
    exact V_parts f a (u + 1) (by by_cases ha : a = 0 <;> omega)
  · have e : a * f.binade + u + 1 = (a + 1) * f.binade + f.binade := by rw [Nat.add_mul]; omega
    rw [e, V_parts f (a + 1) f.binade (by omega), Nat.pow_succ, show u + 1 = f.binade * 2 by omega, Nat.mul_assoc, Nat.mul_comm (2 ^ a) 2]
/-- Bits of a whole number, by its odd part. -/
theorem jzl_ge {mag : Int} (h0 : 0 < mag) (h : mag < 9223372036854775808) (k : Nat) (hk : 2 ^ k ≤ mag) : (k : Int) + 1 ≤ (jz mag : Int) + jl mag := by
  obtain ⟨m, ez, z63, eo⟩ := jz_spec h0 h
  have hj := jo_le h0 h
  have sp := bitLen_spec (jo mag).toNat (by omega) (by omega)
  have h1 : (jo mag).toNat * 2 ^ jz mag < 2 ^ Lib.bitLen (jo mag).toNat * 2 ^ jz mag := Nat.mul_lt_mul_of_pos_right sp.2.1 (Nat.two_pow_pos _)
  rw [← Nat.pow_add] at h1
  have h2 : (((jo mag).toNat * 2 ^ jz mag : Nat) : Int) = mag := by
    rw [Int.natCast_mul, Int.toNat_of_nonneg (by omega), eo, Int.mul_comm]
    simp only [Int.natCast_pow]
    exact ez.symm
  have h3 : 2 ^ k ≤ (jo mag).toNat * 2 ^ jz mag := by
    have : ((2 ^ k : Nat) : Int) = 2 ^ k := by simp
    omega
  have h4 : 2 ^ k < 2 ^ (Lib.bitLen (jo mag).toNat + jz mag) := by omega
  have := (Nat.pow_lt_pow_iff_right (by decide : 1 < 2)).1 h4
  unfold jl
  omega
theorem pow2_nn (n : Nat) : (0 : Int) ≤ 2 ^ n := Int.le_of_lt (two_pos n)
/-- Join of units: the rung, if it is below the infinite one. -/
theorem join_rung (f : Format) (fr : Nat) (hfr : fr ≤ 60) (hB : f.binade = 2 ^ fr) (top least : Int) (ht : 2 ≤ top) (u : Nat) (e : Int) (h0 : 0 < u) (hu : u ≤ 2 ^ (fr + 1)) (he : least ≤ e) (hn : least < e → 2 ^ fr ≤ u) :
    let rung := (e - least).toNat * 2 ^ fr + u
    jk fr top least (u : Int) e = decide ((rung : Int) < top * 2 ^ fr) ∧ ((rung : Int) < top * 2 ^ fr → jv fr top least (u : Int) e = rung) := by
  intro rung
  have hp60 : 2 ^ (fr + 1) ≤ 2 ^ 61 := Nat.pow_le_pow_right (by decide) (by omega)
  have hu63 : (u : Int) < 9223372036854775808 := by
    have : (2 : Nat) ^ 61 = 2305843009213693952 := by decide
    omega
  have hu0 : (0 : Int) < (u : Int) := by omega
  have hP : 0 < 2 ^ fr := Nat.two_pow_pos fr
  have hPi : ((2 ^ fr : Nat) : Int) = 2 ^ fr := by simp
  have hlo := jl_le hu0 hu63
  have hJ : jgood fr top least (u : Int) e = decide ((rung : Int) < top * 2 ^ fr) := by
    obtain ⟨a, ha⟩ : ∃ a, (e - least).toNat = a := ⟨_, rfl⟩
    have hr : (rung : Int) = (a : Int) * 2 ^ fr + u := by simp only [rung, ha]; push_cast; rfl
    rw [hr]
    by_cases hlt : u < 2 ^ (fr + 1)
    · by_cases hea : (a : Int) ≤ top - 2
      · have g := jgood_small (fr := (fr : Int)) (top := top) (least := least) (exp := e) hu0 hu63 (by omega) (by rw [Int.toNat_natCast]; exact_mod_cast hlt) he (by omega)
        rw [g]
        have : (a : Int) * 2 ^ fr ≤ (top - 2) * 2 ^ fr := Int.mul_le_mul_of_nonneg_right hea (by omega)
        have e2 : (top - 2) * 2 ^ fr = top * 2 ^ fr - 2 * 2 ^ fr := by rw [Int.sub_mul]
        have hu2 : (u : Int) < 2 * 2 ^ fr := by rw [Nat.pow_succ] at hlt; omega
        exact (decide_eq_true (by omega)).symm
      · have hge := hn (by omega)
        have g2 := jzl_ge hu0 hu63 fr (by rw [← hPi]; omega)
        have g : jgood fr top least (u : Int) e = false := by
          unfold jgood jab jsh jsp
          simp only [Bool.and_eq_false_iff, decide_eq_false_iff_not]
          omega
        rw [g]
        have : (top - 1) * 2 ^ fr ≤ (a : Int) * 2 ^ fr := Int.mul_le_mul_of_nonneg_right (by omega) (by omega)
        have e2 : (top - 1) * 2 ^ fr = top * 2 ^ fr - 2 ^ fr := by rw [Int.sub_mul, Int.one_mul]
        exact (decide_eq_false (by omega)).symm
    · have hue : u = 2 ^ (fr + 1) := by omega
      have hpp : 2 ^ (fr + 1) < 2 ^ (fr + 2) := Nat.pow_lt_pow_right (by decide) (by omega)
      have g1 := jzl hu0 hu63 (fr + 2) (by rw [hue]; exact_mod_cast hpp)
      have g2 := jzl_ge hu0 hu63 (fr + 1) (by rw [hue]; simp)
      have hu2 : (u : Int) = 2 * 2 ^ fr := by rw [hue, Nat.pow_succ]; push_cast; omega
      have hjo : jl (u : Int) ≤ fr + 1 := by
        obtain ⟨mm, ez, z63, eo⟩ := jz_spec hu0 hu63
        by_cases hz : jz (u : Int) = 0
        · exfalso
          rw [hz] at ez
          rw [hu2] at ez
          simp at ez
          omega
        · omega
      by_cases hea : (a : Int) ≤ top - 3
      · have g : jgood fr top least (u : Int) e = true := by
          unfold jgood jab jsh jsp
          simp only [Bool.and_eq_true, decide_eq_true_eq]
          omega
        rw [g]
        have : (a : Int) * 2 ^ fr ≤ (top - 3) * 2 ^ fr := Int.mul_le_mul_of_nonneg_right hea (by omega)
        have e2 : (top - 3) * 2 ^ fr = top * 2 ^ fr - 3 * 2 ^ fr := by rw [Int.sub_mul]
        exact (decide_eq_true (by omega)).symm
      · have g : jgood fr top least (u : Int) e = false := by
          unfold jgood jab jsh jsp
          simp only [Bool.and_eq_false_iff, decide_eq_false_iff_not]
          omega
        rw [g]
        have : (top - 2) * 2 ^ fr ≤ (a : Int) * 2 ^ fr := Int.mul_le_mul_of_nonneg_right (by omega) (by omega)
        have e2 : (top - 2) * 2 ^ fr = top * 2 ^ fr - 2 * 2 ^ fr := by rw [Int.sub_mul]
        exact (decide_eq_false (by omega)).symm
  refine ⟨?_, fun hlt => ?_⟩
  · unfold jk
    rw [if_neg (by omega), if_neg (by omega)]
    exact hJ
  · have hg : jgood fr top least (u : Int) e = true := by rw [hJ]; exact decide_eq_true hlt
    have hv := V_join f fr hB top least (u : Int) e hu0 hu63 hg he
    rw [Int.toNat_natCast] at hv
    have hj0 : 0 ≤ jv fr top least (u : Int) e := by
      unfold jv
      rw [if_neg (by omega), if_pos hg]
      have h1 := jo_le hu0 hu63
      have h2 : 0 ≤ jab fr least (u : Int) e := by unfold jab jsh; unfold jgood at hg; simp only [Bool.and_eq_true, decide_eq_true_eq] at hg; omega
      have h3 : (0 : Int) ≤ 2 ^ (fr : Int).toNat := pow2_nn _
      have h4 : (0 : Int) ≤ 2 ^ (jsh fr least (u : Int) e).toNat := pow2_nn _
      have := Int.mul_nonneg h2 h3
      have := Int.mul_nonneg (show 0 ≤ jo (u : Int) by omega) h4
      omega
    have hV : V f rung = u * 2 ^ (e - least).toNat := by
      show V f ((e - least).toNat * 2 ^ fr + u) = _
      rw [← hB]
      by_cases hlt2 : u < 2 ^ (fr + 1)
      · exact (V_rung f (e - least).toNat u (by rw [hB]; rw [Nat.pow_succ] at hlt2; omega) (fun h => by rw [hB]; exact hn (by omega))).1
      · have hue : u = 2 * f.binade - 1 + 1 := by rw [hB]; rw [Nat.pow_succ] at hu hlt2; omega
        have hb := binade_pos f
        have := (V_rung f (e - least).toNat (2 * f.binade - 1) (by omega) (fun h => by omega)).2
        rw [← hue, Nat.add_assoc, ← hue] at this
        exact this
    have := V_inj f (hv.trans hV.symm)
    omega
end Go.Proofs.YtjlmpgbadgkgmaaGreatDoor.M

/-
  Package dyadic: told, by its contract: what is reckoned out is told; where it gave up, ErrLong.
-/
namespace Go.Proofs.YtjlmpgbadgkgmaaGreatDoor
open Go Go.RowKit Go.Proofs.YtjlmpgbadgkgmaaGreatDoor.M
set_option linter.unusedSimpArgs false
set_option linter.unusedVariables false

theorem blkC {w : World} {g : Nat} {xs : Array Value} {t : TypeId} (h : w.heap[g]? = some (.cells xs t (0, 0))) (i : Nat) {v : Value} (hi : xs[i]? = some v) : w.cell? ⟨g, i, none⟩ = some v := by
  rw [cell_of_row w g i xs _ _ h]; exact hi
theorem blkF {w : World} {g : Nat} {xs : Array Value} {t : TypeId} (h : w.heap[g]? = some (.cells xs t (0, 0))) (i : Nat) : w.frozen? ⟨g, i, none⟩ = false := by
  simp [World.frozen?, h]
theorem heap_a2 (w : World) (a b : Obj) : ((w.alloc a).alloc b).heap[w.heap.size]? = some a := by
  show ((w.heap.push a).push b)[w.heap.size]? = some a
  simp [Array.getElem?_push]
theorem heap_b2 (w : World) (a b : Obj) : ((w.alloc a).alloc b).heap[w.heap.size + 1]? = some b := by
  show ((w.heap.push a).push b)[w.heap.size + 1]? = some b
  rw [Array.getElem?_push, if_pos (by simp)]
theorem size2 (w : World) (a b : Obj) : ((w.alloc a).alloc b).heap.size = w.heap.size + 2 := by
  show ((w.heap.push a).push b).size = _
  simp
theorem Out.set_below {B : Nat} {w : World} {v : Value} {n : Nat} {d : Nat → Int} (h : Out B w v n d) {a : Addr} (ha : a.block < B) (u : Value) : Out B (w.setCell a u) v n d := ownsRow_setCell_below h ha u
/-- A number that is read, in its one form. -/
def DNum (w : World) (v : Value) (V : Int) : Prop := ∃ ng s m e, v = .agg #[.bool ng, s, .int .i64 e] ∧ Dy V ng m e ∧ Num w s m
/-- A number that is answered: its list is new memory. -/
def DAns (w w' : World) (V : Int) (v : Value) : Prop := ∃ ng s m e, v = .agg #[.bool ng, s, .int .i64 e] ∧ Dy V ng m e ∧ Ans w w' m s
/-- The zero number. -/
def zeroV : Value := .agg #[.bool false, .slice none 0 0, .int .i64 0]
theorem DAns.below {w w' : World} {V : Int} {v : Value} (h : DAns w w' V v) : Below w.heap.size w w' := by
  obtain ⟨ng, s, m, e, _, _, h3⟩ := h
  exact h3.below
theorem DAns.num {w w' : World} {V : Int} {v : Value} (h : DAns w w' V v) : DNum w' v V := by
  obtain ⟨ng, s, m, e, h1, h2, h3⟩ := h
  exact ⟨ng, s, m, e, h1, h2, h3.num⟩
theorem DAns.from {w0 w w' : World} {V : Int} {v : Value} (h : DAns w w' V v) (hb : Below w0.heap.size w0 w) : DAns w0 w' V v := by
  obtain ⟨ng, s, m, e, h1, h2, h3⟩ := h
  exact ⟨ng, s, m, e, h1, h2, h3.from hb⟩
theorem DAns.stays {w w1 w2 : World} {V : Int} {v : Value} (h : DAns w w1 V v) (hb : Below w1.heap.size w1 w2) : DAns w w2 V v := by
  obtain ⟨ng, s, m, e, h1, h2, h3⟩ := h
  exact ⟨ng, s, m, e, h1, h2, h3.stays hb⟩
theorem DAns.zero {w w' : World} (hb : Below w.heap.size w w') : DAns w w' 0 zeroV := ⟨_, _, _, _, rfl, Dy.zero, Ans.nil hb⟩
theorem DNum.keeps {w w' : World} {v : Value} {V : Int} (h : DNum w v V) (hb : Below w.heap.size w w') : DNum w' v V := by
  obtain ⟨ng, s, m, e, h1, h2, h3⟩ := h
  exact ⟨ng, s, m, e, h1, h2, h3.keeps hb⟩
theorem DNum.cast {w : World} {v : Value} {V V' : Int} (h : DNum w v V) (e : V = V') : DNum w v V' := e ▸ h
theorem DNum.zero (w : World) : DNum w zeroV 0 := (DAns.zero (bel_refl w)).num
/-- A number, or ErrLong, as the document says. -/
def DFit (w w' : World) (V : Int) (v : Value) (er : Int) : Prop := Below w.heap.size w w' ∧ ((Dok V ∧ er = 0 ∧ DAns w w' V v) ∨ (¬ Dok V ∧ er = 2 ∧ v = zeroV))
theorem if_nil (w : World) : (binOp .eql 20 Value.nilIface Value.nilIface).run Tryz.prog w = .ok (.bool true) w := by kernel_rfl
theorem if_not (w : World) : (binOp .eql 20 (.iface 32 (.int .i64 2)) Value.nilIface).run Tryz.prog w = .ok (.bool false) w := by kernel_rfl
theorem if_long (w : World) : (binOp .eql 20 (.iface 32 (.int .i64 2)) (.iface 32 (.int .i64 2))).run Tryz.prog w = .ok (.bool true) w := by kernel_rfl
theorem dans_res {w W w3 : World} {V : Int} {v : Value} (hv : DAns W w3 V v) (hb : Below w.heap.size w W) {g : Nat} (h0 : w.heap.size ≤ g) (h1 : g + 1 < W.heap.size) (a b c x : Value) :
    DAns w ((((w3.setCell ⟨g, 0, none⟩ a).setCell ⟨g, 1, none⟩ b).setCell ⟨g, 2, none⟩ c).setCell ⟨g + 1, 0, none⟩ x) V v := by
  obtain ⟨ng, s, m, e, h2, h3, t, d, hO, hN, hV, hB⟩ := hv
  refine ⟨ng, s, m, e, h2, h3, t, d, ?_, hN, hV, ?_⟩
  · exact ((((hO.set_below (a := ⟨g, 0, none⟩) (by show g < _; omega) a).set_below (a := ⟨g, 1, none⟩) (by show g < _; omega) b).set_below (a := ⟨g, 2, none⟩) (by show g < _; omega) c).set_below (a := ⟨g + 1, 0, none⟩) h1 x).lower hb.size
  · exact ((((hb.trans (hB.mono hb.size)).setCell (p := ⟨g, 0, none⟩) h0 a).setCell (p := ⟨g, 1, none⟩) h0 b).setCell (p := ⟨g, 2, none⟩) h0 c).setCell (p := ⟨g + 1, 0, none⟩) (Nat.le_succ_of_le h0) x
end Go.Proofs.YtjlmpgbadgkgmaaGreatDoor

/-
  Package round: the ways, by their contracts.
-/
namespace Go.Proofs.YtjlmpgbadgkgmaaGreatDoor
open Go Go.RowKit Go.Proofs.YtjlmpgbadgkgmaaGreatDoor.M
set_option linter.unusedSimpArgs false
set_option linter.unusedVariables false

theorem heap4_alloc (w : World) (a : Obj) {x0 x1 x2 x3 : Value} {t : TypeId} : ((w.alloc a).alloc (.cells #[x0, x1, x2, x3] t)).heap[w.heap.size + 1]? = some (.cells #[x0, x1, x2, x3] t (0, 0)) := heap_b2 w a _
end Go.Proofs.YtjlmpgbadgkgmaaGreatDoor

/-
  Package round: value.split, by its contract.
-/
namespace Go.Proofs.YtjlmpgbadgkgmaaGreatDoor
open Go Go.RowKit Go.Proofs.YtjlmpgbadgkgmaaGreatDoor.M
set_option linter.unusedSimpArgs false
set_option linter.unusedVariables false

/-- A value that is to be rounded. -/
def valV (ng : Bool) (mag : Nat) (exp : Int) (cut sd : Bool) : Value := .agg #[.bool ng, .int .u64 mag, .int .i64 exp, .bool cut, .bool sd]
theorem ret_ui {a b c d : Int} (h1 : a = c) (h2 : b = d) : Ending.returned (.tuple #[.int .u64 a, .int .i64 b]) = Ending.returned (.tuple #[.int .u64 c, .int .i64 d]) := by rw [h1, h2]
theorem rL_eq {mag k t m : Nat} {cut : Bool} (hk0 : 0 < k) (hm : mag < 18446744073709551616) (ht : mag % 2 ^ k = t) (hmid : (if k ≤ 64 then 2 ^ (k - 1) else 0) = m) : rL mag cut (k : Int) = if t = 0 ∧ cut = false then 0 else if t < m ∨ 64 < k then 1 else if t = m ∧ cut = false then 2 else 3 := by
  unfold rL
  rw [if_neg (by omega), Int.toNat_natCast, ht]
  obtain ⟨p, hp, hp0⟩ := two_half k hk0
  have hp2 : 2 ^ (k - 1) = p := by
    have : 2 ^ k = 2 * 2 ^ (k - 1) := by rw [← Nat.pow_succ', Nat.succ_eq_add_one, Nat.sub_add_cancel hk0]
    omega
  rw [hp]
  by_cases hk : k ≤ 64
  · rw [if_pos hk, hp2] at hmid
    subst hmid
    have e1 : (2 * t < 2 * p) = (t < p ∨ 64 < k) := propext ⟨fun h => .inl (by omega), fun h => by omega⟩
    have e2 : (2 * t = 2 * p ∧ cut = false) = (t = p ∧ cut = false) := propext ⟨fun h => ⟨by omega, h.2⟩, fun h => ⟨by omega, h.2⟩⟩
    simp only [e1, e2]
  · have hlt : 2 * t < 2 * p := by
      have h1 : 2 ^ 65 ≤ 2 ^ k := Nat.pow_le_pow_right (by decide) (by omega)
      have h2 : (2 : Nat) ^ 65 = 36893488147419103232 := by decide
      have h3 := Nat.mod_le mag (2 ^ k)
      omega
    rw [if_pos hlt, if_pos (show t < m ∨ 64 < k from .inr (by omega))]
end Go.Proofs.YtjlmpgbadgkgmaaGreatDoor

/-
  Package round: value.units, by its contract.
-/
namespace Go.Proofs.YtjlmpgbadgkgmaaGreatDoor
open Go Go.RowKit Go.Proofs.YtjlmpgbadgkgmaaGreatDoor.M
set_option linter.unusedSimpArgs false
set_option linter.unusedVariables false

end Go.Proofs.YtjlmpgbadgkgmaaGreatDoor
