/-
  Parts of the proof, one behind another.
-/
import Derived.Test.YtjlmpgbadgkgmaaGreatDoorPart4
import Derived.Test.YtjlmpgbadgkgmaaGreatDoorPart1
import Derived.Tactics
import Derived.Tactics2
import Derived.Defers
import Derived.Recover
import Derived.Laws.Pointers
import Derived.WalkLawsBesides
import Derived.WideLaws
import Derived.Deep.RegionHeld3
import Derived.WalkSmall
import Derived.Test.YtjlmpgbadgkgmaaGreatDoorProg
import Derived.WalkKit
import Derived.RowKit3
import Derived.Below
import Derived.Deep.QuietTactic
import Derived.BigQuiet
import Derived.Lib.Strings
import Derived.Lib.Slices
import Derived.Lib.Small
import Derived.Lib.Walk
import Derived.Lib.BitFns
import Derived.Lib.TrailingZeros
import Derived.Laws.Bits64b
import Derived.Test.YtjlmpgbadgkgmaaGreatDoorPart2
import Derived.Deep.Cut
import Derived.BigRegion
import Derived.Lib.SliceRun
/-
  Plain mathematics: the value of a joined pattern; what Parts tells is joined again to the same pattern; the neighbour of a pattern by its parts. No Go text in sight.
-/
namespace Go.Proofs.YtjlmpgbadgkgmaaGreatDoor.M
open Go Ieee
set_option linter.unusedSimpArgs false
set_option linter.unusedVariables false

theorem V_parts (f : Format) (a n : Nat) (h : (a = 0 ∧ n < 2 * f.binade) ∨ (f.binade ≤ n ∧ n < 2 * f.binade)) : V f (a * f.binade + n) = n * 2 ^ a := by
  have hB := binade_pos f
  unfold V
  by_cases hn : n < f.binade
  · have ha : a = 0 := by omega
    subst ha
    rw [Nat.zero_mul, Nat.zero_add, if_pos hn]; simp
  · have hge : f.binade ≤ a * f.binade + n := Nat.le_trans (by omega) (Nat.le_add_left _ _)
    rw [if_neg (by omega)]
    have e : a * f.binade + n = f.binade * (a + 1) + (n - f.binade) := by
      rw [Nat.mul_add, Nat.mul_one, Nat.mul_comm]; omega
    rw [e, Nat.mul_add_mod, Nat.mod_eq_of_lt (show n - f.binade < f.binade by omega), Nat.mul_add_div hB, Nat.div_eq_of_lt (show n - f.binade < f.binade by omega)]
    rw [show a + 1 + 0 - 1 = a by omega, show f.binade + (n - f.binade) = n by omega]
theorem V_inj (f : Format) {r s : Nat} (h : V f r = V f s) : r = s := by
  rcases Nat.lt_trichotomy r s with h1 | h1 | h1
  · have := V_lt f h1; omega
  · exact h1
  · have := V_lt f h1; omega
theorem pow_split (z : Nat) (n : Int) (u : Nat) (m : Nat) (hn : 0 ≤ n) (h : z ≤ u) (hm : (m : Int) = n * 2 ^ z) : n.toNat * 2 ^ u = m * 2 ^ (u - z) := by
  obtain ⟨k, rfl⟩ := Int.eq_ofNat_of_zero_le hn
  have hm' : m = k * 2 ^ z := by
    have : ((k * 2 ^ z : Nat) : Int) = (k : Int) * 2 ^ z := by rw [Int.natCast_mul]; simp
    omega
  rw [hm', Int.toNat_natCast, Nat.mul_assoc, ← Nat.pow_add, show z + (u - z) = u by omega]
/-- the value of a joined pattern, in units of the least place -/
theorem V_join (f : Format) (fr : Nat) (hB : f.binade = 2 ^ fr) (top least mag exp : Int) (h0 : 0 < mag) (h : mag < 9223372036854775808)
    (hg : jgood fr top least mag exp = true) (he : least ≤ exp) : V f (jv fr top least mag exp).toNat = mag.toNat * 2 ^ (exp - least).toNat := by
  obtain ⟨m, ez, z63, eo⟩ := jz_spec h0 h
  have hg' := hg
  unfold jgood at hg'
  simp only [Bool.and_eq_true, decide_eq_true_eq] at hg'
  have hs : 0 ≤ jsh fr least mag exp ∧ jsh fr least mag exp ≤ jsp fr mag ∧ jsh fr least mag exp ≤ exp + jz mag - least := by unfold jsh; omega
  have hb := jshift_lt (fr := fr) h0 h (by omega) (jsh fr least mag exp).toNat (by omega)
  have hd := doubled (fr := fr) h0 h (by omega) (jsh fr least mag exp).toNat
  have ha : 0 ≤ jab fr least mag exp := by unfold jab; omega
  obtain ⟨n, hn⟩ := Int.eq_ofNat_of_zero_le (show 0 ≤ jo mag * 2 ^ (jsh fr least mag exp).toNat by omega)
  obtain ⟨a, ha'⟩ := Int.eq_ofNat_of_zero_le ha
  rw [hn] at hb hd
  have hB1 : ((f.binade : Nat) : Int) = 2 ^ fr := by rw [hB]; simp
  rw [Int.toNat_natCast, ← hB1] at hd
  have hb2 : (n : Int) < 2 * (f.binade : Int) := by
    have := hb.2
    rw [Int.toNat_natCast, Int.pow_succ, ← hB1] at this
    omega
  have ejv : (jv fr top least mag exp).toNat = a * f.binade + n := by
    unfold jv
    rw [if_neg (by omega), if_pos hg, hn, ha', Int.toNat_natCast, ← hB1]
    have : ((a : Int) * (f.binade : Int) + (n : Int)) = ((a * f.binade + n : Nat) : Int) := by rw [Int.natCast_add, Int.natCast_mul]
    rw [this, Int.toNat_natCast]
  rw [ejv, V_parts f a n (by
    by_cases hn1 : n < f.binade
    · left
      have := hd.1 (by omega)
      have : jab fr least mag exp = 0 := by unfold jab; unfold jsh at *; omega
      omega
    · right; omega)]
  -- n * 2 ^ a = mag * 2 ^ (exp - least)
  have e1 : mag.toNat * 2 ^ (exp - least).toNat = (jo mag).toNat * 2 ^ (jz mag + (exp - least).toNat) := by
    have hm : ((mag.toNat : Nat) : Int) = jo mag * 2 ^ jz mag := by
      rw [Int.toNat_of_nonneg (by omega), eo, Int.mul_comm]; exact ez
    rw [pow_split (jz mag) (jo mag) (jz mag + (exp - least).toNat) mag.toNat (by omega) (by omega) hm]
    congr 2; omega
  have e2 : n * 2 ^ a = (jo mag).toNat * 2 ^ ((jsh fr least mag exp).toNat + a) := by
    rw [pow_split (jsh fr least mag exp).toNat (jo mag) ((jsh fr least mag exp).toNat + a) n (by omega) (by omega) (by rw [← hn])]
    congr 2; omega
  rw [e1, e2]
  congr 2
  unfold jab at ha'
  omega
/-- the odd part and the twos together are no longer than the whole -/
theorem jzl {mag : Int} (h0 : 0 < mag) (h : mag < 9223372036854775808) (k : Nat) (hk : mag < 2 ^ k) : (jz mag : Int) + jl mag ≤ k := by
  obtain ⟨m, ez, z63, eo⟩ := jz_spec h0 h
  have hj := jo_le h0 h
  have sp := bitLen_spec (jo mag).toNat (by omega) (by omega)
  have h1 : 2 ^ (Lib.bitLen (jo mag).toNat - 1) * 2 ^ jz mag ≤ (jo mag).toNat * 2 ^ jz mag := Nat.mul_le_mul_right _ sp.1
  rw [← Nat.pow_add] at h1
  have h2 : (((jo mag).toNat * 2 ^ jz mag : Nat) : Int) = mag := by
    rw [Int.natCast_mul, Int.toNat_of_nonneg (by omega), eo, Int.mul_comm]
    simp only [Int.natCast_pow]
    exact ez.symm
  have h3 : (jo mag).toNat * 2 ^ jz mag < 2 ^ k := by
    have : ((2 ^ k : Nat) : Int) = 2 ^ k := by simp
    omega
  have h4 : 2 ^ (Lib.bitLen (jo mag).toNat - 1 + jz mag) < 2 ^ k := by omega
  have := (Nat.pow_lt_pow_iff_right (by decide : 1 < 2)).1 h4
  unfold jl
  omega
theorem jgood_small {fr top least mag exp : Int} (h0 : 0 < mag) (h : mag < 9223372036854775808) (hf : 0 ≤ fr) (hk : mag < 2 ^ (fr.toNat + 1)) (he : least ≤ exp) (he2 : exp ≤ top - 2 + least) : jgood fr top least mag exp = true := by
  have hl := jzl h0 h (fr.toNat + 1) hk
  have := jl_le h0 h
  unfold jgood jab jsh jsp
  simp only [Bool.and_eq_true, decide_eq_true_eq]
  omega
/-! binary64 -/
def rg (b : Int) : Int := if b < 0 then b + 9223372036854775808 else b
theorem rg_parts {b : Int} (h : rng b) : 0 ≤ rg b ∧ rg b = fld b * 4503599627370496 + frc b := by
  unfold rng at h; unfold rg fld frc; split <;> omega
theorem pparts {b : Int} (h : pok b = true) : fld b ≠ 2047 := by simpa [pok] using h
theorem dB : Ieee.double.binade = 2 ^ 52 := by decide
theorem V_rg {b : Int} (hb : rng b) (hp : pok b = true) : V Ieee.double (rg b).toNat = (pmag b).toNat * 2 ^ (pexp b + 1074).toNat := by
  have hne := pparts hp
  obtain ⟨r0, r1⟩ := rg_parts hb
  have hf := fld_le b
  have ht := frc_le b
  by_cases h0 : fld b = 0
  · have e : (rg b).toNat = 0 * Ieee.double.binade + (frc b).toNat := by omega
    rw [e, V_parts _ _ _ (.inl ⟨rfl, by rw [dB]; omega⟩)]
    simp [pmag, pexp, h0]
  · have e : (rg b).toNat = (fld b - 1).toNat * Ieee.double.binade + (4503599627370496 + frc b).toNat := by rw [dB]; omega
    rw [e, V_parts _ _ _ (.inr (by rw [dB]; omega))]
    unfold pmag pexp
    rw [if_neg hne, if_neg h0, if_neg hne, if_neg h0]
    congr 2; omega
/-! binary32 -/
end Go.Proofs.YtjlmpgbadgkgmaaGreatDoor.M

/-
  Plain mathematics of rounding: the units that are cut out of a number, what is left, the rung of a float. No Go text in sight.
-/
namespace Go.Proofs.YtjlmpgbadgkgmaaGreatDoor.M
open Go Ieee
set_option linter.unusedSimpArgs false
set_option linter.unusedVariables false

/-- How many units of 2^sh a magnitude holds. -/
def rU (mag : Nat) (sh : Int) : Nat := if sh ≤ 0 then mag * 2 ^ (-sh).toNat else mag / 2 ^ sh.toNat
/-- What is left, held against half a unit: nothing, less, half, more. -/
def rL (mag : Nat) (cut : Bool) (sh : Int) : Int :=
  if sh ≤ 0 then 0 else if mag % 2 ^ sh.toNat = 0 ∧ cut = false then 0 else if 2 * (mag % 2 ^ sh.toNat) < 2 ^ sh.toNat then 1 else if 2 * (mag % 2 ^ sh.toNat) = 2 ^ sh.toNat ∧ cut = false then 2 else 3
/-- The exponent of the units. -/
def rE (size low : Int) (mag : Nat) (exp : Int) : Int := max (exp + (Lib.bitLen mag : Int) - size) low
/-- Does a way raise the units? -/
def rUp (way : Int) (neg odd : Bool) (left : Int) : Bool :=
  if way = 0 then decide (left = 3) || (decide (left = 2) && odd) else if way = 1 then decide (left ≠ 0) && neg else if way = 2 then decide (left ≠ 0) && !neg else false
/-- What is known of a number: mag 2^exp, or more by less than 2^exp. -/
def Held (A : Int) (mag : Nat) (exp : Int) (cut : Bool) : Prop := (mag : Int) * pw exp ≤ A ∧ A < ((mag : Int) + 1) * pw exp ∧ (cut = false ↔ A = (mag : Int) * pw exp)
/-- A number among the units 2^e: u of them, and what is left. -/
structure Left (A : Int) (u : Nat) (q : Int) (left : Int) : Prop where
  lo : (u : Int) * q ≤ A
  hi : A < (u : Int) * q + q
  l0 : left = 0 ↔ A = (u : Int) * q
  l1 : left = 1 ↔ (u : Int) * q < A ∧ 2 * A < 2 * ((u : Int) * q) + q
  l2 : left = 2 ↔ 2 * A = 2 * ((u : Int) * q) + q
  l3 : left = 3 ↔ 2 * ((u : Int) * q) + q < 2 * A
theorem Left.mk' {A U q left : Int} {u : Nat} (hU : (u : Int) * q = U) (lo : U ≤ A) (hi : A < U + q) (l0 : left = 0 ↔ A = U) (l1 : left = 1 ↔ U < A ∧ 2 * A < 2 * U + q) (l2 : left = 2 ↔ 2 * A = 2 * U + q) (l3 : left = 3 ↔ 2 * U + q < 2 * A) : Left A u q left := by
  subst hU
  exact ⟨lo, hi, l0, l1, l2, l3⟩
theorem two_half (n : Nat) (h : 0 < n) : ∃ k, 2 ^ n = 2 * k ∧ 0 < k := ⟨2 ^ (n - 1), by rw [← Nat.pow_succ', Nat.succ_eq_add_one, Nat.sub_add_cancel h], Nat.two_pow_pos _⟩
theorem left_of {A : Int} {mag : Nat} {exp e : Int} {cut : Bool} (h : Held A mag exp cut) (hc : cut = true → 0 < e - exp) (h0 : -4194304 ≤ e) (h1 : -4194304 ≤ exp) : Left A (rU mag (e - exp)) (pw e) (rL mag cut (e - exp)) := by
  obtain ⟨a1, a2, a3⟩ := h
  have hq := pw_pos exp
  have hqe := pw_pos e
  by_cases hs : e - exp ≤ 0
  · have hcf : cut = false := by cases cut; rfl; have := hc rfl; omega
    have hA := a3.1 hcf
    unfold rU rL
    rw [if_pos hs, if_pos hs]
    have e1 : ((mag * 2 ^ (-(e - exp)).toNat : Nat) : Int) * pw e = A := by
      rw [hA, pw_sub (e := exp) (low := e) h0 (by omega), show (exp - e).toNat = (-(e - exp)).toNat by omega]
      push_cast
      rw [Int.mul_assoc]
    exact ⟨by rw [e1]; omega, by rw [e1]; omega, by rw [e1]; simp, by rw [e1]; constructor <;> intro h <;> omega, by rw [e1]; constructor <;> intro h <;> omega, by rw [e1]; constructor <;> intro h <;> omega⟩
  · have hp : pw e = 2 ^ (e - exp).toNat * pw exp := pw_sub h1 (by omega)
    obtain ⟨s, hsn⟩ : ∃ s, (e - exp).toNat = s := ⟨_, rfl⟩
    have hs0 : 0 < s := by omega
    unfold rU rL
    rw [if_neg hs, if_neg hs, hsn]
    rw [hsn] at hp
    obtain ⟨k, hk, hk0⟩ := two_half s hs0
    have hpn : (2 : Int) ^ s = ((2 ^ s : Nat) : Int) := by simp
    rw [hpn, hk] at hp
    rw [hk]
    have hdm := Nat.div_add_mod mag (2 * k)
    have hml := Nat.mod_lt mag (show 0 < 2 * k by omega)
    generalize mag / (2 * k) = u at *
    generalize mag % (2 * k) = t at *
    generalize hQ : pw exp = q at *
    have e1 : (mag : Int) * q = (u : Int) * (((2 * k : Nat) : Int) * q) + (t : Int) * q := by
      rw [← hdm]; push_cast; rw [Int.add_mul]; congr 1; rw [Int.mul_comm (2 * (k : Int)) u, Int.mul_assoc]
    have e2 : ((mag : Int) + 1) * q = (mag : Int) * q + q := by rw [Int.add_mul, Int.one_mul]
    rw [e2, e1] at a2
    rw [e1] at a1 a3
    rw [hp]
    have e3 : ((2 * k : Nat) : Int) * q = 2 * ((k : Int) * q) := by push_cast; rw [Int.mul_assoc]
    have t1 : ∀ x y : Nat, x ≤ y → (x : Int) * q ≤ (y : Int) * q := fun x y h => Int.mul_le_mul_of_nonneg_right (by omega) (by omega)
    have t2 : ∀ x y : Nat, x < y → (x : Int) * q + q ≤ (y : Int) * q := fun x y h => by
      have := t1 (x + 1) y h
      push_cast at this
      rwa [Int.add_mul, Int.one_mul] at this
    have t0 : 0 ≤ (t : Int) * q := Int.mul_nonneg (by omega) (by omega)
    have b1 : (t : Int) * q + q ≤ 2 * ((k : Int) * q) := by rw [← e3]; exact t2 t (2 * k) hml
    rw [e3] at a1 a2 a3 ⊢
    have c1 : t < k → (t : Int) * q + q ≤ (k : Int) * q := t2 t k
    have c2 : t = k → (t : Int) * q = (k : Int) * q := fun h => by rw [h]
    have c3 : k < t → (k : Int) * q + q ≤ (t : Int) * q := t2 k t
    have c4 : t = 0 → (t : Int) * q = 0 := fun h => by rw [h]; simp
    have c5 : 0 < t → q ≤ (t : Int) * q := fun h => by have := t1 1 t h; rwa [Int.natCast_one, Int.one_mul] at this
    clear e1 e2 e3 t1 t2 hp
    obtain ⟨T, hT⟩ : ∃ T, (t : Int) * q = T := ⟨_, rfl⟩
    obtain ⟨K, hK⟩ : ∃ K, (k : Int) * q = K := ⟨_, rfl⟩
    obtain ⟨U, hU⟩ : ∃ U, (u : Int) * (2 * K) = U := ⟨_, rfl⟩
    rw [hT] at c1 c2 c3 c4 c5 t0 b1 a1 a2 a3
    rw [hK] at c1 c2 c3 b1 a1 a2 a3 ⊢
    rw [hU] at a1 a2 a3
    have a3' : cut = true → A ≠ U + T := fun h h2 => by rw [a3.2 h2] at h; cases h
    cases cut
    · have hA := a3.1 rfl
      subst hA
      by_cases z0 : t = 0
      · have := c4 z0
        rw [if_pos ⟨z0, rfl⟩]
        exact Left.mk' hU (by omega) (by omega) (by constructor <;> intro h <;> omega) (by constructor <;> intro h <;> omega) (by constructor <;> intro h <;> omega) (by constructor <;> intro h <;> omega)
      · have := c5 (by omega)
        rw [if_neg (fun h => z0 h.1)]
        by_cases z1 : t < k
        · have := c1 z1
          rw [if_pos (by omega)]
          exact Left.mk' hU (by omega) (by omega) (by constructor <;> intro h <;> omega) (by constructor <;> intro h <;> omega) (by constructor <;> intro h <;> omega) (by constructor <;> intro h <;> omega)
        · rw [if_neg (by omega)]
          by_cases z2 : t = k
          · have := c2 z2
            rw [if_pos ⟨by omega, rfl⟩]
            exact Left.mk' hU (by omega) (by omega) (by constructor <;> intro h <;> omega) (by constructor <;> intro h <;> omega) (by constructor <;> intro h <;> omega) (by constructor <;> intro h <;> omega)
          · have := c3 (by omega)
            rw [if_neg (fun h => z2 (by omega))]
            exact Left.mk' hU (by omega) (by omega) (by constructor <;> intro h <;> omega) (by constructor <;> intro h <;> omega) (by constructor <;> intro h <;> omega) (by constructor <;> intro h <;> omega)
    · have hA := a3' rfl
      rw [if_neg (fun h => by cases h.2)]
      by_cases z1 : t < k
      · have := c1 z1
        rw [if_pos (by omega)]
        exact Left.mk' hU (by omega) (by omega) (by constructor <;> intro h <;> omega) (by constructor <;> intro h <;> omega) (by constructor <;> intro h <;> omega) (by constructor <;> intro h <;> omega)
      · rw [if_neg (by omega), if_neg (fun h => by cases h.2)]
        have hkt : K ≤ T := by
          by_cases z2 : t = k
          · have := c2 z2; omega
          · have := c3 (by omega); omega
        exact Left.mk' hU (by omega) (by omega) (by constructor <;> intro h <;> omega) (by constructor <;> intro h <;> omega) (by constructor <;> intro h <;> omega) (by constructor <;> intro h <;> omega)
/-- How many bits the units have. -/
theorem rU_bits {size low : Int} {mag : Nat} {exp : Int} (hs : 0 < size) (h : mag < 2 ^ 64) (h0 : mag ≠ 0) : rU mag (rE size low mag exp - exp) < 2 ^ size.toNat ∧ (low < rE size low mag exp → 2 ^ (size.toNat - 1) ≤ rU mag (rE size low mag exp - exp)) := by
  obtain ⟨b1, b2, b3, b4⟩ := bitLen_spec mag h h0
  obtain ⟨n, hn⟩ : ∃ n, Lib.bitLen mag = n := ⟨_, rfl⟩
  obtain ⟨z, rfl⟩ : ∃ z : Nat, size = z := ⟨size.toNat, by omega⟩
  unfold rE rU
  rw [hn] at b1 b2 b3 b4 ⊢
  rw [Int.toNat_natCast]
  obtain ⟨e, he⟩ : ∃ e, max (exp + (n : Int) - (z : Int)) low = e := ⟨_, rfl⟩
  have he1 : exp + n - z ≤ e := by omega
  have he2 : low < e → e = exp + n - z := by omega
  rw [he]
  by_cases hse : e - exp ≤ 0
  · rw [if_pos hse]
    obtain ⟨k, hk⟩ : ∃ k, (-(e - exp)).toNat = k := ⟨_, rfl⟩
    rw [hk]
    refine ⟨?_, fun hl => ?_⟩
    · calc mag * 2 ^ k < 2 ^ n * 2 ^ k := Nat.mul_lt_mul_of_pos_right b2 (Nat.two_pow_pos k)
        _ = 2 ^ (n + k) := by rw [Nat.pow_add]
        _ ≤ 2 ^ z := Nat.pow_le_pow_right (by decide) (by omega)
    · have := he2 hl
      calc 2 ^ (z - 1) ≤ 2 ^ (n - 1 + k) := Nat.pow_le_pow_right (by decide) (by omega)
        _ = 2 ^ (n - 1) * 2 ^ k := by rw [Nat.pow_add]
        _ ≤ mag * 2 ^ k := Nat.mul_le_mul_right _ b1
  · rw [if_neg hse]
    obtain ⟨k, hk⟩ : ∃ k, (e - exp).toNat = k := ⟨_, rfl⟩
    rw [hk]
    refine ⟨?_, fun hl => ?_⟩
    · rw [Nat.div_lt_iff_lt_mul (Nat.two_pow_pos k), ← Nat.pow_add]
      exact Nat.lt_of_lt_of_le b2 (Nat.pow_le_pow_right (by decide) (by omega))
    · have := he2 hl
      rw [Nat.le_div_iff_mul_le (Nat.two_pow_pos k), ← Nat.pow_add]
      exact Nat.le_trans (Nat.pow_le_pow_right (by decide) (by omega)) b1
/-- The rung of u units, and of one more. -/
theorem V_rung (f : Format) (a u : Nat) (h : u < 2 * f.binade) (h2 : 0 < a → f.binade ≤ u) : V f (a * f.binade + u) = u * 2 ^ a ∧ V f (a * f.binade + u + 1) = (u + 1) * 2 ^ a := by
  have hB := binade_pos f
  refine ⟨V_parts f a u (by by_cases ha : a = 0 <;> omega), ?_⟩
  by_cases hu : u + 1 < 2 * f.binade
  · rw [Nat.add_assoc]
    exact V_parts f a (u + 1) (by by_cases ha : a = 0 <;> omega)
  · have e : a * f.binade + u + 1 = (a + 1) * f.binade + f.binade := by rw [Nat.add_mul]; omega
    rw [e, V_parts f (a + 1) f.binade (by omega), Nat.pow_succ, show u + 1 = f.binade * 2 by omega, Nat.mul_assoc, Nat.mul_comm (2 ^ a) 2]
/-- Bits of a whole number, by its odd part. -/
theorem jzl_ge {mag : Int} (h0 : 0 < mag) (h : mag < 9223372036854775808) (k : Nat) (hk : 2 ^ k ≤ mag) : (k : Int) + 1 ≤ (jz mag : Int) + jl mag := by
  obtain ⟨m, ez, z63, eo⟩ := jz_spec h0 h
  have hj := jo_le h0 h
  have sp := bitLen_spec (jo mag).toNat (by omega) (by omega)
  have h1 : (jo mag).toNat * 2 ^ jz mag < 2 ^ Lib.bitLen (jo mag).toNat * 2 ^ jz mag := Nat.mul_lt_mul_of_pos_right sp.2.1 (Nat.two_pow_pos _)
  rw [← Nat.pow_add] at h1
  have h2 : (((jo mag).toNat * 2 ^ jz mag : Nat) : Int) = mag := by
    rw [Int.natCast_mul, Int.toNat_of_nonneg (by omega), eo, Int.mul_comm]
    simp only [Int.natCast_pow]
    exact ez.symm
  have h3 : 2 ^ k ≤ (jo mag).toNat * 2 ^ jz mag := by
    have : ((2 ^ k : Nat) : Int) = 2 ^ k := by simp
    omega
  have h4 : 2 ^ k < 2 ^ (Lib.bitLen (jo mag).toNat + jz mag) := by omega
  have := (Nat.pow_lt_pow_iff_right (by decide : 1 < 2)).1 h4
  unfold jl
  omega
theorem pow2_nn (n : Nat) : (0 : Int) ≤ 2 ^ n := Int.le_of_lt (two_pos n)
/-- Join of units: the rung, if it is below the infinite one. -/
theorem join_rung (f : Format) (fr : Nat) (hfr : fr ≤ 60) (hB : f.binade = 2 ^ fr) (top least : Int) (ht : 2 ≤ top) (u : Nat) (e : Int) (h0 : 0 < u) (hu : u ≤ 2 ^ (fr + 1)) (he : least ≤ e) (hn : least < e → 2 ^ fr ≤ u) :
    let rung := (e - least).toNat * 2 ^ fr + u
    jk fr top least (u : Int) e = decide ((rung : Int) < top * 2 ^ fr) ∧ ((rung : Int) < top * 2 ^ fr → jv fr top least (u : Int) e = rung) := by
  intro rung
  have hp60 : 2 ^ (fr + 1) ≤ 2 ^ 61 := Nat.pow_le_pow_right (by decide) (by omega)
  have hu63 : (u : Int) < 9223372036854775808 := by
    have : (2 : Nat) ^ 61 = 2305843009213693952 := by decide
    omega
  have hu0 : (0 : Int) < (u : Int) := by omega
  have hP : 0 < 2 ^ fr := Nat.two_pow_pos fr
  have hPi : ((2 ^ fr : Nat) : Int) = 2 ^ fr := by simp
  have hlo := jl_le hu0 hu63
  have hJ : jgood fr top least (u : Int) e = decide ((rung : Int) < top * 2 ^ fr) := by
    obtain ⟨a, ha⟩ : ∃ a, (e - least).toNat = a := ⟨_, rfl⟩
    have hr : (rung : Int) = (a : Int) * 2 ^ fr + u := by simp only [rung, ha]; push_cast; rfl
    rw [hr]
    by_cases hlt : u < 2 ^ (fr + 1)
    · by_cases hea : (a : Int) ≤ top - 2
      · have g := jgood_small (fr := (fr : Int)) (top := top) (least := least) (exp := e) hu0 hu63 (by omega) (by rw [Int.toNat_natCast]; exact_mod_cast hlt) he (by omega)
        rw [g]
        have : (a : Int) * 2 ^ fr ≤ (top - 2) * 2 ^ fr := Int.mul_le_mul_of_nonneg_right hea (by omega)
        have e2 : (top - 2) * 2 ^ fr = top * 2 ^ fr - 2 * 2 ^ fr := by rw [Int.sub_mul]
        have hu2 : (u : Int) < 2 * 2 ^ fr := by rw [Nat.pow_succ] at hlt; omega
        exact (decide_eq_true (by omega)).symm
      · have hge := hn (by omega)
        have g2 := jzl_ge hu0 hu63 fr (by rw [← hPi]; omega)
        have g : jgood fr top least (u : Int) e = false := by
          unfold jgood jab jsh jsp
          simp only [Bool.and_eq_false_iff, decide_eq_false_iff_not]
          omega
        rw [g]
        have : (top - 1) * 2 ^ fr ≤ (a : Int) * 2 ^ fr := Int.mul_le_mul_of_nonneg_right (by omega) (by omega)
        have e2 : (top - 1) * 2 ^ fr = top * 2 ^ fr - 2 ^ fr := by rw [Int.sub_mul, Int.one_mul]
        exact (decide_eq_false (by omega)).symm
    · have hue : u = 2 ^ (fr + 1) := by omega
      have hpp : 2 ^ (fr + 1) < 2 ^ (fr + 2) := Nat.pow_lt_pow_right (by decide) (by omega)
      have g1 := jzl hu0 hu63 (fr + 2) (by rw [hue]; exact_mod_cast hpp)
      have g2 := jzl_ge hu0 hu63 (fr + 1) (by rw [hue]; simp)
      have hu2 : (u : Int) = 2 * 2 ^ fr := by rw [hue, Nat.pow_succ]; push_cast; omega
      have hjo : jl (u : Int) ≤ fr + 1 := by
        obtain ⟨mm, ez, z63, eo⟩ := jz_spec hu0 hu63
        by_cases hz : jz (u : Int) = 0
        · exfalso
          rw [hz] at ez
          rw [hu2] at ez
          simp at ez
          omega
        · omega
      by_cases hea : (a : Int) ≤ top - 3
      · have g : jgood fr top least (u : Int) e = true := by
          unfold jgood jab jsh jsp
          simp only [Bool.and_eq_true, decide_eq_true_eq]
          omega
        rw [g]
        have : (a : Int) * 2 ^ fr ≤ (top - 3) * 2 ^ fr := Int.mul_le_mul_of_nonneg_right hea (by omega)
        have e2 : (top - 3) * 2 ^ fr = top * 2 ^ fr - 3 * 2 ^ fr := by rw [Int.sub_mul]
        exact (decide_eq_true (by omega)).symm
      · have g : jgood fr top least (u : Int) e = false := by
          unfold jgood jab jsh jsp
          simp only [Bool.and_eq_false_iff, decide_eq_false_iff_not]
          omega
        rw [g]
        have : (top - 2) * 2 ^ fr ≤ (a : Int) * 2 ^ fr := Int.mul_le_mul_of_nonneg_right (by omega) (by omega)
        have e2 : (top - 2) * 2 ^ fr = top * 2 ^ fr - 2 * 2 ^ fr := by rw [Int.sub_mul]
        exact (decide_eq_false (by omega)).symm
  refine ⟨?_, fun hlt => ?_⟩
  · unfold jk
    rw [if_neg (by omega), if_neg (by omega)]
    exact hJ
  · have hg : jgood fr top least (u : Int) e = true := by rw [hJ]; exact decide_eq_true hlt
    have hv := V_join f fr hB top least (u : Int) e hu0 hu63 hg he
    rw [Int.toNat_natCast] at hv
    have hj0 : 0 ≤ jv fr top least (u : Int) e := by
      unfold jv
      rw [if_neg (by omega), if_pos hg]
      have h1 := jo_le hu0 hu63
      have h2 : 0 ≤ jab fr least (u : Int) e := by unfold jab jsh; unfold jgood at hg; simp only [Bool.and_eq_true, decide_eq_true_eq] at hg; omega
      have h3 : (0 : Int) ≤ 2 ^ (fr : Int).toNat := pow2_nn _
      have h4 : (0 : Int) ≤ 2 ^ (jsh fr least (u : Int) e).toNat := pow2_nn _
      have := Int.mul_nonneg h2 h3
      have := Int.mul_nonneg (show 0 ≤ jo (u : Int) by omega) h4
      omega
    have hV : V f rung = u * 2 ^ (e - least).toNat := by
      show V f ((e - least).toNat * 2 ^ fr + u) = _
      rw [← hB]
      by_cases hlt2 : u < 2 ^ (fr + 1)
      · exact (V_rung f (e - least).toNat u (by rw [hB]; rw [Nat.pow_succ] at hlt2; omega) (fun h => by rw [hB]; exact hn (by omega))).1
      · have hue : u = 2 * f.binade - 1 + 1 := by rw [hB]; rw [Nat.pow_succ] at hu hlt2; omega
        have hb := binade_pos f
        have := (V_rung f (e - least).toNat (2 * f.binade - 1) (by omega) (fun h => by omega)).2
        rw [← hue, Nat.add_assoc, ← hue] at this
        exact this
    have := V_inj f (hv.trans hV.symm)
    omega
end Go.Proofs.YtjlmpgbadgkgmaaGreatDoor.M

/-
  Package dyadic: told, by its contract: what is reckoned out is told; where it gave up, ErrLong.
-/
namespace Go.Proofs.YtjlmpgbadgkgmaaGreatDoor
open Go Go.RowKit Go.Proofs.YtjlmpgbadgkgmaaGreatDoor.M
set_option linter.unusedSimpArgs false
set_option linter.unusedVariables false

theorem blkC {w : World} {g : Nat} {xs : Array Value} {t : TypeId} (h : w.heap[g]? = some (.cells xs t (0, 0))) (i : Nat) {v : Value} (hi : xs[i]? = some v) : w.cell? ⟨g, i, none⟩ = some v := by
  rw [cell_of_row w g i xs _ _ h]; exact hi
theorem blkF {w : World} {g : Nat} {xs : Array Value} {t : TypeId} (h : w.heap[g]? = some (.cells xs t (0, 0))) (i : Nat) : w.frozen? ⟨g, i, none⟩ = false := by
  simp [World.frozen?, h]
theorem heap_a2 (w : World) (a b : Obj) : ((w.alloc a).alloc b).heap[w.heap.size]? = some a := by
  show ((w.heap.push a).push b)[w.heap.size]? = some a
  simp [Array.getElem?_push]
theorem heap_b2 (w : World) (a b : Obj) : ((w.alloc a).alloc b).heap[w.heap.size + 1]? = some b := by
  show ((w.heap.push a).push b)[w.heap.size + 1]? = some b
  rw [Array.getElem?_push, if_pos (by simp)]
theorem size2 (w : World) (a b : Obj) : ((w.alloc a).alloc b).heap.size = w.heap.size + 2 := by
  show ((w.heap.push a).push b).size = _
  simp
theorem Out.set_below {B : Nat} {w : World} {v : Value} {n : Nat} {d : Nat → Int} (h : Out B w v n d) {a : Addr} (ha : a.block < B) (u : Value) : Out B (w.setCell a u) v n d := ownsRow_setCell_below h ha u
/-- A number that is read, in its one form. -/
def DNum (w : World) (v : Value) (V : Int) : Prop := ∃ ng s m e, v = .agg #[.bool ng, s, .int .i64 e] ∧ Dy V ng m e ∧ Num w s m
/-- A number that is answered: its list is new memory. -/
def DAns (w w' : World) (V : Int) (v : Value) : Prop := ∃ ng s m e, v = .agg #[.bool ng, s, .int .i64 e] ∧ Dy V ng m e ∧ Ans w w' m s
/-- The zero number. -/
def zeroV : Value := .agg #[.bool false, .slice none 0 0, .int .i64 0]
theorem DAns.below {w w' : World} {V : Int} {v : Value} (h : DAns w w' V v) : Below w.heap.size w w' := by
  obtain ⟨ng, s, m, e, _, _, h3⟩ := h
  exact h3.below
theorem DAns.num {w w' : World} {V : Int} {v : Value} (h : DAns w w' V v) : DNum w' v V := by
  obtain ⟨ng, s, m, e, h1, h2, h3⟩ := h
  exact ⟨ng, s, m, e, h1, h2, h3.num⟩
theorem DAns.from {w0 w w' : World} {V : Int} {v : Value} (h : DAns w w' V v) (hb : Below w0.heap.size w0 w) : DAns w0 w' V v := by
  obtain ⟨ng, s, m, e, h1, h2, h3⟩ := h
  exact ⟨ng, s, m, e, h1, h2, h3.from hb⟩
theorem DAns.stays {w w1 w2 : World} {V : Int} {v : Value} (h : DAns w w1 V v) (hb : Below w1.heap.size w1 w2) : DAns w w2 V v := by
  obtain ⟨ng, s, m, e, h1, h2, h3⟩ := h
  exact ⟨ng, s, m, e, h1, h2, h3.stays hb⟩
theorem DAns.zero {w w' : World} (hb : Below w.heap.size w w') : DAns w w' 0 zeroV := ⟨_, _, _, _, rfl, Dy.zero, Ans.nil hb⟩
theorem DNum.keeps {w w' : World} {v : Value} {V : Int} (h : DNum w v V) (hb : Below w.heap.size w w') : DNum w' v V := by
  obtain ⟨ng, s, m, e, h1, h2, h3⟩ := h
  exact ⟨ng, s, m, e, h1, h2, h3.keeps hb⟩
theorem DNum.zero (w : World) : DNum w zeroV 0 := (DAns.zero (bel_refl w)).num
/-- A number, or ErrLong, as the document says. -/
def DFit (w w' : World) (V : Int) (v : Value) (er : Int) : Prop := Below w.heap.size w w' ∧ ((Dok V ∧ er = 0 ∧ DAns w w' V v) ∨ (¬ Dok V ∧ er = 2 ∧ v = zeroV))
end Go.Proofs.YtjlmpgbadgkgmaaGreatDoor

/-
  Package round: the ways, by their contracts.
-/
namespace Go.Proofs.YtjlmpgbadgkgmaaGreatDoor
open Go Go.RowKit Go.Proofs.YtjlmpgbadgkgmaaGreatDoor.M
set_option linter.unusedSimpArgs false
set_option linter.unusedVariables false

end Go.Proofs.YtjlmpgbadgkgmaaGreatDoor

/-
  Package round: value.split, by its contract.
-/
namespace Go.Proofs.YtjlmpgbadgkgmaaGreatDoor
open Go Go.RowKit Go.Proofs.YtjlmpgbadgkgmaaGreatDoor.M
set_option linter.unusedSimpArgs false
set_option linter.unusedVariables false

end Go.Proofs.YtjlmpgbadgkgmaaGreatDoor

/-
  Package round: value.units, by its contract.
-/
namespace Go.Proofs.YtjlmpgbadgkgmaaGreatDoor
open Go Go.RowKit Go.Proofs.YtjlmpgbadgkgmaaGreatDoor.M
set_option linter.unusedSimpArgs false
set_option linter.unusedVariables false

end Go.Proofs.YtjlmpgbadgkgmaaGreatDoor

/-
  What the two layouts of package bits hold, carried over calls; the method split and its kin by contracts: for every pattern, in every world that holds the layouts.
-/
namespace Go.Proofs.YtjlmpgbadgkgmaaGreatDoor
open Go Go.RowKit Go.Proofs.YtjlmpgbadgkgmaaGreatDoor.M
set_option linter.unusedSimpArgs false
set_option linter.unusedVariables false

/-- The cells of the two layouts. -/
structure Lays (w : World) : Prop where
  a0 : w.cell? ⟨0, 0, none⟩ = some (.int .i64 52)
  a1 : w.cell? ⟨0, 1, none⟩ = some (.int .i64 2047)
  a2 : w.cell? ⟨0, 2, none⟩ = some (.int .i64 (-1074))
  b0 : True
  b1 : True
  b2 : True

/-- New blocks alone: read cell by cell, and block by block. -/
structure Gr (W w' : World) : Prop where
  gr : Grown W w'
  be : Below W.heap.size W w'
theorem Gr.refl (W : World) : Gr W W := ⟨Grown.refl _, Below.refl _ _⟩
theorem Gr.alloc {W w' : World} (h : Gr W w') (c : Array Value) (t : TypeId) : Gr W (w'.alloc (.cells c t)) := ⟨h.gr.alloc c t, h.be.alloc h.be.size _⟩
theorem Gr.drew {W w' : World} (h : Gr W w') : Gr W w'.drew := ⟨h.gr.drew, ⟨h.be.os, h.be.tape, h.be.output, h.be.size, h.be.block⟩⟩
theorem gDrewN {W w' : World} (h : Gr W w') (n : Nat) : Gr W (w'.drewN n) := ⟨h.gr, ⟨h.be.os, h.be.tape, h.be.output, h.be.size, h.be.block⟩⟩
theorem gCell {a b : World} (h : Gr a b) {p : Addr} {v : Value} (hc : a.cell? p = some v) : b.cell? p = some v := by
  unfold World.cell? at hc ⊢
  have hlt : p.block < a.heap.size := by
    by_cases hp : p.block < a.heap.size
    · exact hp
    · rw [Array.getElem?_eq_none (by omega)] at hc; simp at hc
  have k := h.gr.1.2.2 p.block hlt
  cases ha : a.heap[p.block]? with
  | none => rw [ha] at hc; simp at hc
  | some oa =>
    rw [ha] at hc k
    cases oa with
    | cells c t fr =>
      cases hb : b.heap[p.block]? with
      | none => rw [hb] at k; simp at k
      | some ob =>
        rw [hb] at k
        cases ob with
        | cells c' t' fr' =>
          simp only at hc k ⊢
          obtain ⟨_, _, _, kc⟩ := k
          rw [kc p.off (fun f => f)]
          exact hc
        | _ => simp at k
    | _ => simp at hc
theorem Lays.grown {w w' : World} (h : Lays w) (g : Gr w w') : Lays w' :=
  ⟨gCell g h.a0, gCell g h.a1, gCell g h.a2, trivial, trivial, trivial⟩

theorem b_ret_int {k : IntKind} {a b : Int} (h : a = b) : Ending.returned (.int k a) = .returned (.int k b) := by rw [h]

theorem b_ret_bool {a b : Bool} (h : a = b) : Ending.returned (.bool a) = .returned (.bool b) := by rw [h]
theorem ret_bii {a a' : Bool} {b b' c c' : Int} (h : a = a') (k : b = b') (l : c = c') : Ending.returned (.tuple #[.bool a, .int .i64 b, .int .i64 c]) = .returned (.tuple #[.bool a', .int .i64 b', .int .i64 c']) := by rw [h, k, l]
theorem ret_ttt {a a' b b' : Int} {c c' : Bool} (h : a = a') (k : b = b') (l : c = c') : Ending.returned (.tuple #[.int .i64 a, .int .i64 b, .bool c]) = .returned (.tuple #[.int .i64 a', .int .i64 b', .bool c']) := by rw [h, k, l]
theorem ret_ttt4 {n n' : Bool} {a a' b b' : Int} {c c' : Bool} (g : n = n') (h : a = a') (k : b = b') (l : c = c') : Ending.returned (.tuple #[.bool n, .int .i64 a, .int .i64 b, .bool c]) = .returned (.tuple #[.bool n', .int .i64 a', .int .i64 b', .bool c']) := by rw [g, h, k, l]

theorem split64 (b : Int) (w : World) :
    Calls Tryz.prog 72 #[.agg #[.int .i64 52, .int .i64 2047, .int .i64 (-1074)], .int .i64 b] w fun e w' => e = .returned (.tuple #[.int .i64 (fld b), .int .i64 (frc b)]) ∧ ∃ n, w' = (w.alloc (.cells #[.int .i64 52, .int .i64 2047, .int .i64 (-1074)] 67)).drewN n := by
  have h1 : bits .and .i64 (b / 4503599627370496) 2047 = fld b := and_i64_2047 _
  have h2 : bits .and .i64 b 4503599627370495 = frc b := and_i64_m52 _
  go_enter Tryz.func72, Tryz.ntmps72
  go_wp2
  go_quiet (fail)
  go_wp2
  go_ret2
  exact ⟨rfl, _, rfl⟩
theorem class64 (b : Int) (w : World) :
    Calls Tryz.prog 104 #[.agg #[.int .i64 52, .int .i64 2047, .int .i64 (-1074)], .int .i64 b] w fun e w' => e = .returned (.int .i64 (cls b)) ∧ Gr w w' := by
  by_cases h1 : fld b = 2047 <;> by_cases h2 : frc b = 0 <;> by_cases h3 : fld b = 0
  all_goals first
    | (exfalso; omega)
    | (go_enter Tryz.func104, Tryz.ntmps104
       go_wp2_with (go_at_call 72; refine (split64 _ _).mono ?_; rintro e w1 ⟨rfl, n, rfl⟩)
       go_ret
       exact ⟨b_ret_int (by simp [cls, h1, h2, h3]), gDrewN (((Gr.refl _).alloc _ _).alloc _ _) _⟩)
theorem parts64 (b : Int) (w : World) :
    Calls Tryz.prog 52 #[.agg #[.int .i64 52, .int .i64 2047, .int .i64 (-1074)], .int .i64 b] w fun e w' => e = .returned (.tuple #[.int .i64 (pmag b), .int .i64 (pexp b), .bool (pok b)]) ∧ Gr w w' := by
  have hf := fld_le b
  have hr := frc_le b
  by_cases h1 : fld b = 2047
  · go_enter Tryz.func52, Tryz.ntmps52
    go_wp2_with (go_at_call 72; refine (split64 _ _).mono ?_; rintro e w1 ⟨rfl, n, rfl⟩)
    go_ret3
    exact ⟨ret_ttt (by simp [pmag, h1]) (by simp [pexp, h1]) (by simp [pok, h1]), gDrewN (((Gr.refl _).alloc _ _).alloc _ _) _⟩
  · by_cases h2 : fld b = 0
    · go_enter Tryz.func52, Tryz.ntmps52
      go_wp2_with (go_at_call 72; refine (split64 _ _).mono ?_; rintro e w1 ⟨rfl, n, rfl⟩)
      go_quiet (fail)
      go_wp2
      go_ret3
      exact ⟨ret_ttt (by simp [pmag, h1, h2]) (by simp [pexp, h1, h2]) (by simp [pok, h1]), gDrewN (gDrewN (((Gr.refl _).alloc _ _).alloc _ _) _) _⟩
    · go_enter Tryz.func52, Tryz.ntmps52
      go_wp2_with (go_at_call 72; refine (split64 _ _).mono ?_; rintro e w1 ⟨rfl, n, rfl⟩)
      go_quiet (fail)
      go_wp2
      go_ret3
      exact ⟨ret_ttt (by simp [pmag, h1, h2]) (by simp [pexp, h1, h2]; omega) (by simp [pok, h1]), gDrewN (gDrewN (((Gr.refl _).alloc _ _).alloc _ _) _) _⟩
end Go.Proofs.YtjlmpgbadgkgmaaGreatDoor

/-
  The library's math/bits.TrailingZeros64 and Len64, each by a contract: the number of b_trailing zero bits, the number of bits, of every uint64.
-/
namespace Go.Proofs.YtjlmpgbadgkgmaaGreatDoor
open Go Go.RowKit Go.Proofs.YtjlmpgbadgkgmaaGreatDoor.M
set_option linter.unusedSimpArgs false
set_option linter.unusedVariables false

theorem ret_ib {a a' : Int} {c c' : Bool} (h : a = a') (l : c = c') : Ending.returned (.tuple #[.int .i64 a, .bool c]) = .returned (.tuple #[.int .i64 a', .bool c']) := by rw [h, l]

/-- The library's table of b_trailing zeros. -/
def b_Tab (w : World) : Prop := ∀ j, j < 64 → w.cell? ⟨2, j, none⟩ = some (.int .u8 ((Lib.deBruijn64tab.getD j 0 : Nat) : Int))
theorem b_Tab.grown {w w' : World} (h : b_Tab w) (g : Gr w w') : b_Tab w' := fun j hj => gCell g (h j hj)

theorem b_tz_key (x a : Nat) (hx : x < 18446744073709551616) (hx0 : x ≠ 0) (hlow : x &&& (18446744073709551616 - x) = a) :
    IntKind.u64.wrap (bits .and .u64 (x : Int) (IntKind.u64.wrap (-(x : Int))) * 285870213051353865) / 288230376151711744 = ((a * 285870213051353865 % 18446744073709551616 / 288230376151711744 : Nat) : Int) := by
  have e1 : IntKind.u64.wrap (-(x : Int)) = ((18446744073709551616 - x : Nat) : Int) := by rw [IntKind.wrap_u64]; omega
  rw [e1, bits_and_u64_nat x _ hx (by omega), hlow, IntKind.wrap_u64]
  omega
set_option maxHeartbeats 1000000 in
theorem b_tz_core (x k idx : Nat) (w : World) (hx0 : ((x : Int) == 0) = false)
    (key : IntKind.u64.wrap (bits .and .u64 (x : Int) (IntKind.u64.wrap (-(x : Int))) * 285870213051353865) / 288230376151711744 = (idx : Int))
    (hi : idx < 64) (hk : k < 64) (hcell : w.cell? ⟨2, idx, none⟩ = some (.int .u8 k)) :
    Calls Tryz.prog 54 #[.int .u64 x] w fun e w' => e = .returned (.int .i64 k) ∧ w' = w := by
  go_enter Tryz.func54, Tryz.ntmps54
  go_wp2_with (simp only [key])
  go_ret
  exact ⟨rfl, rfl⟩
theorem b_trailing (x : Nat) (hx : x < 18446744073709551616) (h0 : x ≠ 0) (w : World) (hT : b_Tab w) :
    Calls Tryz.prog 54 #[.int .u64 x] w fun e w' => e = .returned (.int .i64 (Lib.ctz 64 x)) ∧ w' = w := by
  obtain ⟨hlow, hk⟩ := Lib.lowest_bit 64 x h0 hx
  obtain ⟨hi, htab⟩ := Lib.deBruijn64_at _ hk
  have hcell := hT _ hi
  rw [htab] at hcell
  exact b_tz_core x _ _ w (by simp; omega) (b_tz_key x _ hx h0 hlow) hi hk hcell
end Go.Proofs.YtjlmpgbadgkgmaaGreatDoor

/-
  Package round: value.float, by its contract.
-/
namespace Go.Proofs.YtjlmpgbadgkgmaaGreatDoor
open Go Go.RowKit Go.Proofs.YtjlmpgbadgkgmaaGreatDoor.M
set_option linter.unusedSimpArgs false
set_option linter.unusedVariables false

end Go.Proofs.YtjlmpgbadgkgmaaGreatDoor

/-
  Package bits' Join: the method join of both layouts, by contracts.
-/
namespace Go.Proofs.YtjlmpgbadgkgmaaGreatDoor
open Go Go.RowKit Go.Proofs.YtjlmpgbadgkgmaaGreatDoor.M
set_option linter.unusedSimpArgs false
set_option linter.unusedVariables false

theorem trailingI (mag : Int) (h0 : 0 < mag) (h : mag < 9223372036854775808) (w : World) (hT : b_Tab w) :
    Calls Tryz.prog 54 #[.int .u64 mag] w fun e w' => e = .returned (.int .i64 (jz mag)) ∧ w' = w := by
  obtain ⟨n, rfl⟩ := Int.eq_ofNat_of_zero_le (Int.le_of_lt h0)
  exact b_trailing n (by omega) (by omega) w hT
/-- What the world holds: the layouts, and the library's table. -/
structure Env (w : World) : Prop where
  lays : Lays w
  tab : b_Tab w
theorem Env.grown {w w' : World} (h : Env w) (g : Gr w w') : Env w' := ⟨h.lays.grown g, h.tab.grown g⟩
end Go.Proofs.YtjlmpgbadgkgmaaGreatDoor

/-
  Package digits: Pile, by its contract: a number is put onto columns, each column turned by less than 2^30; raise by it.
-/
namespace Go.Proofs.YtjlmpgbadgkgmaaGreatDoor
open Go Go.RowKit Go.Proofs.YtjlmpgbadgkgmaaGreatDoor.M
set_option linter.unusedSimpArgs false
set_option linter.unusedVariables false

theorem upd_shift (r : Nat → Int) (q k : Nat) (x : Int) : (fun i => upd r (q + k) x (q + i)) = upd (fun i => r (q + i)) k x := by
  funext i
  unfold upd
  by_cases h : i = k
  · simp [h]
  · simp [h]
theorem shl_dig {x : Int} {p : Nat} (hx : 0 ≤ x ∧ x < 1073741824) (hp : p ≤ 30) : 0 ≤ x * 2 ^ p ∧ x * 2 ^ p ≤ 1073741823 * 2 ^ p ∧ (2 : Int) ^ p ≤ 1073741824 := by
  have h := two_pos p
  exact ⟨Int.mul_nonneg hx.1 (by omega), Int.mul_le_mul_of_nonneg_right (by omega) (by omega), two_le hp⟩

/-- What stands on the columns when k digits of a were put there. -/
structure PileI (q p N n : Nat) (a r0 : Nat → Int) (s : Int) (k : Nat) (c : Int) (r : Nat → Int) : Prop where
  rest : ∀ i, q + k ≤ i → r i = r0 i
  near : ∀ i, 0 ≤ s * (r i - r0 i) ∧ s * (r i - r0 i) < 1073741824
  sum : ∃ T, val r N = val r0 N + s * (P q * T) ∧ T + c * P k = 2 ^ p * val a k
theorem PileI.put {q p N n : Nat} {a r0 : Nat → Int} {s : Int} {k : Nat} {c : Int} {r : Nat → Int} (h : PileI q p N n a r0 s k c r) (hs : s * s = 1) (hN : q + k < N) {m c' : Int} (hm : 0 ≤ m ∧ m < 1073741824) (e : m + c' * 1073741824 = c + a k * 2 ^ p) :
    PileI q p N n a r0 s (k + 1) c' (upd r (q + k) (r (q + k) + s * m)) := by
  refine ⟨fun i hi => by rw [upd_other r _ (by omega)]; exact h.rest i (by omega), fun i => ?_, ?_⟩
  · by_cases hi : i = q + k
    · subst hi
      rw [upd_same, h.rest _ (Nat.le_refl _), show s * (r0 (q + k) + s * m - r0 (q + k)) = s * s * m by grind, hs]
      omega
    · rw [upd_other r _ hi]; exact h.near i
  · obtain ⟨T, e1, e2⟩ := h.sum
    refine ⟨T + m * P k, ?_, ?_⟩
    · rw [val_upd r _ hN, e1, P_add]; grind
    · rw [val_succ, P_succ]
      have : c' * (P k * 1073741824) = (c + a k * 2 ^ p - m) * P k := by rw [show c + a k * 2 ^ p - m = c' * 1073741824 by omega]; grind
      rw [this, show T + m * P k + (c + a k * 2 ^ p - m) * P k = (T + c * P k) + a k * 2 ^ p * P k by grind, e2]; grind
/-- The columns behind it. -/
structure Piled (N : Nat) (r0 : Nat → Int) (s V : Int) (r : Nat → Int) : Prop where
  near : ∀ i, 0 ≤ s * (r i - r0 i) ∧ s * (r i - r0 i) < 1073741824
  sum : val r N = val r0 N + s * V
theorem PileI.done {q p N n : Nat} {a r0 : Nat → Int} {s : Int} {c : Int} {r : Nat → Int} (h : PileI q p N n a r0 s n c r) (hs : s * s = 1) (hN : q + n < N) (hc : 0 ≤ c ∧ c < 1073741824) :
    Piled N r0 s (P q * (2 ^ p * val a n)) (upd r (q + n) (r (q + n) + s * c)) := by
  refine ⟨fun i => ?_, ?_⟩
  · by_cases hi : i = q + n
    · subst hi
      rw [upd_same, h.rest _ (Nat.le_refl _), show s * (r0 (q + n) + s * c - r0 (q + n)) = s * s * c by grind, hs]
      omega
    · rw [upd_other r _ hi]; exact h.near i
  · obtain ⟨T, e1, e2⟩ := h.sum
    rw [val_upd r _ hN, e1, P_add, ← e2]; grind
theorem pile_near {s x y C : Int} (hs : s = 1 ∨ s = -1) (h : 0 ≤ s * (x - y) ∧ s * (x - y) < 1073741824) (hy : -C ≤ y ∧ y ≤ C) : -(C + 1073741823) ≤ x ∧ x ≤ C + 1073741823 := by
  rcases hs with rfl | rfl <;> omega
end Go.Proofs.YtjlmpgbadgkgmaaGreatDoor

/-
  Package nat: raise, lower, by contracts: for every list of digits, every shift.
-/
namespace Go.Proofs.YtjlmpgbadgkgmaaGreatDoor
open Go Go.RowKit Go.Proofs.YtjlmpgbadgkgmaaGreatDoor.M
set_option linter.unusedSimpArgs false
set_option linter.unusedVariables false

theorem shr_part {x y : Int} {p : Nat} (hx : 0 ≤ x ∧ x < 1073741824) (hy : 0 ≤ y ∧ y < 1073741824) (hp : p < 30) :
    0 ≤ x / 2 ^ p ∧ x / 2 ^ p < 2 ^ (30 - p) ∧ y * 2 ^ (30 - p) % 1073741824 = y % 2 ^ p * 2 ^ (30 - p) ∧ 0 ≤ y % 2 ^ p ∧ y % 2 ^ p * 2 ^ (30 - p) < 1073741824 := by
  have hu := two_pos p
  have hv := two_pos (30 - p)
  have huv : (2 : Int) ^ p * 2 ^ (30 - p) = 1073741824 := by rw [← Int.pow_add, show p + (30 - p) = 30 by omega]; rfl
  have m0 := Int.emod_nonneg y (show (2 : Int) ^ p ≠ 0 by omega)
  have m1 := Int.emod_lt_of_pos y hu
  refine ⟨Int.ediv_nonneg hx.1 (by omega), (Int.ediv_lt_iff_lt_mul hu).2 (by rw [Int.mul_comm, huv]; exact hx.2), ?_, m0, ?_⟩
  · rw [← huv, Int.mul_comm y, Int.mul_comm (2 ^ p : Int), Int.mul_emod_mul_of_pos _ _ hv, Int.mul_comm]
  · have h1 : (y % 2 ^ p + 1) * 2 ^ (30 - p) ≤ 2 ^ p * 2 ^ (30 - p) := Int.mul_le_mul_of_nonneg_right (by omega) (by omega)
    rw [huv, Int.add_mul] at h1
    omega
theorem low_last {s : Nat → Int} {u v : Int} {k : Nat} (h : s (k + 1) = 0) : low s u v k = s k / u := by
  unfold low; rw [h, Int.zero_emod, Int.zero_mul, Int.add_zero]
end Go.Proofs.YtjlmpgbadgkgmaaGreatDoor

/-
  Package dyadic: which numbers are valid, their signs, by contracts: whatever the sign, the list, the exponent.
-/
namespace Go.Proofs.YtjlmpgbadgkgmaaGreatDoor
open Go Go.RowKit Go.Proofs.YtjlmpgbadgkgmaaGreatDoor.M
set_option linter.unusedSimpArgs false
set_option linter.unusedVariables false

/-- Is it valid? -/
def okN (ng : Bool) (d : Nat → Int) (n : Nat) (e : Int) : Bool := decide ((n = 0 ∧ ng = false ∧ e = 0) ∨ (0 < n ∧ (n ≤ 2000 ∧ Nrm d n) ∧ d 0 % 2 = 1 ∧ -1048576 ≤ e ∧ e ≤ 1048576))
/-- The sign. -/
def sgn (ng : Bool) (n : Nat) : Int := if n = 0 then 0 else if ng then -1 else 1
end Go.Proofs.YtjlmpgbadgkgmaaGreatDoor

/-
  Lists of numbers, as they lie in memory; package dyadic's valid, by its contract.
-/
namespace Go.Proofs.YtjlmpgbadgkgmaaGreatDoor
open Go Go.RowKit Go.Proofs.YtjlmpgbadgkgmaaGreatDoor.M
set_option linter.unusedSimpArgs false
set_option linter.unusedVariables false

/-- A number, as it lies in memory. -/
structure NumR where
  ng : Bool
  ao : Option Addr
  n : Nat
  cap : Nat
  d : Nat → Int
  e : Int
instance : Inhabited NumR := ⟨⟨false, none, 0, 0, fun _ => 0, 0⟩⟩
def NumR.v (r : NumR) : Value := .agg #[.bool r.ng, .slice r.ao r.n r.cap, .int .i64 r.e]
structure At3 (w : World) (b o : Nat) (r : NumR) : Prop where
  c0 : w.cell? ⟨b, o, none⟩ = some (.bool r.ng)
  c1 : w.cell? ⟨b, o + 1, none⟩ = some (.slice r.ao r.n r.cap)
  c2 : w.cell? ⟨b, o + 2, none⟩ = some (.int .i64 r.e)
  row : Row w r.ao r.n r.cap r.d
/-- A slice of numbers that is read. -/
structure Nums (w : World) (ao : Option Addr) (n cap : Nat) (r : Nat → NumR) : Prop where
  le : n ≤ cap
  max : cap ≤ 9223372036854775807
  spot : 0 < n → ∃ b off, ao = some ⟨b, off, none⟩ ∧ b < w.heap.size ∧ ∀ i, i < n → At3 w b (off + i * 3) (r i)
theorem At3.keeps {w w' : World} {b o : Nat} {r : NumR} (h : At3 w b o r) (hb : Below w.heap.size w w') (hlt : b < w.heap.size) : At3 w' b o r :=
  ⟨(hb.cell (p := ⟨b, o, none⟩) hlt).trans h.c0, (hb.cell (p := ⟨b, o + 1, none⟩) hlt).trans h.c1, (hb.cell (p := ⟨b, o + 2, none⟩) hlt).trans h.c2, h.row.keeps hb⟩
theorem Nums.keeps {w w' : World} {ao : Option Addr} {n cap : Nat} {r : Nat → NumR} (h : Nums w ao n cap r) (hb : Below w.heap.size w w') : Nums w' ao n cap r :=
  ⟨h.le, h.max, fun hn => by
    obtain ⟨b, off, rfl, hlt, hc⟩ := h.spot hn
    exact ⟨b, off, rfl, Nat.lt_of_lt_of_le hlt hb.size, fun i hi => (hc i hi).keeps hb hlt⟩⟩
def okR (r : NumR) : Bool := okN r.ng r.d r.n r.e
end Go.Proofs.YtjlmpgbadgkgmaaGreatDoor

/-
  Package nat: slices.Clone at ints, digits, shorten, guess, by contracts.
-/
namespace Go.Proofs.YtjlmpgbadgkgmaaGreatDoor
open Go Go.RowKit Go.Proofs.YtjlmpgbadgkgmaaGreatDoor.M
set_option linter.unusedSimpArgs false
set_option linter.unusedVariables false

end Go.Proofs.YtjlmpgbadgkgmaaGreatDoor

/-
  Package nat: guess and takeOut (one digit of a long division), by contracts.
-/
namespace Go.Proofs.YtjlmpgbadgkgmaaGreatDoor
open Go Go.RowKit Go.Proofs.YtjlmpgbadgkgmaaGreatDoor.M
set_option linter.unusedSimpArgs false
set_option linter.unusedVariables false

/-- A guess: it is the quotient, or one more. -/
def Gs (U V t : Int) : Prop := 0 ≤ t ∧ t < 1073741824 ∧ (t - 1) * V ≤ U ∧ U < (t + 1) * V
/-- What a division's step is about: U has L + 3 digits, V has L + 2, the highest bit of V is set. -/
structure Stp (u v : Nat → Int) (L : Nat) (U V : Int) : Prop where
  du : Dig u (L + 3)
  dv : Dig v (L + 2)
  top : 536870912 ≤ v (L + 1)
  eU : U = val u (L + 3)
  eV : V = val v (L + 2)
  lt : U < 1073741824 * V
theorem Stp.splitV {u v : Nat → Int} {L : Nat} {U V : Int} (h : Stp u v L U V) : V = (v (L + 1) * 1073741824 + v L) * P L + val v L := by
  rw [h.eV, val_succ, val_succ, P_succ]; grind
theorem Stp.splitU {u v : Nat → Int} {L : Nat} {U V : Int} (h : Stp u v L U V) : U = ((u (L + 2) * 1073741824 + u (L + 1)) * 1073741824 + u L) * P L + val u L := by
  rw [h.eU, val_succ, val_succ, val_succ, show P (L + 2) = P L * 1073741824 * 1073741824 from rfl, show P (L + 1) = P L * 1073741824 from rfl]; grind
theorem Stp.topU {u v : Nat → Int} {L : Nat} {U V : Int} (h : Stp u v L U V) : u (L + 2) ≤ v (L + 1) := by
  have h1 : val u (L + 3) = val u (L + 2) + u (L + 2) * P (L + 2) := val_succ _ _
  have h2 : val v (L + 2) = val v (L + 1) + v (L + 1) * P (L + 1) := val_succ _ _
  have a := val_nonneg (h.du.le (show L + 2 ≤ L + 3 by omega))
  have b := val_lt (h.dv.le (show L + 1 ≤ L + 2 by omega))
  have c := h.lt
  rw [h.eU, h.eV, h1, h2] at c
  have p := P_pos (L + 1)
  have e : P (L + 2) = P (L + 1) * 1073741824 := P_succ _
  rw [e] at c
  rcases Int.lt_or_le (v (L + 1)) (u (L + 2)) with q | q
  · have f : (v (L + 1) + 1) * (P (L + 1) * 1073741824) ≤ u (L + 2) * (P (L + 1) * 1073741824) := mul_le_r (by omega) (by omega)
    have g : (v (L + 1) + 1) * (P (L + 1) * 1073741824) = 1073741824 * (v (L + 1) * P (L + 1)) + 1073741824 * P (L + 1) := by grind
    omega
  · exact q
theorem Stp.start {u v : Nat → Int} {L : Nat} {U V : Int} (h : Stp u v L U V) {t l : Int} (ht : 0 ≤ t) (hh : u (L + 2) * 1073741824 + u (L + 1) = t * v (L + 1) + l) (hl : l < v (L + 1)) : U < (t + 1) * V := by
  have sU := h.splitU
  have sV := h.splitV
  have p := P_pos L
  have a := val_lt (h.du.le (show L ≤ L + 3 by omega))
  have b := val_nonneg (h.dv.le (show L ≤ L + 2 by omega))
  have dL := h.du L (by omega)
  have vL := h.dv L (by omega)
  have e1 : (u (L + 2) * 1073741824 + u (L + 1) + 1) * (1073741824 * P L) ≤ (t + 1) * v (L + 1) * (1073741824 * P L) := mul_le_r (by rw [Int.add_mul]; omega) (by omega)
  have e2 : 0 ≤ (t + 1) * (v L * P L + val v L) := Int.mul_nonneg (by omega) (by have := Int.mul_nonneg vL.1 (Int.le_of_lt p); omega)
  have e3 : (t + 1) * V = (t + 1) * v (L + 1) * (1073741824 * P L) + (t + 1) * (v L * P L + val v L) := by rw [sV]; grind
  have e4 : U = (u (L + 2) * 1073741824 + u (L + 1) + 1) * (1073741824 * P L) - 1073741824 * P L + u L * P L + val u L := by rw [sU]; grind
  have e5 : u L * P L ≤ 1073741823 * P L := mul_le_r (by omega) (by omega)
  omega
theorem Stp.small {u v : Nat → Int} {L : Nat} {U V : Int} (h : Stp u v L U V) {t l : Int} (hh : u (L + 2) * 1073741824 + u (L + 1) = t * v (L + 1) + l) (hl : 1073741823 < l) : t < 1073741824 := by
  rcases Int.lt_or_le t 1073741824 with q | q
  · exact q
  · have a := h.topU
    have b := (h.du (L + 1) (by omega)).2
    have c := (h.dv (L + 1) (by omega)).1
    have e : 1073741824 * v (L + 1) ≤ t * v (L + 1) := mul_le_r q c
    omega
theorem Stp.long {u v : Nat → Int} {L : Nat} {U V : Int} (h : Stp u v L U V) {t l : Int} (ht : 0 ≤ t) (hh : u (L + 2) * 1073741824 + u (L + 1) = t * v (L + 1) + l) (hl : 1073741823 < l) (hU : U < (t + 1) * V) : Gs U V t := by
  have a := knuth_long h.splitV (val_lt (h.dv.le (by omega))) (h.dv L (by omega)).2 h.splitU (val_nonneg (h.du.le (by omega))) (h.du L (by omega)).1 (P_pos L) hh ht (h.small hh hl) (by omega)
  have := val_nonneg h.dv
  rw [← h.eV] at this
  exact ⟨ht, h.small hh hl, by rw [Int.sub_mul]; omega, hU⟩
theorem Stp.done {u v : Nat → Int} {L : Nat} {U V : Int} (h : Stp u v L U V) {t l : Int} (ht : 0 ≤ t) (hh : u (L + 2) * 1073741824 + u (L + 1) = t * v (L + 1) + l) (h1 : t < 1073741824) (hc : t * v L ≤ l * 1073741824 + u L) (hU : U < (t + 1) * V) : Gs U V t :=
  ⟨ht, h1, knuth_short h.splitV (val_nonneg (h.dv.le (by omega))) (val_lt (h.dv.le (by omega))) (by have := h.top; omega) (h.dv L (by omega)).1 h.splitU (val_nonneg (h.du.le (by omega))) (P_pos L) hh ht h1 hc, hU⟩

end Go.Proofs.YtjlmpgbadgkgmaaGreatDoor

/-
  Package nat: takeOut (a divisor taken out of the highest digits as often as it goes), by its contract.
-/
namespace Go.Proofs.YtjlmpgbadgkgmaaGreatDoor
open Go Go.RowKit Go.Proofs.YtjlmpgbadgkgmaaGreatDoor.M
set_option linter.unusedSimpArgs false
set_option linter.unusedVariables false

theorem RowX.row {g : Nat} {w : World} {ao : Option Addr} {n cap : Nat} {d : Nat → Int} (h : RowX g w ao n cap d) (hn : 0 < n) : Row w ao n cap d :=
  ⟨h.le, h.max, (fun e => by obtain ⟨b, off, q, _⟩ := h.spot hn; rw [q] at e; cases e), fun _ => by
    obtain ⟨b, off, q, hlt, _, hc⟩ := h.spot hn
    exact ⟨b, off, q, hlt, hc⟩⟩
/-- What takeOut leaves: in the digits from at on a rest below V, t times V less. -/
def Tk (g N at_ M : Nat) (r : Nat → Int) (w w' : World) (U V t : Int) : Prop :=
  ∃ r', Blk w' g N r' ∧ (∀ i, i < at_ ∨ at_ + M < i → r' i = r i) ∧ Dig (fun i => r' (at_ + i)) (M + 1) ∧ U = t * V + val (fun i => r' (at_ + i)) (M + 1) ∧ val (fun i => r' (at_ + i)) (M + 1) < V ∧ 0 ≤ t ∧ t < 1073741824 ∧ Wr g w w'
theorem Stp.facts {u v : Nat → Int} {L M : Nat} {U V : Int} (hM : M = L + 2) (h : Stp u v L U V) : Dig v M ∧ Dig u (M + 1) ∧ V = val v M ∧ U = val u M + u M * P M ∧ V < P M ∧ 0 ≤ U := by
  subst hM
  have e1 := h.eU
  have e2 := val_nonneg h.du
  have e3 := val_lt h.dv
  have e4 := h.eV
  refine ⟨h.dv, h.du, e4, ?_, by omega, by omega⟩
  rw [e1]; exact val_succ u (L + 2)
theorem Blk.cells {w : World} {g N : Nat} {r : Nat → Int} (h : Blk w g N r) {at_ n : Nat} (hn : at_ + n ≤ N) : ∀ i, i < n → w.cell? ⟨g, at_ + i, none⟩ = some (.int .i64 ((fun j => r (at_ + j)) i)) := fun i hi => h.cell (by omega)
end Go.Proofs.YtjlmpgbadgkgmaaGreatDoor
