/-
  Parts of the proof, one behind another.
-/
import Derived.Test.YtmjdlcbiaglkeaaDoorPart1
import Derived.Test.YtmjdlcbiaglkeaaDoorProg
import Derived.WalkKit
import Derived.RowKit3
import Derived.Below
import Derived.Deep.QuietTactic
import Derived.BigQuiet
import Derived.Laws.Externs
import Derived.Laws.Cover2
/-
  Plain mathematics: the value of a joined pattern; what Parts tells is joined again to the same pattern; the neighbour of a pattern by its parts. No Go text in sight.
-/
namespace Go.Proofs.YtmjdlcbiaglkeaaDoor.M
open Go Ieee
set_option linter.unusedSimpArgs false
set_option linter.unusedVariables false

theorem V_parts (f : Format) (a n : Nat) (h : (a = 0 ∧ n < 2 * f.binade) ∨ (f.binade ≤ n ∧ n < 2 * f.binade)) : V f (a * f.binade + n) = n * 2 ^ a := by
  have hB := binade_pos f
  unfold V
  by_cases hn : n < f.binade
  · have ha : a = 0 := by omega
    subst ha
    rw [Nat.zero_mul, Nat.zero_add, if_pos hn]; simp
  · have hge : f.binade ≤ a * f.binade + n := Nat.le_trans (by omega) (Nat.le_add_left _ _)
    rw [if_neg (by omega)]
    have e : a * f.binade + n = f.binade * (a + 1) + (n - f.binade) := by
      rw [Nat.mul_add, Nat.mul_one, Nat.mul_comm]; omega
    rw [e, Nat.mul_add_mod, Nat.mod_eq_of_lt (show n - f.binade < f.binade by omega), Nat.mul_add_div hB, Nat.div_eq_of_lt (show n - f.binade < f.binade by omega)]
    rw [show a + 1 + 0 - 1 = a by omega, show f.binade + (n - f.binade) = n by omega]
theorem V_inj (f : Format) {r s : Nat} (h : V f r = V f s) : r = s := by
  rcases Nat.lt_trichotomy r s with h1 | h1 | h1
  · have := V_lt f h1; omega
  · exact h1
  · have := V_lt f h1; omega
theorem pow_split (z : Nat) (n : Int) (u : Nat) (m : Nat) (hn : 0 ≤ n) (h : z ≤ u) (hm : (m : Int) = n * 2 ^ z) : n.toNat * 2 ^ u = m * 2 ^ (u - z) := by
  obtain ⟨k, rfl⟩ := Int.eq_ofNat_of_zero_le hn
  have hm' : m = k * 2 ^ z := by
    have : ((k * 2 ^ z : Nat) : Int) = (k : Int) * 2 ^ z := by rw [Int.natCast_mul]; simp
    omega
  rw [hm', Int.toNat_natCast, Nat.mul_assoc, ← Nat.pow_add, show z + (u - z) = u by omega]
/-- the value of a joined pattern, in units of the least place -/
theorem V_join (f : Format) (fr : Nat) (hB : f.binade = 2 ^ fr) (top least mag exp : Int) (h0 : 0 < mag) (h : mag < 9223372036854775808)
    (hg : jgood fr top least mag exp = true) (he : least ≤ exp) : V f (jv fr top least mag exp).toNat = mag.toNat * 2 ^ (exp - least).toNat := by
  obtain ⟨m, ez, z63, eo⟩ := jz_spec h0 h
  have hg' := hg
  unfold jgood at hg'
  simp only [Bool.and_eq_true, decide_eq_true_eq] at hg'
  have hs : 0 ≤ jsh fr least mag exp ∧ jsh fr least mag exp ≤ jsp fr mag ∧ jsh fr least mag exp ≤ exp + jz mag - least := by unfold jsh; omega
  have hb := jshift_lt (fr := fr) h0 h (by omega) (jsh fr least mag exp).toNat (by omega)
  have hd := doubled (fr := fr) h0 h (by omega) (jsh fr least mag exp).toNat
  have ha : 0 ≤ jab fr least mag exp := by unfold jab; omega
  obtain ⟨n, hn⟩ := Int.eq_ofNat_of_zero_le (show 0 ≤ jo mag * 2 ^ (jsh fr least mag exp).toNat by omega)
  obtain ⟨a, ha'⟩ := Int.eq_ofNat_of_zero_le ha
  rw [hn] at hb hd
  have hB1 : ((f.binade : Nat) : Int) = 2 ^ fr := by rw [hB]; simp
  rw [Int.toNat_natCast, ← hB1] at hd
  have hb2 : (n : Int) < 2 * (f.binade : Int) := by
    have := hb.2
    rw [Int.toNat_natCast, Int.pow_succ, ← hB1] at this
    omega
  have ejv : (jv fr top least mag exp).toNat = a * f.binade + n := by
    unfold jv
    rw [if_neg (by omega), if_pos hg, hn, ha', Int.toNat_natCast, ← hB1]
    have : ((a : Int) * (f.binade : Int) + (n : Int)) = ((a * f.binade + n : Nat) : Int) := by rw [Int.natCast_add, Int.natCast_mul]
    rw [this, Int.toNat_natCast]
  rw [ejv, V_parts f a n (by
    by_cases hn1 : n < f.binade
    · left
      have := hd.1 (by omega)
      have : jab fr least mag exp = 0 := by unfold jab; unfold jsh at *; omega
      omega
    · right; omega)]
  -- n * 2 ^ a = mag * 2 ^ (exp - least)
  have e1 : mag.toNat * 2 ^ (exp - least).toNat = (jo mag).toNat * 2 ^ (jz mag + (exp - least).toNat) := by
    have hm : ((mag.toNat : Nat) : Int) = jo mag * 2 ^ jz mag := by
      rw [Int.toNat_of_nonneg (by omega), eo, Int.mul_comm]; exact ez
    rw [pow_split (jz mag) (jo mag) (jz mag + (exp - least).toNat) mag.toNat (by omega) (by omega) hm]
    congr 2; omega
  have e2 : n * 2 ^ a = (jo mag).toNat * 2 ^ ((jsh fr least mag exp).toNat + a) := by
    rw [pow_split (jsh fr least mag exp).toNat (jo mag) ((jsh fr least mag exp).toNat + a) n (by omega) (by omega) (by rw [← hn])]
    congr 2; omega
  rw [e1, e2]
  congr 2
  unfold jab at ha'
  omega
/-- the odd part and the twos together are no longer than the whole -/
theorem jzl {mag : Int} (h0 : 0 < mag) (h : mag < 9223372036854775808) (k : Nat) (hk : mag < 2 ^ k) : (jz mag : Int) + jl mag ≤ k := by
  obtain ⟨m, ez, z63, eo⟩ := jz_spec h0 h
  have hj := jo_le h0 h
  have sp := bitLen_spec (jo mag).toNat (by omega) (by omega)
  have h1 : 2 ^ (Lib.bitLen (jo mag).toNat - 1) * 2 ^ jz mag ≤ (jo mag).toNat * 2 ^ jz mag := Nat.mul_le_mul_right _ sp.1
  rw [← Nat.pow_add] at h1
  have h2 : (((jo mag).toNat * 2 ^ jz mag : Nat) : Int) = mag := by
    rw [Int.natCast_mul, Int.toNat_of_nonneg (by omega), eo, Int.mul_comm]
    simp only [Int.natCast_pow]
    exact ez.symm
  have h3 : (jo mag).toNat * 2 ^ jz mag < 2 ^ k := by
    have : ((2 ^ k : Nat) : Int) = 2 ^ k := by simp
    omega
  have h4 : 2 ^ (Lib.bitLen (jo mag).toNat - 1 + jz mag) < 2 ^ k := by omega
  have := (Nat.pow_lt_pow_iff_right (by decide : 1 < 2)).1 h4
  unfold jl
  omega
theorem jgood_small {fr top least mag exp : Int} (h0 : 0 < mag) (h : mag < 9223372036854775808) (hf : 0 ≤ fr) (hk : mag < 2 ^ (fr.toNat + 1)) (he : least ≤ exp) (he2 : exp ≤ top - 2 + least) : jgood fr top least mag exp = true := by
  have hl := jzl h0 h (fr.toNat + 1) hk
  have := jl_le h0 h
  unfold jgood jab jsh jsp
  simp only [Bool.and_eq_true, decide_eq_true_eq]
  omega
/-! binary64 -/
def rg (b : Int) : Int := if b < 0 then b + 9223372036854775808 else b
theorem rg_parts {b : Int} (h : rng b) : 0 ≤ rg b ∧ rg b = fld b * 4503599627370496 + frc b := by
  unfold rng at h; unfold rg fld frc; split <;> omega
theorem pparts {b : Int} (h : pok b = true) : fld b ≠ 2047 := by simpa [pok] using h
theorem dB : Ieee.double.binade = 2 ^ 52 := by decide
theorem V_rg {b : Int} (hb : rng b) (hp : pok b = true) : V Ieee.double (rg b).toNat = (pmag b).toNat * 2 ^ (pexp b + 1074).toNat := by
  have hne := pparts hp
  obtain ⟨r0, r1⟩ := rg_parts hb
  have hf := fld_le b
  have ht := frc_le b
  by_cases h0 : fld b = 0
  · have e : (rg b).toNat = 0 * Ieee.double.binade + (frc b).toNat := by omega
    rw [e, V_parts _ _ _ (.inl ⟨rfl, by rw [dB]; omega⟩)]
    simp [pmag, pexp, h0]
  · have e : (rg b).toNat = (fld b - 1).toNat * Ieee.double.binade + (4503599627370496 + frc b).toNat := by rw [dB]; omega
    rw [e, V_parts _ _ _ (.inr (by rw [dB]; omega))]
    unfold pmag pexp
    rw [if_neg hne, if_neg h0, if_neg hne, if_neg h0]
    congr 2; omega
theorem pmag_le {b : Int} (hp : pok b = true) : 0 ≤ pmag b ∧ pmag b < 9007199254740992 ∧ -1074 ≤ pexp b ∧ pexp b ≤ 971 := by
  have hne := pparts hp
  have hf := fld_le b
  have ht := frc_le b
  unfold pmag pexp; rw [if_neg hne, if_neg hne]; split <;> omega
/-- Parts joined again: the same pattern -/
theorem join_parts {b : Int} (hb : rng b) (hp : pok b = true) : jk 52 2047 (-1074) (pmag b) (pexp b) = true ∧ jp (pneg b) (pmag b) (pexp b) = b := by
  obtain ⟨m0, m1, e0, e1⟩ := pmag_le hp
  obtain ⟨r0, r1⟩ := rg_parts hb
  have hV := V_rg hb hp
  have hneg : pneg b = decide (b < 0) := by unfold pneg; rw [hp]; simp
  by_cases hz : pmag b = 0
  · have hr : (rg b).toNat = 0 := by
      rw [hz] at hV
      refine V_inj Ieee.double ?_
      rw [hV, V_zero]; simp
    have hk : jk 52 2047 (-1074) (pmag b) (pexp b) = true := by rw [hz]; simp [jk]
    refine ⟨hk, ?_⟩
    unfold jp; rw [hk, hneg, hz]
    unfold rng at hb; unfold rg at *
    by_cases h : b < 0
    · simp [h, jv] at *; omega
    · simp [h, jv] at *; omega
  · have hg : jgood 52 2047 (-1074) (pmag b) (pexp b) = true := jgood_small (by omega) (by omega) (by omega) (by simpa using m1) e0 (by omega)
    have hk : jk 52 2047 (-1074) (pmag b) (pexp b) = true := by unfold jk; rw [if_neg (by omega), if_neg hz]; exact hg
    have hj := V_join Ieee.double 52 dB 2047 (-1074) (pmag b) (pexp b) (by omega) (by omega) hg e0
    rw [show pexp b - -1074 = pexp b + 1074 by omega, ← hV] at hj
    have hj' := V_inj _ hj
    have hl := jv_le (mag := pmag b) (exp := pexp b) (by unfold rng; omega)
    refine ⟨hk, ?_⟩
    have ev : jv 52 2047 (-1074) (pmag b) (pexp b) = rg b := by
      have : jv ((52 : Nat) : Int) 2047 (-1074) (pmag b) (pexp b) = jv 52 2047 (-1074) (pmag b) (pexp b) := rfl
      rw [this] at hj'
      omega
    unfold jp; rw [hk, hneg, ev]
    unfold rng at hb; unfold rg
    by_cases h : b < 0
    · simp [h] <;> omega
    · simp [h]
/-- the neighbour away from 0, by the parts -/
theorem join_next {b : Int} (hb : rng b) (hp : pok b = true) (hk : jk 52 2047 (-1074) (pmag b + 1) (pexp b) = true) : jp false (pmag b + 1) (pexp b) = next (abs b) := by
  obtain ⟨m0, m1, e0, e1⟩ := pmag_le hp
  obtain ⟨r0, r1⟩ := rg_parts hb
  have hV := V_rg hb hp
  have hne := pparts hp
  have hf := fld_le b
  have ht := frc_le b
  have hg : jgood 52 2047 (-1074) (pmag b + 1) (pexp b) = true := by unfold jk at hk; rw [if_neg (by omega), if_neg (by omega)] at hk; exact hk
  have hj := V_join Ieee.double 52 dB 2047 (-1074) (pmag b + 1) (pexp b) (by omega) (by omega) hg e0
  -- the next rung's value
  have hV1 : V Ieee.double ((rg b).toNat + 1) = (pmag b + 1).toNat * 2 ^ (pexp b + 1074).toNat := by
    by_cases h0 : fld b = 0
    · have e : (rg b).toNat + 1 = 0 * Ieee.double.binade + (frc b + 1).toNat := by omega
      rw [e, V_parts _ _ _ (.inl ⟨rfl, by rw [dB]; omega⟩)]
      simp [pmag, pexp, h0]
    · by_cases h9 : frc b + 1 < 4503599627370496
      · have e : (rg b).toNat + 1 = (fld b - 1).toNat * Ieee.double.binade + (4503599627370496 + frc b + 1).toNat := by rw [dB]; omega
        rw [e, V_parts _ _ _ (.inr (by rw [dB]; omega))]
        unfold pmag pexp
        rw [if_neg hne, if_neg h0, if_neg hne, if_neg h0]
        congr 2; omega
      · have e : (rg b).toNat + 1 = (fld b).toNat * Ieee.double.binade + (4503599627370496 : Nat) := by rw [dB]; omega
        rw [e, V_parts _ _ _ (.inr (by rw [dB]; omega))]
        unfold pmag pexp
        rw [if_neg hne, if_neg h0, if_neg hne, if_neg h0]
        have e2 : (fld b).toNat = (fld b - 1075 + 1074).toNat + 1 := by omega
        rw [e2, Nat.pow_succ]
        have e3 : (4503599627370496 + frc b + 1).toNat = 4503599627370496 * 2 := by omega
        rw [e3]
        rw [Nat.mul_comm (2 ^ (fld b - 1075 + 1074).toNat) 2, ← Nat.mul_assoc]
  rw [show pexp b - -1074 = pexp b + 1074 by omega, ← hV1] at hj
  have hj' := V_inj _ hj
  have hl := jv_le (mag := pmag b + 1) (exp := pexp b) (by unfold rng; omega)
  have ev : jv 52 2047 (-1074) (pmag b + 1) (pexp b) = rg b + 1 := by
    have : jv ((52 : Nat) : Int) 2047 (-1074) (pmag b + 1) (pexp b) = jv 52 2047 (-1074) (pmag b + 1) (pexp b) := rfl
    rw [this] at hj'
    omega
  have hc4 : ¬ cls b = 4 := by rw [cls4]; omega
  have ea : abs b = rg b := by unfold abs; rw [if_neg hc4]; rfl
  have hc4' : ¬ cls (rg b) = 4 := by
    rw [cls4]; unfold rng at hb; unfold rg fld frc at *; split <;> omega
  unfold jp
  rw [ev, ea]
  simp only [Bool.and_false, Bool.false_eq_true, if_false]
  unfold next
  rw [if_neg hc4', if_neg (by omega), if_neg (by omega), if_neg (by omega)]
/-- a power of 2 that Parts tells of is there -/
theorem join_one {b : Int} (hp : pok b = true) : jk 52 2047 (-1074) 1 (pexp b) = true := by
  obtain ⟨m0, m1, e0, e1⟩ := pmag_le hp
  unfold jk; rw [if_neg (by omega), if_neg (by omega)]
  exact jgood_small (by omega) (by omega) (by omega) (by decide) e0 (by omega)
/-! binary32 -/
def rg32 (b : Int) : Int := if b < 2147483648 then b else b - 2147483648
theorem pparts32 {b : Int} (h : pok32 b = true) : 0 ≤ b ∧ b < 4294967296 ∧ fld32 b ≠ 255 := by
  unfold pok32 at h
  simp only [Bool.and_eq_true] at h
  have := of_decide_eq_true h.1
  exact ⟨this.1, this.2, by simpa using h.2⟩
theorem rg32_parts {b : Int} (h0 : 0 ≤ b) (h1 : b < 4294967296) : 0 ≤ rg32 b ∧ rg32 b = fld32 b * 8388608 + frc32 b := by
  unfold rg32 fld32 frc32; split <;> omega
theorem sB : Ieee.single.binade = 2 ^ 23 := by decide
theorem V_rg32 {b : Int} (hp : pok32 b = true) : V Ieee.single (rg32 b).toNat = (pmag32 b).toNat * 2 ^ (pexp32 b + 149).toNat := by
  obtain ⟨b0, b1, hne⟩ := pparts32 hp
  obtain ⟨r0, r1⟩ := rg32_parts b0 b1
  have hf := fld32_le b
  have ht := frc32_le b
  by_cases h0 : fld32 b = 0
  · have e : (rg32 b).toNat = 0 * Ieee.single.binade + (frc32 b).toNat := by omega
    rw [e, V_parts _ _ _ (.inl ⟨rfl, by rw [sB]; omega⟩)]
    simp [pmag32, pexp32, h0, hp]
  · have e : (rg32 b).toNat = (fld32 b - 1).toNat * Ieee.single.binade + (8388608 + frc32 b).toNat := by rw [sB]; omega
    rw [e, V_parts _ _ _ (.inr (by rw [sB]; omega))]
    unfold pmag32 pexp32
    rw [if_pos hp, if_neg h0, if_pos hp, if_neg h0]
    congr 2; omega
theorem pmag32_le {b : Int} (hp : pok32 b = true) : 0 ≤ pmag32 b ∧ pmag32 b < 16777216 ∧ -149 ≤ pexp32 b ∧ pexp32 b ≤ 104 := by
  obtain ⟨b0, b1, hne⟩ := pparts32 hp
  have hf := fld32_le b
  have ht := frc32_le b
  unfold pmag32 pexp32; rw [if_pos hp, if_pos hp]; split <;> omega
theorem join_parts32 {b : Int} (hp : pok32 b = true) : jk 23 255 (-149) (pmag32 b) (pexp32 b) = true ∧ jp32 (pneg32 b) (pmag32 b) (pexp32 b) = b := by
  obtain ⟨m0, m1, e0, e1⟩ := pmag32_le hp
  obtain ⟨b0, b1, hne⟩ := pparts32 hp
  obtain ⟨r0, r1⟩ := rg32_parts b0 b1
  have hV := V_rg32 hp
  have hneg : pneg32 b = decide (2147483648 ≤ b) := by unfold pneg32; rw [hp]; simp
  by_cases hz : pmag32 b = 0
  · have hr : (rg32 b).toNat = 0 := by
      rw [hz] at hV
      refine V_inj Ieee.single ?_
      rw [hV, V_zero]; simp
    have hk : jk 23 255 (-149) (pmag32 b) (pexp32 b) = true := by rw [hz]; simp [jk]
    refine ⟨hk, ?_⟩
    unfold jp32; rw [hk, hneg, hz]
    have hr0 : rg32 b = 0 := by omega
    unfold rg32 at hr0
    by_cases h : 2147483648 ≤ b
    · simp [h, jv]; split at hr0 <;> omega
    · simp [h, jv]; split at hr0 <;> omega
  · have hg : jgood 23 255 (-149) (pmag32 b) (pexp32 b) = true := jgood_small (by omega) (by omega) (by omega) (by simpa using m1) e0 (by omega)
    have hk : jk 23 255 (-149) (pmag32 b) (pexp32 b) = true := by unfold jk; rw [if_neg (by omega), if_neg hz]; exact hg
    have hj := V_join Ieee.single 23 sB 255 (-149) (pmag32 b) (pexp32 b) (by omega) (by omega) hg e0
    rw [show pexp32 b - -149 = pexp32 b + 149 by omega, ← hV] at hj
    have hj' := V_inj _ hj
    have hl := jv_le32 (mag := pmag32 b) (exp := pexp32 b) (by unfold rng; omega)
    refine ⟨hk, ?_⟩
    have ev : jv 23 255 (-149) (pmag32 b) (pexp32 b) = rg32 b := by
      have : jv ((23 : Nat) : Int) 255 (-149) (pmag32 b) (pexp32 b) = jv 23 255 (-149) (pmag32 b) (pexp32 b) := rfl
      rw [this] at hj'
      omega
    unfold jp32; rw [hk, hneg, ev]
    by_cases h : 2147483648 ≤ b
    · have e : rg32 b = b - 2147483648 := by unfold rg32; rw [if_neg (by omega)]
      simp [h, e]
    · have e : rg32 b = b := by unfold rg32; rw [if_pos (by omega)]
      simp [h, e]
theorem pok32_cls (b : Int) : pok32 b = decide (cls32 b < 3) := by
  by_cases hi : in32 b = true
  · have hb := of_decide_eq_true hi
    unfold pok32 cls32
    rw [hi, if_neg (by omega)]
    by_cases h : fld32 b = 255 <;> by_cases h2 : frc32 b = 0 <;> by_cases h3 : fld32 b = 0 <;> simp [h, h2, h3]
  · have hn : b < 0 ∨ 4294967296 ≤ b := by simp [in32] at hi; omega
    have h' : in32 b = false := by simpa using hi
    unfold pok32 cls32
    rw [h', if_pos hn]; simp
theorem rng_pmag (b : Int) : rng (pmag b) := by
  have := frc_le b
  unfold rng pmag; repeat' split
  all_goals omega
theorem rng_pexp' (b : Int) : rng (pexp b) := by
  have := fld_le b
  unfold rng pexp; repeat' split
  all_goals omega
theorem rng_pmag32 (b : Int) : rng (pmag32 b) := by
  have := frc32_le b
  unfold rng pmag32; repeat' split
  all_goals omega
theorem rng_pexp32 (b : Int) : rng (pexp32 b) := by
  have := fld32_le b
  unfold rng pexp32; repeat' split
  all_goals omega
end Go.Proofs.YtmjdlcbiaglkeaaDoor.M

/-
  Points: plain mathematics of coordinates: finite ones, their order, tame ones. No Go text in sight.
-/
namespace Go.Proofs.YtmjdlcbiaglkeaaDoor.M
open Go Ieee
set_option linter.unusedSimpArgs false
set_option linter.unusedVariables false

theorem q_rg {b : Int} (h : rng b) : rng (rg b) ∧ 0 ≤ rg b := by unfold rng rg at *; split <;> omega
theorem q_cls {b : Int} (h : rng b) : cls (rg b) = cls b := by
  unfold rng at h; unfold cls rg fld frc
  by_cases h0 : b < 0
  · rw [if_pos h0, show (b + 9223372036854775808) / 4503599627370496 % 2048 = b / 4503599627370496 % 2048 from by omega, show (b + 9223372036854775808) % 4503599627370496 = b % 4503599627370496 from by omega]
  · rw [if_neg h0]
theorem q_wd {b : Int} (h : rng b) : wd b % 9223372036854775808 = wd (rg b) := by unfold rng rg wd at *; split <;> omega
theorem q_key {b : Int} (h : 0 ≤ b) : key b = b := by unfold key; rw [if_neg (by omega)]
theorem q_wdlt (b : Int) : wd b < 18446744073709551616 := by unfold wd; omega
/-- the sign bit left away, of an unsigned word -/
theorem q_abs {b : Int} (h : rng b) : (bits .andNot .u64 (wd b) 9223372036854775808).toNat = wd (rg b) := by
  have e := q_wd h
  have l := q_wdlt b
  rw [← e]
  show (IntKind.u64.wrap (((BitVec.ofInt 64 (wd b : Int) &&& ~~~ BitVec.ofInt 64 9223372036854775808).toNat : Nat) : Int)).toNat = _
  rw [BitVec.toNat_and, BitVec.toNat_not, ofInt64_toNat, ofInt64_toNat, show (2 ^ 64 - 1 - ((9223372036854775808 : Int) % 18446744073709551616).toNat) = 2 ^ 63 - 1 from by decide, Nat.and_two_pow_sub_one_eq_mod, IntKind.wrap_u64]
  omega
theorem q_fin {b : Int} (h : pok b = true) : ¬ cls b = 4 := by
  have := pparts h
  unfold cls; rw [if_neg this]; split
  · split <;> omega
  · omega
theorem q_lt {a b : Int} (ha : rng a) (hb : rng b) (h1 : ¬ cls a = 4) (h2 : ¬ cls b = 4) (h : key a < key b) : FloatKind.f64.format.order (wd a) (wd b) = some .lt := by rw [order64 ha hb h1 h2, compare_lt h]
theorem q_gt {a b : Int} (ha : rng a) (hb : rng b) (h1 : ¬ cls a = 4) (h2 : ¬ cls b = 4) (h : key b < key a) : FloatKind.f64.format.order (wd a) (wd b) = some .gt := by rw [order64 ha hb h1 h2, compare_gt h]
theorem q_eq {a b : Int} (ha : rng a) (hb : rng b) (h1 : ¬ cls a = 4) (h2 : ¬ cls b = 4) (h : key a = key b) : FloatKind.f64.format.order (wd a) (wd b) = some .eq := by rw [order64 ha hb h1 h2, compare_eq h]
/-- the order of points -/
def pcmp (ax ay bx by' : Int) : Int := if key ax = key bx then cmp (key ay) (key by') else cmp (key ax) (key bx)
theorem pcmp_any (ax ay bx by' : Int) : pcmp ax ay bx by' = -1 ∨ pcmp ax ay bx by' = 0 ∨ pcmp ax ay bx by' = 1 := by
  unfold pcmp cmp; repeat' split
  all_goals omega
theorem rng_key {b : Int} (h : rng b) : rng (key b) := by unfold rng key at *; split <;> omega
/-- tame coordinates -/
def tame (b : Int) : Bool := decide (rg b = 0) || (decide (3931642474694443008 ≤ rg b) && decide (rg b < 5282722362905591808))
theorem tame_fld {b : Int} (h : rng b) : tame b = (decide (rg b = 0) || (decide (873 ≤ fld b) && decide (fld b < 1173))) := by
  obtain ⟨h0, h1⟩ := rg_parts h
  have h2 : 0 ≤ frc b ∧ frc b < 4503599627370496 := by unfold frc; omega
  unfold tame
  congr 1
  congr 1
  · apply decide_eq_decide.2; omega
  · apply decide_eq_decide.2; omega
theorem pok_rg' {b : Int} (h : rng b) : pok b = decide (rg b ≤ 9218868437227405311) := by
  obtain ⟨h0, h1⟩ := rg_parts h
  have h2 : 0 ≤ frc b ∧ frc b < 4503599627370496 := by unfold frc; omega
  have h3 : 0 ≤ fld b ∧ fld b < 2048 := by unfold fld; omega
  unfold pok
  by_cases e : fld b = 2047
  · simp [e]; omega
  · simp [e]; omega
end Go.Proofs.YtmjdlcbiaglkeaaDoor.M

/-
  Plain mathematics of neighbours and of the order of all patterns. No Go text in sight.
-/
namespace Go.Proofs.YtmjdlcbiaglkeaaDoor.M
open Go
set_option linter.unusedSimpArgs false
set_option linter.unusedVariables false

/-- a number that is not the greatest: its next one is one key on -/
theorem key_next {b : Int} (hb : rng b) (h4 : ¬ cls b = 4) (hi : ¬ b = 9218868437227405312) : key (next b) = key b + 1 ∧ ¬ cls (next b) = 4 ∧ place b < place (next b) ∧ ¬ next b = -4503599627370496 := by
  have n := cls4_not h4
  unfold rng at hb
  unfold next
  rw [if_neg h4, if_neg hi]
  by_cases h1 : b = -9223372036854775808
  · subst h1; rw [if_pos rfl]; refine ⟨by decide, by decide, by decide, by decide⟩
  · rw [if_neg h1]
    by_cases h2 : b < 0
    · rw [if_pos h2]
      refine ⟨?_, ?_, ?_, ?_⟩
      · unfold key; split <;> omega
      · rw [cls4]; unfold fld frc at *; omega
      · unfold place; split <;> omega
      · unfold fld frc at n; omega
    · rw [if_neg h2]
      refine ⟨?_, ?_, ?_, ?_⟩
      · unfold key; split <;> omega
      · rw [cls4]; unfold fld frc at *; omega
      · unfold place; split <;> omega
      · unfold fld frc at n; omega
theorem key_neg {b : Int} (hb : rng b) (h4 : ¬ cls b = 4) : key (neg b) = - key b ∧ ¬ cls (neg b) = 4 := by
  have n := cls4_not h4
  unfold rng at hb
  unfold neg
  rw [if_neg h4]
  by_cases h2 : b < 0
  · rw [if_pos h2]
    refine ⟨?_, ?_⟩
    · unfold key; split <;> omega
    · rw [cls4]; unfold fld frc at *; omega
  · rw [if_neg h2]
    refine ⟨?_, ?_⟩
    · unfold key; split <;> omega
    · rw [cls4]; unfold fld frc at *; omega
theorem key_prev {b : Int} (hb : rng b) (h4 : ¬ cls b = 4) (hi : ¬ b = -4503599627370496) : key (prev b) = key b - 1 ∧ ¬ cls (prev b) = 4 := by
  obtain ⟨a1, a2⟩ := key_neg hb h4
  have r1 := rng_neg hb
  have hi' : ¬ neg b = 9218868437227405312 := by
    unfold neg; rw [if_neg h4]; unfold rng at hb; split <;> omega
  obtain ⟨c1, c2, _, _⟩ := key_next r1 a2 hi'
  obtain ⟨d1, d2⟩ := key_neg (rng_next r1) c2
  unfold prev
  refine ⟨by omega, d2⟩
/-- what lies between neighbours -/
theorem next_facts {b c : Int} (hb : rng b) (h4 : ¬ cls b = 4) (hi : ¬ b = 9218868437227405312) :
    less b (next b) = true ∧ same (prev (next b)) b = true ∧ (less b c && less c (next b)) = false ∧ b_ord b (next b) = -1 := by
  obtain ⟨a1, a2, a3, a4⟩ := key_next hb h4 hi
  obtain ⟨p1, p2⟩ := key_prev (rng_next hb) a2 a4
  refine ⟨?_, ?_, ?_, ?_⟩
  · unfold less; simp [h4, a2, a1]; omega
  · unfold same; simp [h4, p2, p1, a1]
  · unfold less
    by_cases hc : cls c = 4
    · simp [hc]
    · simp [h4, a2, hc, a1]; omega
  · unfold b_ord; rw [if_neg h4, if_neg a2, if_pos a3]
theorem cls_inf : cls 9218868437227405312 = 3 := by decide
theorem next_inf : next 9218868437227405312 = 9218868437227405312 := by decide
/-! the order of all -/
theorem ord_cases (a b : Int) : b_ord a b = -1 ∨ b_ord a b = 0 ∨ b_ord a b = 1 := by
  unfold b_ord; repeat' split
  all_goals simp
theorem ord_neg (a b : Int) : b_ord a b = - b_ord b a := by
  unfold b_ord; repeat' split
  all_goals omega
theorem place_key {a b : Int} (ha : rng a) (hb : rng b) (h : key a < key b) : place a < place b := by
  unfold rng at ha hb
  unfold key at h
  unfold place
  by_cases x : a < 0 <;> by_cases y : b < 0 <;> simp only [x, y, if_true, if_false] at h ⊢ <;> omega
theorem ord_less {a b : Int} (ha : rng a) (hb : rng b) (h : less a b = true) : b_ord a b = -1 := by
  unfold less at h
  simp only [Bool.and_eq_true, Bool.not_eq_true', decide_eq_false_iff_not, decide_eq_true_eq] at h
  unfold b_ord; rw [if_neg h.1, if_neg h.2.1, if_pos (place_key ha hb h.2.2)]
theorem ord_trans {a b c : Int} (h1 : b_ord a b ≤ 0) (h2 : b_ord b c ≤ 0) : b_ord a c ≤ 0 := by
  unfold b_ord at *
  by_cases x : cls a = 4 <;> by_cases y : cls b = 4 <;> by_cases z : cls c = 4 <;> simp only [x, y, z, if_true, if_false] at *
  all_goals first
    | omega
    | (repeat' split at h1) <;> (repeat' split at h2) <;> (repeat' split) <;> omega
theorem b_same_self (a : Int) : same a a = !decide (cls a = 4) := by
  unfold same; by_cases h : cls a = 4 <;> simp [h]
theorem same_iff (a b : Int) : same a b = (!decide (cls a = 4) && (!decide (cls b = 4) && (!less a b && !less b a))) := by
  unfold same less
  by_cases h : cls a = 4 <;> by_cases k : cls b = 4 <;> simp [h, k]
  rw [Bool.eq_iff_iff]; simp; omega
end Go.Proofs.YtmjdlcbiaglkeaaDoor.M

/-
  Intervals: plain mathematics of their ends: the lesser and the greater of two patterns, which intervals there are. No Go text in sight.
-/
namespace Go.Proofs.YtmjdlcbiaglkeaaDoor.M
open Go Ieee
set_option linter.unusedSimpArgs false
set_option linter.unusedVariables false

/-- a number, or infinite -/
def nn (p : Int) : Prop := rng p ∧ ¬ cls p = 4
def minP (a b : Int) : Int := if key a < key b then a else if key b < key a then b else if a = b then a else -9223372036854775808
def maxP (a b : Int) : Int := if key a < key b then b else if key b < key a then a else if a = b then a else 0
theorem key_zeros {a b : Int} (ha : rng a) (hb : rng b) (h : key a = key b) (hn : ¬ a = b) : (a = 0 ∧ b = -9223372036854775808) ∨ (a = -9223372036854775808 ∧ b = 0) := by
  unfold key rng at *
  split at h <;> split at h <;> omega
theorem nn0 : nn 0 ∧ nn (-9223372036854775808) := by refine ⟨⟨?_, by decide⟩, ⟨?_, by decide⟩⟩ <;> (unfold rng; omega)
theorem minP_nn {a b : Int} (ha : nn a) (hb : nn b) : nn (minP a b) ∧ key (minP a b) ≤ key a ∧ key (minP a b) ≤ key b ∧ (key (minP a b) = key a ∨ key (minP a b) = key b) := by
  unfold minP
  split
  · exact ⟨ha, by omega, by omega, .inl rfl⟩
  · split
    · exact ⟨hb, by omega, by omega, .inr rfl⟩
    · split
      · exact ⟨ha, by omega, by omega, .inl rfl⟩
      · have e : key a = key b := by omega
        have e0 : key (-9223372036854775808) = 0 := by decide
        have e1 : key 0 = 0 := by decide
        rcases key_zeros ha.1 hb.1 e (by assumption) with ⟨rfl, rfl⟩ | ⟨rfl, rfl⟩
        · exact ⟨nn0.2, by omega, by omega, .inr rfl⟩
        · exact ⟨nn0.2, by omega, by omega, .inl rfl⟩
theorem maxP_nn {a b : Int} (ha : nn a) (hb : nn b) : nn (maxP a b) ∧ key a ≤ key (maxP a b) ∧ key b ≤ key (maxP a b) ∧ (key (maxP a b) = key a ∨ key (maxP a b) = key b) := by
  unfold maxP
  split
  · exact ⟨hb, by omega, by omega, .inr rfl⟩
  · split
    · exact ⟨ha, by omega, by omega, .inl rfl⟩
    · split
      · exact ⟨ha, by omega, by omega, .inl rfl⟩
      · have e : key a = key b := by omega
        have e0 : key (-9223372036854775808) = 0 := by decide
        have e1 : key 0 = 0 := by decide
        rcases key_zeros ha.1 hb.1 e (by assumption) with ⟨rfl, rfl⟩ | ⟨rfl, rfl⟩
        · exact ⟨nn0.1, by omega, by omega, .inl rfl⟩
        · exact ⟨nn0.1, by omega, by omega, .inr rfl⟩
/-- Is it an interval? -/
def vld (lo hi : Int) : Bool := decide (¬ cls lo = 4 ∧ ¬ cls hi = 4 ∧ key lo ≤ key hi ∧ key lo < 9218868437227405312 ∧ -9218868437227405312 < key hi)
theorem vld_iff {lo hi : Int} : vld lo hi = true ↔ ¬ cls lo = 4 ∧ ¬ cls hi = 4 ∧ key lo ≤ key hi ∧ key lo < 9218868437227405312 ∧ -9218868437227405312 < key hi := by unfold vld; exact decide_eq_true_iff
theorem key_canon {p : Int} (h : nn p) : key (canon p) = key p ∧ nn (canon p) := by
  have h0 := cls0 h.1
  unfold canon
  rw [if_neg h.2]
  split
  · rename_i hz
    rcases h0.1 hz with rfl | rfl
    · exact ⟨rfl, nn0.1⟩
    · exact ⟨by decide, nn0.1⟩
  · exact ⟨rfl, h⟩
theorem key_le_next {b : Int} (h : nn b) : key b ≤ key (canon (next b)) ∧ nn (canon (next b)) := by
  by_cases hi : b = 9218868437227405312
  · subst hi
    rw [next_inf]
    exact ⟨by decide, ⟨by unfold rng; decide, by decide⟩⟩
  · obtain ⟨h1, h2, _, _⟩ := key_next h.1 h.2 hi
    have hr : nn (next b) := ⟨rng_next h.1, h2⟩
    obtain ⟨k1, k2⟩ := key_canon hr
    exact ⟨by rw [k1, h1]; omega, k2⟩
end Go.Proofs.YtmjdlcbiaglkeaaDoor.M

/-
  What the two layouts of package bits hold, carried over calls; the method split and its kin by contracts: for every pattern, in every world that holds the layouts.
-/
namespace Go.Proofs.YtmjdlcbiaglkeaaDoor
open Go Go.RowKit Go.Proofs.YtmjdlcbiaglkeaaDoor.M
set_option linter.unusedSimpArgs false
set_option linter.unusedVariables false

/-- The cells of the two layouts. -/
structure Lays (w : World) : Prop where
  a0 : w.cell? ⟨0, 0, none⟩ = some (.int .i64 52)
  a1 : w.cell? ⟨0, 1, none⟩ = some (.int .i64 2047)
  a2 : w.cell? ⟨0, 2, none⟩ = some (.int .i64 (-1074))
  b0 : True
  b1 : True
  b2 : True

/-- New blocks alone: read cell by cell, and block by block. -/
structure Gr (W w' : World) : Prop where
  gr : Grown W w'
  be : Below W.heap.size W w'
theorem Gr.refl (W : World) : Gr W W := ⟨Grown.refl _, Below.refl _ _⟩
theorem Gr.alloc {W w' : World} (h : Gr W w') (c : Array Value) (t : TypeId) : Gr W (w'.alloc (.cells c t)) := ⟨h.gr.alloc c t, h.be.alloc h.be.size _⟩
theorem Gr.drew {W w' : World} (h : Gr W w') : Gr W w'.drew := ⟨h.gr.drew, ⟨h.be.os, h.be.tape, h.be.output, h.be.size, h.be.block⟩⟩
theorem gTrans {a b c : World} (h : Gr a b) (k : Gr b c) : Gr a c :=
  ⟨⟨World.keptBut_trans h.gr.1 k.gr.1, fun x => (k.gr.2.1 x).trans (h.gr.2.1 x), Nat.le_trans h.gr.2.2 k.gr.2.2⟩, h.be.trans (k.be.mono h.be.size)⟩
theorem gDrewN {W w' : World} (h : Gr W w') (n : Nat) : Gr W (w'.drewN n) := ⟨h.gr, ⟨h.be.os, h.be.tape, h.be.output, h.be.size, h.be.block⟩⟩
theorem gCell {a b : World} (h : Gr a b) {p : Addr} {v : Value} (hc : a.cell? p = some v) : b.cell? p = some v := by
  unfold World.cell? at hc ⊢
  have hlt : p.block < a.heap.size := by
    by_cases hp : p.block < a.heap.size
    · exact hp
    · rw [Array.getElem?_eq_none (by omega)] at hc; simp at hc
  have k := h.gr.1.2.2 p.block hlt
  cases ha : a.heap[p.block]? with
  | none => rw [ha] at hc; simp at hc
  | some oa =>
    rw [ha] at hc k
    cases oa with
    | cells c t fr =>
      cases hb : b.heap[p.block]? with
      | none => rw [hb] at k; simp at k
      | some ob =>
        rw [hb] at k
        cases ob with
        | cells c' t' fr' =>
          simp only at hc k ⊢
          obtain ⟨_, _, _, kc⟩ := k
          rw [kc p.off (fun f => f)]
          exact hc
        | _ => simp at k
    | _ => simp at hc
theorem Lays.grown {w w' : World} (h : Lays w) (g : Gr w w') : Lays w' :=
  ⟨gCell g h.a0, gCell g h.a1, gCell g h.a2, trivial, trivial, trivial⟩

theorem b_ret_int {k : IntKind} {a b : Int} (h : a = b) : Ending.returned (.int k a) = .returned (.int k b) := by rw [h]

theorem b_ret_bool {a b : Bool} (h : a = b) : Ending.returned (.bool a) = .returned (.bool b) := by rw [h]
theorem ret_bii {a a' : Bool} {b b' c c' : Int} (h : a = a') (k : b = b') (l : c = c') : Ending.returned (.tuple #[.bool a, .int .i64 b, .int .i64 c]) = .returned (.tuple #[.bool a', .int .i64 b', .int .i64 c']) := by rw [h, k, l]
theorem ret_ttt {a a' b b' : Int} {c c' : Bool} (h : a = a') (k : b = b') (l : c = c') : Ending.returned (.tuple #[.int .i64 a, .int .i64 b, .bool c]) = .returned (.tuple #[.int .i64 a', .int .i64 b', .bool c']) := by rw [h, k, l]
theorem ret_ttt4 {n n' : Bool} {a a' b b' : Int} {c c' : Bool} (g : n = n') (h : a = a') (k : b = b') (l : c = c') : Ending.returned (.tuple #[.bool n, .int .i64 a, .int .i64 b, .bool c]) = .returned (.tuple #[.bool n', .int .i64 a', .int .i64 b', .bool c']) := by rw [g, h, k, l]

theorem split64 (b : Int) (w : World) :
    Calls Tryd.prog 36 #[.agg #[.int .i64 52, .int .i64 2047, .int .i64 (-1074)], .int .i64 b] w fun e w' => e = .returned (.tuple #[.int .i64 (fld b), .int .i64 (frc b)]) ∧ ∃ n, w' = (w.alloc (.cells #[.int .i64 52, .int .i64 2047, .int .i64 (-1074)] 60)).drewN n := by
  have h1 : bits .and .i64 (b / 4503599627370496) 2047 = fld b := and_i64_2047 _
  have h2 : bits .and .i64 b 4503599627370495 = frc b := and_i64_m52 _
  go_enter Tryd.func36, Tryd.ntmps36
  go_wp2
  go_quiet (fail)
  go_wp2
  go_ret2
  exact ⟨rfl, _, rfl⟩
theorem split32 (b : Int) (w : World) :
    Calls Tryd.prog 36 #[.agg #[.int .i64 23, .int .i64 255, .int .i64 (-149)], .int .i64 b] w fun e w' => e = .returned (.tuple #[.int .i64 (fld32 b), .int .i64 (frc32 b)]) ∧ ∃ n, w' = (w.alloc (.cells #[.int .i64 23, .int .i64 255, .int .i64 (-149)] 60)).drewN n := by
  have h1 : bits .and .i64 (b / 8388608) 255 = fld32 b := and_i64_255 _
  have h2 : bits .and .i64 b 8388607 = frc32 b := and_i64_m23 _
  go_enter Tryd.func36, Tryd.ntmps36
  go_wp2
  go_quiet (fail)
  go_wp2
  go_ret2
  exact ⟨rfl, _, rfl⟩

theorem class64 (b : Int) (w : World) :
    Calls Tryd.prog 46 #[.agg #[.int .i64 52, .int .i64 2047, .int .i64 (-1074)], .int .i64 b] w fun e w' => e = .returned (.int .i64 (cls b)) ∧ Gr w w' := by
  by_cases h1 : fld b = 2047 <;> by_cases h2 : frc b = 0 <;> by_cases h3 : fld b = 0
  all_goals first
    | (exfalso; omega)
    | (go_enter Tryd.func46, Tryd.ntmps46
       go_wp2_with (go_at_call 36; refine (split64 _ _).mono ?_; rintro e w1 ⟨rfl, n, rfl⟩)
       go_ret
       exact ⟨b_ret_int (by simp [cls, h1, h2, h3]), gDrewN (((Gr.refl _).alloc _ _).alloc _ _) _⟩)
theorem parts64 (b : Int) (w : World) :
    Calls Tryd.prog 24 #[.agg #[.int .i64 52, .int .i64 2047, .int .i64 (-1074)], .int .i64 b] w fun e w' => e = .returned (.tuple #[.int .i64 (pmag b), .int .i64 (pexp b), .bool (pok b)]) ∧ Gr w w' := by
  have hf := fld_le b
  have hr := frc_le b
  by_cases h1 : fld b = 2047
  · go_enter Tryd.func24, Tryd.ntmps24
    go_wp2_with (go_at_call 36; refine (split64 _ _).mono ?_; rintro e w1 ⟨rfl, n, rfl⟩)
    go_ret3
    exact ⟨ret_ttt (by simp [pmag, h1]) (by simp [pexp, h1]) (by simp [pok, h1]), gDrewN (((Gr.refl _).alloc _ _).alloc _ _) _⟩
  · by_cases h2 : fld b = 0
    · go_enter Tryd.func24, Tryd.ntmps24
      go_wp2_with (go_at_call 36; refine (split64 _ _).mono ?_; rintro e w1 ⟨rfl, n, rfl⟩)
      go_quiet (fail)
      go_wp2
      go_ret3
      exact ⟨ret_ttt (by simp [pmag, h1, h2]) (by simp [pexp, h1, h2]) (by simp [pok, h1]), gDrewN (gDrewN (((Gr.refl _).alloc _ _).alloc _ _) _) _⟩
    · go_enter Tryd.func24, Tryd.ntmps24
      go_wp2_with (go_at_call 36; refine (split64 _ _).mono ?_; rintro e w1 ⟨rfl, n, rfl⟩)
      go_quiet (fail)
      go_wp2
      go_ret3
      exact ⟨ret_ttt (by simp [pmag, h1, h2]) (by simp [pexp, h1, h2]; omega) (by simp [pok, h1]), gDrewN (gDrewN (((Gr.refl _).alloc _ _).alloc _ _) _) _⟩
theorem class32 (b : Int) (w : World) (hb : in32 b = true) :
    Calls Tryd.prog 46 #[.agg #[.int .i64 23, .int .i64 255, .int .i64 (-149)], .int .i64 b] w fun e w' => e = .returned (.int .i64 (cls32 b)) ∧ Gr w w' := by
  have hb' := of_decide_eq_true hb
  by_cases h1 : fld32 b = 255 <;> by_cases h2 : frc32 b = 0 <;> by_cases h3 : fld32 b = 0
  all_goals first
    | (exfalso; omega)
    | (go_enter Tryd.func46, Tryd.ntmps46
       go_wp2_with (go_at_call 36; refine (split32 _ _).mono ?_; rintro e w1 ⟨rfl, n, rfl⟩)
       go_ret
       exact ⟨b_ret_int (by simp [cls32, h1, h2, h3, show ¬ (b < 0 ∨ 4294967296 ≤ b) by omega]), gDrewN (((Gr.refl _).alloc _ _).alloc _ _) _⟩)
theorem parts32 (b : Int) (w : World) (hb : in32 b = true) :
    Calls Tryd.prog 24 #[.agg #[.int .i64 23, .int .i64 255, .int .i64 (-149)], .int .i64 b] w fun e w' => e = .returned (.tuple #[.int .i64 (pmag32 b), .int .i64 (pexp32 b), .bool (pok32 b)]) ∧ Gr w w' := by
  have hf := fld32_le b
  have hr := frc32_le b
  by_cases h1 : fld32 b = 255
  · go_enter Tryd.func24, Tryd.ntmps24
    go_wp2_with (go_at_call 36; refine (split32 _ _).mono ?_; rintro e w1 ⟨rfl, n, rfl⟩)
    go_ret3
    exact ⟨ret_ttt (by simp [pmag32, pok32, hb, h1]) (by simp [pexp32, pok32, hb, h1]) (by simp [pok32, hb, h1]), gDrewN (((Gr.refl _).alloc _ _).alloc _ _) _⟩
  · by_cases h2 : fld32 b = 0
    · go_enter Tryd.func24, Tryd.ntmps24
      go_wp2_with (go_at_call 36; refine (split32 _ _).mono ?_; rintro e w1 ⟨rfl, n, rfl⟩)
      go_quiet (fail)
      go_wp2
      go_ret3
      exact ⟨ret_ttt (by simp [pmag32, pok32, hb, h1, h2]) (by simp [pexp32, pok32, hb, h1, h2]) (by simp [pok32, hb, h1]), gDrewN (gDrewN (((Gr.refl _).alloc _ _).alloc _ _) _) _⟩
    · go_enter Tryd.func24, Tryd.ntmps24
      go_wp2_with (go_at_call 36; refine (split32 _ _).mono ?_; rintro e w1 ⟨rfl, n, rfl⟩)
      go_quiet (fail)
      go_wp2
      go_ret3
      exact ⟨ret_ttt (by simp [pmag32, pok32, hb, h1, h2]) (by simp [pexp32, pok32, hb, h1, h2]; omega) (by simp [pok32, hb, h1]), gDrewN (gDrewN (((Gr.refl _).alloc _ _).alloc _ _) _) _⟩
end Go.Proofs.YtmjdlcbiaglkeaaDoor

/-
  Package bits' calls that take no join, each by a contract: what it answers for every int, in every world that holds the two layouts.
-/
namespace Go.Proofs.YtmjdlcbiaglkeaaDoor
open Go Go.RowKit Go.Proofs.YtmjdlcbiaglkeaaDoor.M
set_option linter.unusedSimpArgs false
set_option linter.unusedVariables false

theorem bitsClass (b : Int) (w : World) (L : Lays w) :
    Calls Tryd.prog 38 #[.int .i64 b] w fun e w' => e = .returned (.int .i64 (cls b)) ∧ Gr w w' := by
  obtain ⟨a0, a1, a2, b0, b1, b2⟩ := L
  go_enter Tryd.func38, Tryd.ntmps38
  go_wp2_with (go_at_call 46; refine (class64 _ _).mono ?_; rintro e w1 ⟨rfl, hg⟩)
  go_ret
  exact ⟨rfl, hg⟩
theorem bitsParts (b : Int) (w : World) (L : Lays w) :
    Calls Tryd.prog 12 #[.int .i64 b] w fun e w' => e = .returned (.tuple #[.bool (pneg b), .int .i64 (pmag b), .int .i64 (pexp b), .bool (pok b)]) ∧ Gr w w' := by
  obtain ⟨a0, a1, a2, b0, b1, b2⟩ := L
  by_cases h : pok b = true
  all_goals
    go_enter Tryd.func12, Tryd.ntmps12
    go_wp2_with (go_at_call 24; refine (parts64 _ _).mono ?_; rintro e w1 ⟨rfl, hg⟩)
    refine bodyPost_ret (v := .tuple #[.bool (pneg b), .int .i64 (pmag b), .int .i64 (pexp b), .bool (pok b)]) (by simp [results, Tryd.results12, go_sem, pneg, h]) rfl ⟨rfl, hg⟩
theorem bitsCanon (b : Int) (w : World) (L : Lays w) :
    Calls Tryd.prog 26 #[.int .i64 b] w fun e w' => e = .returned (.int .i64 (canon b)) ∧ Gr w w' := by
  by_cases h : cls b = 4 <;> by_cases h0 : cls b = 0
  all_goals first
    | (exfalso; omega)
    | (go_enter Tryd.func26, Tryd.ntmps26
       go_wp2_with (go_at_call 38; refine (bitsClass _ _ L).mono ?_; rintro e w1 ⟨rfl, hg⟩)
       go_ret
       exact ⟨b_ret_int (by simp [canon, h, h0]), hg⟩)
end Go.Proofs.YtmjdlcbiaglkeaaDoor

/-
  Floats made of patterns; 'alive' of plumblaw1: it answers true, in every world that holds the two layouts.
-/
namespace Go.Proofs.YtmjdlcbiaglkeaaDoor
open Go Go.RowKit Go.Proofs.YtmjdlcbiaglkeaaDoor.M
set_option linter.unusedSimpArgs false
set_option linter.unusedVariables false

theorem run_from64 (n : Int) (w : World) : (callFunc 30 #[.int .u64 n]).run Tryd.prog w = .ok (.value (.float .f64 n.toNat)) w := by
  rw [run_callFunc_extern Tryd.func30 (by kernel_rfl) (by kernel_rfl) (by kernel_rfl) (e := Extern.MathFloatBits.float64frombits) (by kernel_rfl)]
  rfl
theorem ret_float {k : FloatKind} {a b : Nat} (h : a = b) : Ending.returned (.float k a) = .returned (.float k b) := by rw [h]
theorem bitsFloat (b : Int) (w : World) :
    Calls Tryd.prog 21 #[.int .i64 b] w fun e w' => e = .returned (.float .f64 (wd b)) ∧ w' = w := by
  have hd := run_from64
  go_enter Tryd.func21, Tryd.ntmps21
  go_wp2
  go_ret
  exact ⟨ret_float (by rw [IntKind.wrap_u64]; rfl), rfl⟩
end Go.Proofs.YtmjdlcbiaglkeaaDoor

/-
  The document's own answers for chapter 1 (package plumbref1), but for Join: each call by a contract over the same plain functions as package bits'.
-/
namespace Go.Proofs.YtmjdlcbiaglkeaaDoor
open Go Go.RowKit Go.Proofs.YtmjdlcbiaglkeaaDoor.M
set_option linter.unusedSimpArgs false
set_option linter.unusedVariables false

theorem hideIt {p : Prop} (h : p) : Hid p := h

end Go.Proofs.YtmjdlcbiaglkeaaDoor

/-
  The document's own answers for chapter 1, on: the calls of 32 bits, the neighbours, the signs, the order.
-/
namespace Go.Proofs.YtmjdlcbiaglkeaaDoor
open Go Go.RowKit Go.Proofs.YtmjdlcbiaglkeaaDoor.M
set_option linter.unusedSimpArgs false
set_option linter.unusedVariables false

end Go.Proofs.YtmjdlcbiaglkeaaDoor

/-
  Float32, Of and Of32 of package bits, Told and Told32 of the document's own answer, by contracts.
-/
namespace Go.Proofs.YtmjdlcbiaglkeaaDoor
open Go Go.RowKit Go.Proofs.YtmjdlcbiaglkeaaDoor.M
set_option linter.unusedSimpArgs false
set_option linter.unusedVariables false

def told (b : Int) : Int := if cls b = 4 then 9221120237041090561 else b
def told32 (b : Int) : Int := if cls32 b = 4 then 2143289345 else b
def wd32 (b : Int) : Nat := if in32 b then b.toNat else 2143289345
theorem sSign : Ieee.single.signWeight = 2147483648 := by decide
theorem sInf : Ieee.single.infRung = 2139095040 := by decide
theorem sOk : Ieee.single.binade ≤ Ieee.single.infRung := by decide
theorem cls32_4 {b : Int} (h : in32 b = true) : cls32 b = 4 ↔ 2139095040 < b.toNat % 2147483648 := by
  have hb := of_decide_eq_true h
  unfold cls32; rw [if_neg (by omega)]
  unfold fld32 frc32; repeat' split
  all_goals omega
theorem no64 {b : Int} (hb : rng b) : (FloatKind.f64.format.order (wd b) (wd b) != some .eq) = decide (cls b = 4) := by
  have := same_order hb hb
  unfold bne
  rw [this]; unfold same
  by_cases h : cls b = 4 <;> simp [h]
theorem no32 (b : Int) : (FloatKind.f32.format.order (wd32 b) (wd32 b) != some .eq) = decide (cls32 b = 4) := by
  by_cases hi : in32 b = true
  · have e : wd32 b = b.toNat := by unfold wd32; rw [if_pos hi]
    rw [e]
    by_cases h : cls32 b = 4
    · have hn := order_nan Ieee.single sOk b.toNat b.toNat (.inl (by rw [sSign, sInf]; exact (cls32_4 hi).1 h))
      have hn' : FloatKind.f32.format.order b.toNat b.toNat = none := hn
      rw [hn']; simp [h]
    · have hle : b.toNat % Ieee.single.signWeight ≤ Ieee.single.infRung := by
        rw [sSign, sInf]; exact Nat.le_of_not_lt fun k => h ((cls32_4 hi).2 k)
      have ho := order_all Ieee.single sOk b.toNat b.toNat hle hle
      rw [compare_eq rfl] at ho
      have ho' : FloatKind.f32.format.order b.toNat b.toNat = some .eq := ho
      rw [ho']; simp [h]
  · have hn : b < 0 ∨ 4294967296 ≤ b := by simp [in32] at hi; omega
    have e : wd32 b = 2143289345 := by unfold wd32; rw [if_neg hi]
    have h4 : cls32 b = 4 := by unfold cls32; rw [if_pos hn]
    have ho : FloatKind.f32.format.order 2143289345 2143289345 = none := by decide +kernel
    rw [e, ho]; simp [h4]
theorem run_bits64 (n : Nat) (w : World) : (callFunc 39 #[.float .f64 n]).run Tryd.prog w = .ok (.value (.int .u64 n)) w := by
  rw [run_callFunc_extern Tryd.func39 (by kernel_rfl) (by kernel_rfl) (by kernel_rfl) (e := Extern.MathFloatBits.float64bits) (by kernel_rfl)]
  rfl
theorem bitsOf (b : Int) (w : World) (hb : rng b) :
    Calls Tryd.prog 27 #[.float .f64 (wd b)] w fun e w' => e = .returned (.int .i64 (told b)) ∧ w' = w := by
  have hd := run_bits64
  have hn := no64 hb
  have hw : Hid (wrap64 (wd b : Int) = b) := by unfold Hid wrap64 wd; unfold rng at hb; omega
  by_cases h : cls b = 4
  · have hn' : (FloatKind.f64.format.order (wd b) (wd b) != some .eq) = true := by rw [hn]; simp [h]
    clear hn
    go_enter Tryd.func27, Tryd.ntmps27
    go_wp2
    go_ret
    exact ⟨b_ret_int (by simp [told, h]), rfl⟩
  · have hn' : (FloatKind.f64.format.order (wd b) (wd b) != some .eq) = false := by rw [hn]; simp [h]
    clear hn
    go_enter Tryd.func27, Tryd.ntmps27
    go_wp2
    go_ret
    exact ⟨b_ret_int (by rw [hw.out]; simp [told, h]), rfl⟩
end Go.Proofs.YtmjdlcbiaglkeaaDoor

/-
  Plain mathematics of natural numbers as digits to the base 2^30: the value of the first n digits, one list a value. No Go text in sight.
-/
namespace Go.Proofs.YtmjdlcbiaglkeaaDoor.M
open Go
set_option linter.unusedSimpArgs false
set_option linter.unusedVariables false

/-- The base's powers. -/
def P : Nat → Int | 0 => 1 | n + 1 => P n * 1073741824
/-- The value of the first n digits. -/
def val (d : Nat → Int) : Nat → Int | 0 => 0 | n + 1 => val d n + d n * P n
/-- Each of the first n is a digit. -/
def Dig (d : Nat → Int) (n : Nat) : Prop := ∀ i, i < n → 0 ≤ d i ∧ d i < 1073741824
/-- No zero on top. -/
def Top (d : Nat → Int) (n : Nat) : Prop := n = 0 ∨ d (n - 1) ≠ 0
/-- Without zeros on top, each a digit. -/
def Nrm (d : Nat → Int) (n : Nat) : Prop := Dig d n ∧ Top d n

theorem P_succ (n : Nat) : P (n + 1) = P n * 1073741824 := rfl
theorem P_pos (n : Nat) : 0 < P n := by
  induction n with
  | zero => decide
  | succ n ih => rw [P_succ]; omega
theorem P_add (n m : Nat) : P (n + m) = P n * P m := by
  induction m with
  | zero => show P n = P n * 1; omega
  | succ m ih => show P (n + m) * 1073741824 = P n * (P m * 1073741824); rw [ih, Int.mul_assoc]
theorem P_le {n m : Nat} (h : n ≤ m) : P n ≤ P m := by
  obtain ⟨k, rfl⟩ := Nat.exists_eq_add_of_le h
  rw [P_add]
  have := P_pos n
  have := P_pos k
  have : P n * 1 ≤ P n * P k := Int.mul_le_mul_of_nonneg_left (by omega) (by omega)
  omega
theorem val_succ (d : Nat → Int) (n : Nat) : val d (n + 1) = val d n + d n * P n := rfl
theorem val_congr {d e : Nat → Int} {n : Nat} (h : ∀ i, i < n → d i = e i) : val d n = val e n := by
  induction n with
  | zero => rfl
  | succ n ih => rw [val_succ, val_succ, ih (fun i hi => h i (by omega)), h n (by omega)]
theorem Dig.le {d : Nat → Int} {n m : Nat} (h : Dig d n) (hm : m ≤ n) : Dig d m := fun i hi => h i (by omega)
theorem Dig.congr {d e : Nat → Int} {n : Nat} (h : Dig d n) (he : ∀ i, i < n → d i = e i) : Dig e n := fun i hi => by rw [← he i hi]; exact h i hi
theorem val_nonneg {d : Nat → Int} {n : Nat} (h : Dig d n) : 0 ≤ val d n := by
  induction n with
  | zero => exact Int.le_refl _
  | succ n ih =>
    rw [val_succ]
    have := ih (h.le (by omega))
    have := Int.mul_nonneg (h n (by omega)).1 (Int.le_of_lt (P_pos n))
    omega
theorem val_lt {d : Nat → Int} {n : Nat} (h : Dig d n) : val d n < P n := by
  induction n with
  | zero => show (0 : Int) < 1; decide
  | succ n ih =>
    rw [val_succ, P_succ]
    have a := ih (h.le (by omega))
    have b : d n * P n ≤ 1073741823 * P n := Int.mul_le_mul_of_nonneg_right (by have := (h n (by omega)).2; omega) (Int.le_of_lt (P_pos n))
    omega
theorem val_top {d : Nat → Int} {n : Nat} (h : Dig d n) (hn : 0 < n) (ht : Top d n) : P (n - 1) ≤ val d n := by
  obtain ⟨m, rfl⟩ : ∃ m, n = m + 1 := ⟨n - 1, by omega⟩
  rw [val_succ, Nat.add_sub_cancel]
  have a := val_nonneg (h.le (Nat.le_succ m))
  have b : 1 ≤ d m := by
    rcases ht with h0 | h0
    · omega
    · rw [Nat.add_sub_cancel] at h0; have := (h m (by omega)).1; omega
  have c : 1 * P m ≤ d m * P m := Int.mul_le_mul_of_nonneg_right b (Int.le_of_lt (P_pos m))
  omega
theorem val_pos {d : Nat → Int} {n : Nat} (h : Nrm d n) (hn : 0 < n) : 0 < val d n := by
  have := val_top h.1 hn h.2
  have := P_pos (n - 1)
  omega
theorem val_zero {d : Nat → Int} {n : Nat} (h : Nrm d n) : val d n = 0 ↔ n = 0 := by
  constructor
  · intro h0
    by_cases hn : 0 < n
    · have := val_pos h hn; omega
    · omega
  · rintro rfl; rfl
/-- Digits of equal values are alike. -/
theorem val_inj {d e : Nat → Int} {n : Nat} (h : Dig d n) (k : Dig e n) (hv : val d n = val e n) : ∀ i, i < n → d i = e i := by
  induction n with
  | zero => intro i hi; omega
  | succ n ih =>
    rw [val_succ, val_succ] at hv
    have a := val_lt (h.le (Nat.le_succ n))
    have b := val_lt (k.le (Nat.le_succ n))
    have a0 := val_nonneg (h.le (Nat.le_succ n))
    have b0 := val_nonneg (k.le (Nat.le_succ n))
    have hp := P_pos n
    have e1 : d n = e n := by
      have x1 : (val d n + d n * P n) / P n = d n := by
        rw [Int.add_mul_ediv_right _ _ (by omega), Int.ediv_eq_zero_of_lt a0 a]; omega
      have x2 : (val e n + e n * P n) / P n = e n := by
        rw [Int.add_mul_ediv_right _ _ (by omega), Int.ediv_eq_zero_of_lt b0 b]; omega
      rw [← x1, ← x2, hv]
    rw [e1] at hv
    intro i hi
    by_cases hi' : i = n
    · rw [hi']; exact e1
    · exact ih (h.le (Nat.le_succ n)) (k.le (Nat.le_succ n)) (by omega) i (by omega)
theorem nrm_lt {d e : Nat → Int} {n m : Nat} (h : Dig d n) (k : Nrm e m) (hnm : n < m) : val d n < val e m := by
  have a := val_lt h
  have b := val_top k.1 (by omega) k.2
  have c := P_le (show n ≤ m - 1 by omega)
  omega
/-- Each number has one list. -/
theorem nrm_len {d e : Nat → Int} {n m : Nat} (h : Nrm d n) (k : Nrm e m) (hv : val d n = val e m) : n = m := by
  by_cases h1 : n < m
  · have := nrm_lt h.1 k h1; omega
  by_cases h2 : m < n
  · have := nrm_lt k.1 h h2; omega
  omega
theorem nrm_inj {d e : Nat → Int} {n m : Nat} (h : Nrm d n) (k : Nrm e m) (hv : val d n = val e m) : n = m ∧ ∀ i, i < n → d i = e i := by
  have hl := nrm_len h k hv
  subst hl
  exact ⟨rfl, val_inj h.1 k.1 hv⟩
theorem nrm_le_len {d e : Nat → Int} {n m : Nat} (h : Nrm d n) (k : Dig e m) (hv : val d n ≤ val e m) : n ≤ m := by
  by_cases h1 : n ≤ m
  · exact h1
  · have := nrm_lt k h (by omega); omega
theorem val_split (d : Nat → Int) (n m : Nat) : val d (n + m) = val d n + P n * val (fun i => d (n + i)) m := by
  induction m with
  | zero => show val d n = val d n + P n * 0; omega
  | succ m ih =>
    show val d (n + m) + d (n + m) * P (n + m) = val d n + P n * (val (fun i => d (n + i)) m + d (n + m) * P m)
    rw [ih, P_add, Int.mul_add, Int.add_assoc]
    congr 2
    rw [← Int.mul_assoc, Int.mul_comm (d (n + m)) (P n), Int.mul_assoc]
theorem val_zeros {d : Nat → Int} {n m : Nat} (hm : m ≤ n) (h : ∀ i, m ≤ i → i < n → d i = 0) : val d n = val d m := by
  induction n with
  | zero => rw [show m = 0 by omega]
  | succ n ih =>
    by_cases he : m = n + 1
    · rw [he]
    · rw [val_succ, h n (by omega) (by omega), ih (by omega) (fun i a b => h i a (by omega))]; omega
/-- One digit put in another's place. -/
def upd (d : Nat → Int) (i : Nat) (x : Int) : Nat → Int := fun j => if j = i then x else d j
theorem upd_same (d : Nat → Int) (i : Nat) (x : Int) : upd d i x i = x := by simp [upd]
theorem upd_other (d : Nat → Int) {i j : Nat} (x : Int) (h : j ≠ i) : upd d i x j = d j := by simp [upd, h]
theorem val_upd_ge (d : Nat → Int) {i n : Nat} (x : Int) (h : n ≤ i) : val (upd d i x) n = val d n := val_congr fun j hj => upd_other d x (by omega)
theorem val_upd (d : Nat → Int) {i n : Nat} (x : Int) (h : i < n) : val (upd d i x) n = val d n + (x - d i) * P i := by
  induction n with
  | zero => omega
  | succ n ih =>
    rw [val_succ, val_succ]
    by_cases hi : i = n
    · subst hi; rw [upd_same, val_upd_ge d x (Nat.le_refl _), Int.sub_mul]; omega
    · rw [upd_other d x (by omega), ih (by omega)]; omega
theorem Dig.upd {d : Nat → Int} {n : Nat} (h : Dig d n) (i : Nat) {x : Int} (hx : 0 ≤ x ∧ x < 1073741824) : Dig (upd d i x) n := fun j hj => by
  by_cases hj' : j = i
  · rw [hj', upd_same]; exact hx
  · rw [upd_other d x hj']; exact h j hj
/-- The digits of a list, nought behind its end. -/
def ext (d : Nat → Int) (n : Nat) : Nat → Int := fun i => if i < n then d i else 0
theorem ext_lt (d : Nat → Int) {n i : Nat} (h : i < n) : ext d n i = d i := by simp [ext, h]
theorem ext_ge (d : Nat → Int) {n i : Nat} (h : n ≤ i) : ext d n i = 0 := by simp [ext]; omega
theorem ext_dig {d : Nat → Int} {n : Nat} (h : Dig d n) (m : Nat) : Dig (ext d n) m := fun i hi => by
  by_cases hi' : i < n
  · rw [ext_lt d hi']; exact h i hi'
  · rw [ext_ge d (by omega)]; omega
theorem val_ext (d : Nat → Int) {n m : Nat} (h : n ≤ m) : val (ext d n) m = val d n := by
  rw [val_zeros h (fun i a _ => ext_ge d a)]
  exact val_congr fun i hi => ext_lt d hi
/-- A step of a sum with a carry: what is written and what is carried on. -/
theorem carry_step (V c x p : Int) : V + (c + x) % 1073741824 * p + (c + x) / 1073741824 * (p * 1073741824) = V + c * p + x * p := by
  have h := Int.emod_add_mul_ediv (c + x) 1073741824
  have : (c + x) * p = ((c + x) % 1073741824 + 1073741824 * ((c + x) / 1073741824)) * p := by rw [h]
  rw [Int.add_mul, Int.add_mul] at this
  have e : 1073741824 * ((c + x) / 1073741824) * p = (c + x) / 1073741824 * (p * 1073741824) := by
    rw [Int.mul_comm 1073741824, Int.mul_assoc, Int.mul_comm 1073741824 p]
  omega
theorem and_30 (x : Int) : bits .and .i64 x 1073741823 = x % 1073741824 := and_i64_mask x 30 (by decide)
end Go.Proofs.YtmjdlcbiaglkeaaDoor.M
