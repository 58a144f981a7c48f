/-
  Plain mathematics: the value of a joined pattern; what Parts tells is joined again to the same pattern; the neighbour of a pattern by its parts. No Go text in sight.
-/
import Derived.Test.YtcpjdgfnblkfpaaGreatDoorMathF
import Derived.Test.YtcpjdgfnblkfpaaGreatDoorMathJ
namespace Go.Proofs.YtcpjdgfnblkfpaaGreatDoor.M
open Go Ieee
set_option linter.unusedSimpArgs false
set_option linter.unusedVariables false

theorem V_parts (f : Format) (a n : Nat) (h : (a = 0 ∧ n < 2 * f.binade) ∨ (f.binade ≤ n ∧ n < 2 * f.binade)) : V f (a * f.binade + n) = n * 2 ^ a := by
  have hB := binade_pos f
  unfold V
  by_cases hn : n < f.binade
  · have ha : a = 0 := by omega
    subst ha
    rw [Nat.zero_mul, Nat.zero_add, if_pos hn]; simp
  · have hge : f.binade ≤ a * f.binade + n := Nat.le_trans (by omega) (Nat.le_add_left _ _)
    rw [if_neg (by omega)]
    have e : a * f.binade + n = f.binade * (a + 1) + (n - f.binade) := by
      rw [Nat.mul_add, Nat.mul_one, Nat.mul_comm]; omega
    rw [e, Nat.mul_add_mod, Nat.mod_eq_of_lt (show n - f.binade < f.binade by omega), Nat.mul_add_div hB, Nat.div_eq_of_lt (show n - f.binade < f.binade by omega)]
    rw [show a + 1 + 0 - 1 = a by omega, show f.binade + (n - f.binade) = n by omega]
theorem V_inj (f : Format) {r s : Nat} (h : V f r = V f s) : r = s := by
  rcases Nat.lt_trichotomy r s with h1 | h1 | h1
  · have := V_lt f h1; omega
  · exact h1
  · have := V_lt f h1; omega
theorem pow_split (z : Nat) (n : Int) (u : Nat) (m : Nat) (hn : 0 ≤ n) (h : z ≤ u) (hm : (m : Int) = n * 2 ^ z) : n.toNat * 2 ^ u = m * 2 ^ (u - z) := by
  obtain ⟨k, rfl⟩ := Int.eq_ofNat_of_zero_le hn
  have hm' : m = k * 2 ^ z := by
    have : ((k * 2 ^ z : Nat) : Int) = (k : Int) * 2 ^ z := by rw [Int.natCast_mul]; simp
    omega
  rw [hm', Int.toNat_natCast, Nat.mul_assoc, ← Nat.pow_add, show z + (u - z) = u by omega]
/-- the value of a joined pattern, in units of the least place -/
theorem V_join (f : Format) (fr : Nat) (hB : f.binade = 2 ^ fr) (top least mag exp : Int) (h0 : 0 < mag) (h : mag < 9223372036854775808)
    (hg : jgood fr top least mag exp = true) (he : least ≤ exp) : V f (jv fr top least mag exp).toNat = mag.toNat * 2 ^ (exp - least).toNat := by
  obtain ⟨m, ez, z63, eo⟩ := jz_spec h0 h
  have hg' := hg
  unfold jgood at hg'
  simp only [Bool.and_eq_true, decide_eq_true_eq] at hg'
  have hs : 0 ≤ jsh fr least mag exp ∧ jsh fr least mag exp ≤ jsp fr mag ∧ jsh fr least mag exp ≤ exp + jz mag - least := by unfold jsh; omega
  have hb := jshift_lt (fr := fr) h0 h (by omega) (jsh fr least mag exp).toNat (by omega)
  have hd := doubled (fr := fr) h0 h (by omega) (jsh fr least mag exp).toNat
  have ha : 0 ≤ jab fr least mag exp := by unfold jab; omega
  obtain ⟨n, hn⟩ := Int.eq_ofNat_of_zero_le (show 0 ≤ jo mag * 2 ^ (jsh fr least mag exp).toNat by omega)
  obtain ⟨a, ha'⟩ := Int.eq_ofNat_of_zero_le ha
  rw [hn] at hb hd
  have hB1 : ((f.binade : Nat) : Int) = 2 ^ fr := by rw [hB]; simp
  rw [Int.toNat_natCast, ← hB1] at hd
  have hb2 : (n : Int) < 2 * (f.binade : Int) := by
    have := hb.2
    rw [Int.toNat_natCast, Int.pow_succ, ← hB1] at this
    omega
  have ejv : (jv fr top least mag exp).toNat = a * f.binade + n := by
    unfold jv
    rw [if_neg (by omega), if_pos hg, hn, ha', Int.toNat_natCast, ← hB1]
    have : ((a : Int) * (f.binade : Int) + (n : Int)) = ((a * f.binade + n : Nat) : Int) := by rw [Int.natCast_add, Int.natCast_mul]
    rw [this, Int.toNat_natCast]
  rw [ejv, V_parts f a n (by
    by_cases hn1 : n < f.binade
    · left
      have := hd.1 (by omega)
      have : jab fr least mag exp = 0 := by unfold jab; unfold jsh at *; omega
      omega
    · right; omega)]
  -- n * 2 ^ a = mag * 2 ^ (exp - least)
  have e1 : mag.toNat * 2 ^ (exp - least).toNat = (jo mag).toNat * 2 ^ (jz mag + (exp - least).toNat) := by
    have hm : ((mag.toNat : Nat) : Int) = jo mag * 2 ^ jz mag := by
      rw [Int.toNat_of_nonneg (by omega), eo, Int.mul_comm]; exact ez
    rw [pow_split (jz mag) (jo mag) (jz mag + (exp - least).toNat) mag.toNat (by omega) (by omega) hm]
    congr 2; omega
  have e2 : n * 2 ^ a = (jo mag).toNat * 2 ^ ((jsh fr least mag exp).toNat + a) := by
    rw [pow_split (jsh fr least mag exp).toNat (jo mag) ((jsh fr least mag exp).toNat + a) n (by omega) (by omega) (by rw [← hn])]
    congr 2; omega
  rw [e1, e2]
  congr 2
  unfold jab at ha'
  omega
/-- the odd part and the twos together are no longer than the whole -/
theorem jzl {mag : Int} (h0 : 0 < mag) (h : mag < 9223372036854775808) (k : Nat) (hk : mag < 2 ^ k) : (jz mag : Int) + jl mag ≤ k := by
  obtain ⟨m, ez, z63, eo⟩ := jz_spec h0 h
  have hj := jo_le h0 h
  have sp := bitLen_spec (jo mag).toNat (by omega) (by omega)
  have h1 : 2 ^ (Lib.bitLen (jo mag).toNat - 1) * 2 ^ jz mag ≤ (jo mag).toNat * 2 ^ jz mag := Nat.mul_le_mul_right _ sp.1
  rw [← Nat.pow_add] at h1
  have h2 : (((jo mag).toNat * 2 ^ jz mag : Nat) : Int) = mag := by
    rw [Int.natCast_mul, Int.toNat_of_nonneg (by omega), eo, Int.mul_comm]
    simp only [Int.natCast_pow]
    exact ez.symm
  have h3 : (jo mag).toNat * 2 ^ jz mag < 2 ^ k := by
    have : ((2 ^ k : Nat) : Int) = 2 ^ k := by simp
    omega
  have h4 : 2 ^ (Lib.bitLen (jo mag).toNat - 1 + jz mag) < 2 ^ k := by omega
  have := (Nat.pow_lt_pow_iff_right (by decide : 1 < 2)).1 h4
  unfold jl
  omega
theorem jgood_small {fr top least mag exp : Int} (h0 : 0 < mag) (h : mag < 9223372036854775808) (hf : 0 ≤ fr) (hk : mag < 2 ^ (fr.toNat + 1)) (he : least ≤ exp) (he2 : exp ≤ top - 2 + least) : jgood fr top least mag exp = true := by
  have hl := jzl h0 h (fr.toNat + 1) hk
  have := jl_le h0 h
  unfold jgood jab jsh jsp
  simp only [Bool.and_eq_true, decide_eq_true_eq]
  omega
/-! binary64 -/
def rg (b : Int) : Int := if b < 0 then b + 9223372036854775808 else b
theorem rg_parts {b : Int} (h : rng b) : 0 ≤ rg b ∧ rg b = fld b * 4503599627370496 + frc b := by
  unfold rng at h; unfold rg fld frc; split <;> omega
theorem pparts {b : Int} (h : pok b = true) : fld b ≠ 2047 := by simpa [pok] using h
theorem dB : Ieee.double.binade = 2 ^ 52 := by decide
theorem V_rg {b : Int} (hb : rng b) (hp : pok b = true) : V Ieee.double (rg b).toNat = (pmag b).toNat * 2 ^ (pexp b + 1074).toNat := by
  have hne := pparts hp
  obtain ⟨r0, r1⟩ := rg_parts hb
  have hf := fld_le b
  have ht := frc_le b
  by_cases h0 : fld b = 0
  · have e : (rg b).toNat = 0 * Ieee.double.binade + (frc b).toNat := by omega
    rw [e, V_parts _ _ _ (.inl ⟨rfl, by rw [dB]; omega⟩)]
    simp [pmag, pexp, h0]
  · have e : (rg b).toNat = (fld b - 1).toNat * Ieee.double.binade + (4503599627370496 + frc b).toNat := by rw [dB]; omega
    rw [e, V_parts _ _ _ (.inr (by rw [dB]; omega))]
    unfold pmag pexp
    rw [if_neg hne, if_neg h0, if_neg hne, if_neg h0]
    congr 2; omega
theorem pmag_le {b : Int} (hp : pok b = true) : 0 ≤ pmag b ∧ pmag b < 9007199254740992 ∧ -1074 ≤ pexp b ∧ pexp b ≤ 971 := by
  have hne := pparts hp
  have hf := fld_le b
  have ht := frc_le b
  unfold pmag pexp; rw [if_neg hne, if_neg hne]; split <;> omega
/-- Parts joined again: the same pattern -/
theorem join_parts {b : Int} (hb : rng b) (hp : pok b = true) : jk 52 2047 (-1074) (pmag b) (pexp b) = true ∧ jp (pneg b) (pmag b) (pexp b) = b := by
  obtain ⟨m0, m1, e0, e1⟩ := pmag_le hp
  obtain ⟨r0, r1⟩ := rg_parts hb
  have hV := V_rg hb hp
  have hneg : pneg b = decide (b < 0) := by unfold pneg; rw [hp]; simp
  by_cases hz : pmag b = 0
  · have hr : (rg b).toNat = 0 := by
      rw [hz] at hV
      refine V_inj Ieee.double ?_
      rw [hV, V_zero]; simp
    have hk : jk 52 2047 (-1074) (pmag b) (pexp b) = true := by rw [hz]; simp [jk]
    refine ⟨hk, ?_⟩
    unfold jp; rw [hk, hneg, hz]
    unfold rng at hb; unfold rg at *
    by_cases h : b < 0
    · simp [h, jv] at *; omega
    · simp [h, jv] at *; omega
  · have hg : jgood 52 2047 (-1074) (pmag b) (pexp b) = true := jgood_small (by omega) (by omega) (by omega) (by simpa using m1) e0 (by omega)
    have hk : jk 52 2047 (-1074) (pmag b) (pexp b) = true := by unfold jk; rw [if_neg (by omega), if_neg hz]; exact hg
    have hj := V_join Ieee.double 52 dB 2047 (-1074) (pmag b) (pexp b) (by omega) (by omega) hg e0
    rw [show pexp b - -1074 = pexp b + 1074 by omega, ← hV] at hj
    have hj' := V_inj _ hj
    have hl := jv_le (mag := pmag b) (exp := pexp b) (by unfold rng; omega)
    refine ⟨hk, ?_⟩
    have ev : jv 52 2047 (-1074) (pmag b) (pexp b) = rg b := by
      have : jv ((52 : Nat) : Int) 2047 (-1074) (pmag b) (pexp b) = jv 52 2047 (-1074) (pmag b) (pexp b) := rfl
      rw [this] at hj'
      omega
    unfold jp; rw [hk, hneg, ev]
    unfold rng at hb; unfold rg
    by_cases h : b < 0
    · simp [h] <;> omega
    · simp [h]
/-- the neighbour away from 0, by the parts -/
theorem join_next {b : Int} (hb : rng b) (hp : pok b = true) (hk : jk 52 2047 (-1074) (pmag b + 1) (pexp b) = true) : jp false (pmag b + 1) (pexp b) = next (abs b) := by
  obtain ⟨m0, m1, e0, e1⟩ := pmag_le hp
  obtain ⟨r0, r1⟩ := rg_parts hb
  have hV := V_rg hb hp
  have hne := pparts hp
  have hf := fld_le b
  have ht := frc_le b
  have hg : jgood 52 2047 (-1074) (pmag b + 1) (pexp b) = true := by unfold jk at hk; rw [if_neg (by omega), if_neg (by omega)] at hk; exact hk
  have hj := V_join Ieee.double 52 dB 2047 (-1074) (pmag b + 1) (pexp b) (by omega) (by omega) hg e0
  -- the next rung's value
  have hV1 : V Ieee.double ((rg b).toNat + 1) = (pmag b + 1).toNat * 2 ^ (pexp b + 1074).toNat := by
    by_cases h0 : fld b = 0
    · have e : (rg b).toNat + 1 = 0 * Ieee.double.binade + (frc b + 1).toNat := by omega
      rw [e, V_parts _ _ _ (.inl ⟨rfl, by rw [dB]; omega⟩)]
      simp [pmag, pexp, h0]
    · by_cases h9 : frc b + 1 < 4503599627370496
      · have e : (rg b).toNat + 1 = (fld b - 1).toNat * Ieee.double.binade + (4503599627370496 + frc b + 1).toNat := by rw [dB]; omega
        rw [e, V_parts _ _ _ (.inr (by rw [dB]; omega))]
        unfold pmag pexp
        rw [if_neg hne, if_neg h0, if_neg hne, if_neg h0]
        congr 2; omega
      · have e : (rg b).toNat + 1 = (fld b).toNat * Ieee.double.binade + (4503599627370496 : Nat) := by rw [dB]; omega
        rw [e, V_parts _ _ _ (.inr (by rw [dB]; omega))]
        unfold pmag pexp
        rw [if_neg hne, if_neg h0, if_neg hne, if_neg h0]
        have e2 : (fld b).toNat = (fld b - 1075 + 1074).toNat + 1 := by omega
        rw [e2, Nat.pow_succ]
        have e3 : (4503599627370496 + frc b + 1).toNat = 4503599627370496 * 2 := by omega
        rw [e3]
        rw [Nat.mul_comm (2 ^ (fld b - 1075 + 1074).toNat) 2, ← Nat.mul_assoc]
  rw [show pexp b - -1074 = pexp b + 1074 by omega, ← hV1] at hj
  have hj' := V_inj _ hj
  have hl := jv_le (mag := pmag b + 1) (exp := pexp b) (by unfold rng; omega)
  have ev : jv 52 2047 (-1074) (pmag b + 1) (pexp b) = rg b + 1 := by
    have : jv ((52 : Nat) : Int) 2047 (-1074) (pmag b + 1) (pexp b) = jv 52 2047 (-1074) (pmag b + 1) (pexp b) := rfl
    rw [this] at hj'
    omega
  have hc4 : ¬ cls b = 4 := by rw [cls4]; omega
  have ea : abs b = rg b := by unfold abs; rw [if_neg hc4]; rfl
  have hc4' : ¬ cls (rg b) = 4 := by
    rw [cls4]; unfold rng at hb; unfold rg fld frc at *; split <;> omega
  unfold jp
  rw [ev, ea]
  simp only [Bool.and_false, Bool.false_eq_true, if_false]
  unfold next
  rw [if_neg hc4', if_neg (by omega), if_neg (by omega), if_neg (by omega)]
/-- a power of 2 that Parts tells of is there -/
theorem join_one {b : Int} (hp : pok b = true) : jk 52 2047 (-1074) 1 (pexp b) = true := by
  obtain ⟨m0, m1, e0, e1⟩ := pmag_le hp
  unfold jk; rw [if_neg (by omega), if_neg (by omega)]
  exact jgood_small (by omega) (by omega) (by omega) (by decide) e0 (by omega)
/-! binary32 -/
def rg32 (b : Int) : Int := if b < 2147483648 then b else b - 2147483648
theorem pparts32 {b : Int} (h : pok32 b = true) : 0 ≤ b ∧ b < 4294967296 ∧ fld32 b ≠ 255 := by
  unfold pok32 at h
  simp only [Bool.and_eq_true] at h
  have := of_decide_eq_true h.1
  exact ⟨this.1, this.2, by simpa using h.2⟩
theorem rg32_parts {b : Int} (h0 : 0 ≤ b) (h1 : b < 4294967296) : 0 ≤ rg32 b ∧ rg32 b = fld32 b * 8388608 + frc32 b := by
  unfold rg32 fld32 frc32; split <;> omega
theorem sB : Ieee.single.binade = 2 ^ 23 := by decide
theorem V_rg32 {b : Int} (hp : pok32 b = true) : V Ieee.single (rg32 b).toNat = (pmag32 b).toNat * 2 ^ (pexp32 b + 149).toNat := by
  obtain ⟨b0, b1, hne⟩ := pparts32 hp
  obtain ⟨r0, r1⟩ := rg32_parts b0 b1
  have hf := fld32_le b
  have ht := frc32_le b
  by_cases h0 : fld32 b = 0
  · have e : (rg32 b).toNat = 0 * Ieee.single.binade + (frc32 b).toNat := by omega
    rw [e, V_parts _ _ _ (.inl ⟨rfl, by rw [sB]; omega⟩)]
    simp [pmag32, pexp32, h0, hp]
  · have e : (rg32 b).toNat = (fld32 b - 1).toNat * Ieee.single.binade + (8388608 + frc32 b).toNat := by rw [sB]; omega
    rw [e, V_parts _ _ _ (.inr (by rw [sB]; omega))]
    unfold pmag32 pexp32
    rw [if_pos hp, if_neg h0, if_pos hp, if_neg h0]
    congr 2; omega
theorem pmag32_le {b : Int} (hp : pok32 b = true) : 0 ≤ pmag32 b ∧ pmag32 b < 16777216 ∧ -149 ≤ pexp32 b ∧ pexp32 b ≤ 104 := by
  obtain ⟨b0, b1, hne⟩ := pparts32 hp
  have hf := fld32_le b
  have ht := frc32_le b
  unfold pmag32 pexp32; rw [if_pos hp, if_pos hp]; split <;> omega
theorem join_parts32 {b : Int} (hp : pok32 b = true) : jk 23 255 (-149) (pmag32 b) (pexp32 b) = true ∧ jp32 (pneg32 b) (pmag32 b) (pexp32 b) = b := by
  obtain ⟨m0, m1, e0, e1⟩ := pmag32_le hp
  obtain ⟨b0, b1, hne⟩ := pparts32 hp
  obtain ⟨r0, r1⟩ := rg32_parts b0 b1
  have hV := V_rg32 hp
  have hneg : pneg32 b = decide (2147483648 ≤ b) := by unfold pneg32; rw [hp]; simp
  by_cases hz : pmag32 b = 0
  · have hr : (rg32 b).toNat = 0 := by
      rw [hz] at hV
      refine V_inj Ieee.single ?_
      rw [hV, V_zero]; simp
    have hk : jk 23 255 (-149) (pmag32 b) (pexp32 b) = true := by rw [hz]; simp [jk]
    refine ⟨hk, ?_⟩
    unfold jp32; rw [hk, hneg, hz]
    have hr0 : rg32 b = 0 := by omega
    unfold rg32 at hr0
    by_cases h : 2147483648 ≤ b
    · simp [h, jv]; split at hr0 <;> omega
    · simp [h, jv]; split at hr0 <;> omega
  · have hg : jgood 23 255 (-149) (pmag32 b) (pexp32 b) = true := jgood_small (by omega) (by omega) (by omega) (by simpa using m1) e0 (by omega)
    have hk : jk 23 255 (-149) (pmag32 b) (pexp32 b) = true := by unfold jk; rw [if_neg (by omega), if_neg hz]; exact hg
    have hj := V_join Ieee.single 23 sB 255 (-149) (pmag32 b) (pexp32 b) (by omega) (by omega) hg e0
    rw [show pexp32 b - -149 = pexp32 b + 149 by omega, ← hV] at hj
    have hj' := V_inj _ hj
    have hl := jv_le32 (mag := pmag32 b) (exp := pexp32 b) (by unfold rng; omega)
    refine ⟨hk, ?_⟩
    have ev : jv 23 255 (-149) (pmag32 b) (pexp32 b) = rg32 b := by
      have : jv ((23 : Nat) : Int) 255 (-149) (pmag32 b) (pexp32 b) = jv 23 255 (-149) (pmag32 b) (pexp32 b) := rfl
      rw [this] at hj'
      omega
    unfold jp32; rw [hk, hneg, ev]
    by_cases h : 2147483648 ≤ b
    · have e : rg32 b = b - 2147483648 := by unfold rg32; rw [if_neg (by omega)]
      simp [h, e]
    · have e : rg32 b = b := by unfold rg32; rw [if_pos (by omega)]
      simp [h, e]
theorem pok32_cls (b : Int) : pok32 b = decide (cls32 b < 3) := by
  by_cases hi : in32 b = true
  · have hb := of_decide_eq_true hi
    unfold pok32 cls32
    rw [hi, if_neg (by omega)]
    by_cases h : fld32 b = 255 <;> by_cases h2 : frc32 b = 0 <;> by_cases h3 : fld32 b = 0 <;> simp [h, h2, h3]
  · have hn : b < 0 ∨ 4294967296 ≤ b := by simp [in32] at hi; omega
    have h' : in32 b = false := by simpa using hi
    unfold pok32 cls32
    rw [h', if_pos hn]; simp
theorem rng_pmag (b : Int) : rng (pmag b) := by
  have := frc_le b
  unfold rng pmag; repeat' split
  all_goals omega
theorem rng_pexp' (b : Int) : rng (pexp b) := by
  have := fld_le b
  unfold rng pexp; repeat' split
  all_goals omega
theorem rng_pmag32 (b : Int) : rng (pmag32 b) := by
  have := frc32_le b
  unfold rng pmag32; repeat' split
  all_goals omega
theorem rng_pexp32 (b : Int) : rng (pexp32 b) := by
  have := fld32_le b
  unfold rng pexp32; repeat' split
  all_goals omega
end Go.Proofs.YtcpjdgfnblkfpaaGreatDoor.M
