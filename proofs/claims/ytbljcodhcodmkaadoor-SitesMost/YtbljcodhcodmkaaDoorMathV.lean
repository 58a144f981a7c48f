/-
  Plain mathematics: the value of a joined pattern; what Parts tells is joined again to the same pattern; the neighbour of a pattern by its parts. No Go text in sight.
-/
import Derived.Test.YtbljcodhcodmkaaDoorMathF
import Derived.Test.YtbljcodhcodmkaaDoorMathJ
namespace Go.Proofs.YtbljcodhcodmkaaDoor.M
open Go Ieee
set_option linter.unusedSimpArgs false
set_option linter.unusedVariables false

theorem V_parts (f : Format) (a n : Nat) (h : (a = 0 ∧ n < 2 * f.binade) ∨ (f.binade ≤ n ∧ n < 2 * f.binade)) : V f (a * f.binade + n) = n * 2 ^ a := by
  have hB := binade_pos f
  unfold V
  by_cases hn : n < f.binade
  · have ha : a = 0 := by omega
    subst ha
    rw [Nat.zero_mul, Nat.zero_add, if_pos hn]; simp
  · have hge : f.binade ≤ a * f.binade + n := Nat.le_trans (by omega) (Nat.le_add_left _ _)
    rw [if_neg (by omega)]
    have e : a * f.binade + n = f.binade * (a + 1) + (n - f.binade) := by
      rw [Nat.mul_add, Nat.mul_one, Nat.mul_comm]; omega
    rw [e, Nat.mul_add_mod, Nat.mod_eq_of_lt (show n - f.binade < f.binade by omega), Nat.mul_add_div hB, Nat.div_eq_of_lt (show n - f.binade < f.binade by omega)]
    rw [show a + 1 + 0 - 1 = a by omega, show f.binade + (n - f.binade) = n by omega]
theorem V_inj (f : Format) {r s : Nat} (h : V f r = V f s) : r = s := by
  rcases Nat.lt_trichotomy r s with h1 | h1 | h1
  · have := V_lt f h1; omega
  · exact h1
  · have := V_lt f h1; omega
theorem pow_split (z : Nat) (n : Int) (u : Nat) (m : Nat) (hn : 0 ≤ n) (h : z ≤ u) (hm : (m : Int) = n * 2 ^ z) : n.toNat * 2 ^ u = m * 2 ^ (u - z) := by
  obtain ⟨k, rfl⟩ := Int.eq_ofNat_of_zero_le hn
  have hm' : m = k * 2 ^ z := by
    have : ((k * 2 ^ z : Nat) : Int) = (k : Int) * 2 ^ z := by rw [Int.natCast_mul]; simp
    omega
  rw [hm', Int.toNat_natCast, Nat.mul_assoc, ← Nat.pow_add, show z + (u - z) = u by omega]
/-- the value of a joined pattern, in units of the least place -/
theorem V_join (f : Format) (fr : Nat) (hB : f.binade = 2 ^ fr) (top least mag exp : Int) (h0 : 0 < mag) (h : mag < 9223372036854775808)
    (hg : jgood fr top least mag exp = true) (he : least ≤ exp) : V f (jv fr top least mag exp).toNat = mag.toNat * 2 ^ (exp - least).toNat := by
  obtain ⟨m, ez, z63, eo⟩ := jz_spec h0 h
  have hg' := hg
  unfold jgood at hg'
  simp only [Bool.and_eq_true, decide_eq_true_eq] at hg'
  have hs : 0 ≤ jsh fr least mag exp ∧ jsh fr least mag exp ≤ jsp fr mag ∧ jsh fr least mag exp ≤ exp + jz mag - least := by unfold jsh; omega
  have hb := jshift_lt (fr := fr) h0 h (by omega) (jsh fr least mag exp).toNat (by omega)
  have hd := doubled (fr := fr) h0 h (by omega) (jsh fr least mag exp).toNat
  have ha : 0 ≤ jab fr least mag exp := by unfold jab; omega
  obtain ⟨n, hn⟩ := Int.eq_ofNat_of_zero_le (show 0 ≤ jo mag * 2 ^ (jsh fr least mag exp).toNat by omega)
  obtain ⟨a, ha'⟩ := Int.eq_ofNat_of_zero_le ha
  rw [hn] at hb hd
  have hB1 : ((f.binade : Nat) : Int) = 2 ^ fr := by rw [hB]; simp
  rw [Int.toNat_natCast, ← hB1] at hd
  have hb2 : (n : Int) < 2 * (f.binade : Int) := by
    have := hb.2
    rw [Int.toNat_natCast, Int.pow_succ, ← hB1] at this
    omega
  have ejv : (jv fr top least mag exp).toNat = a * f.binade + n := by
    unfold jv
    rw [if_neg (by omega), if_pos hg, hn, ha', Int.toNat_natCast, ← hB1]
    have : ((a : Int) * (f.binade : Int) + (n : Int)) = ((a * f.binade + n : Nat) : Int) := by rw [Int.natCast_add, Int.natCast_mul]
    rw [this, Int.toNat_natCast]
  rw [ejv, V_parts f a n (by
    by_cases hn1 : n < f.binade
    · left
      have := hd.1 (by omega)
      have : jab fr least mag exp = 0 := by unfold jab; unfold jsh at *; omega
      omega
    · right; omega)]
  -- n * 2 ^ a = mag * 2 ^ (exp - least)
  have e1 : mag.toNat * 2 ^ (exp - least).toNat = (jo mag).toNat * 2 ^ (jz mag + (exp - least).toNat) := by
    have hm : ((mag.toNat : Nat) : Int) = jo mag * 2 ^ jz mag := by
      rw [Int.toNat_of_nonneg (by omega), eo, Int.mul_comm]; exact ez
    rw [pow_split (jz mag) (jo mag) (jz mag + (exp - least).toNat) mag.toNat (by omega) (by omega) hm]
    congr 2; omega
  have e2 : n * 2 ^ a = (jo mag).toNat * 2 ^ ((jsh fr least mag exp).toNat + a) := by
    rw [pow_split (jsh fr least mag exp).toNat (jo mag) ((jsh fr least mag exp).toNat + a) n (by omega) (by omega) (by rw [← hn])]
    congr 2; omega
  rw [e1, e2]
  congr 2
  unfold jab at ha'
  omega
/-- the odd part and the twos together are no longer than the whole -/
theorem jzl {mag : Int} (h0 : 0 < mag) (h : mag < 9223372036854775808) (k : Nat) (hk : mag < 2 ^ k) : (jz mag : Int) + jl mag ≤ k := by
  obtain ⟨m, ez, z63, eo⟩ := jz_spec h0 h
  have hj := jo_le h0 h
  have sp := bitLen_spec (jo mag).toNat (by omega) (by omega)
  have h1 : 2 ^ (Lib.bitLen (jo mag).toNat - 1) * 2 ^ jz mag ≤ (jo mag).toNat * 2 ^ jz mag := Nat.mul_le_mul_right _ sp.1
  rw [← Nat.pow_add] at h1
  have h2 : (((jo mag).toNat * 2 ^ jz mag : Nat) : Int) = mag := by
    rw [Int.natCast_mul, Int.toNat_of_nonneg (by omega), eo, Int.mul_comm]
    simp only [Int.natCast_pow]
    exact ez.symm
  have h3 : (jo mag).toNat * 2 ^ jz mag < 2 ^ k := by
    have : ((2 ^ k : Nat) : Int) = 2 ^ k := by simp
    omega
  have h4 : 2 ^ (Lib.bitLen (jo mag).toNat - 1 + jz mag) < 2 ^ k := by omega
  have := (Nat.pow_lt_pow_iff_right (by decide : 1 < 2)).1 h4
  unfold jl
  omega
theorem jgood_small {fr top least mag exp : Int} (h0 : 0 < mag) (h : mag < 9223372036854775808) (hf : 0 ≤ fr) (hk : mag < 2 ^ (fr.toNat + 1)) (he : least ≤ exp) (he2 : exp ≤ top - 2 + least) : jgood fr top least mag exp = true := by
  have hl := jzl h0 h (fr.toNat + 1) hk
  have := jl_le h0 h
  unfold jgood jab jsh jsp
  simp only [Bool.and_eq_true, decide_eq_true_eq]
  omega
/-! binary64 -/
def rg (b : Int) : Int := if b < 0 then b + 9223372036854775808 else b
theorem rg_parts {b : Int} (h : rng b) : 0 ≤ rg b ∧ rg b = fld b * 4503599627370496 + frc b := by
  unfold rng at h; unfold rg fld frc; split <;> omega
theorem pparts {b : Int} (h : pok b = true) : fld b ≠ 2047 := by simpa [pok] using h
theorem dB : Ieee.double.binade = 2 ^ 52 := by decide
/-! binary32 -/
def rg32 (b : Int) : Int := if b < 2147483648 then b else b - 2147483648
theorem pparts32 {b : Int} (h : pok32 b = true) : 0 ≤ b ∧ b < 4294967296 ∧ fld32 b ≠ 255 := by
  unfold pok32 at h
  simp only [Bool.and_eq_true] at h
  have := of_decide_eq_true h.1
  exact ⟨this.1, this.2, by simpa using h.2⟩
theorem rg32_parts {b : Int} (h0 : 0 ≤ b) (h1 : b < 4294967296) : 0 ≤ rg32 b ∧ rg32 b = fld32 b * 8388608 + frc32 b := by
  unfold rg32 fld32 frc32; split <;> omega
theorem sB : Ieee.single.binade = 2 ^ 23 := by decide
theorem V_rg32 {b : Int} (hp : pok32 b = true) : V Ieee.single (rg32 b).toNat = (pmag32 b).toNat * 2 ^ (pexp32 b + 149).toNat := by
  obtain ⟨b0, b1, hne⟩ := pparts32 hp
  obtain ⟨r0, r1⟩ := rg32_parts b0 b1
  have hf := fld32_le b
  have ht := frc32_le b
  by_cases h0 : fld32 b = 0
  · have e : (rg32 b).toNat = 0 * Ieee.single.binade + (frc32 b).toNat := by omega
    rw [e, V_parts _ _ _ (.inl ⟨rfl, by rw [sB]; omega⟩)]
    simp [pmag32, pexp32, h0, hp]
  · have e : (rg32 b).toNat = (fld32 b - 1).toNat * Ieee.single.binade + (8388608 + frc32 b).toNat := by rw [sB]; omega
    rw [e, V_parts _ _ _ (.inr (by rw [sB]; omega))]
    unfold pmag32 pexp32
    rw [if_pos hp, if_neg h0, if_pos hp, if_neg h0]
    congr 2; omega
theorem pmag32_le {b : Int} (hp : pok32 b = true) : 0 ≤ pmag32 b ∧ pmag32 b < 16777216 ∧ -149 ≤ pexp32 b ∧ pexp32 b ≤ 104 := by
  obtain ⟨b0, b1, hne⟩ := pparts32 hp
  have hf := fld32_le b
  have ht := frc32_le b
  unfold pmag32 pexp32; rw [if_pos hp, if_pos hp]; split <;> omega
end Go.Proofs.YtbljcodhcodmkaaDoor.M
