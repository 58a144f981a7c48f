/-
  Plain mathematics of rounding: the units that are cut out of a number, what is left, the rung of a float. No Go text in sight.
-/
import Derived.Test.YtcpjdgfnblkfpaaGreatDoorDM
import Derived.Test.YtcpjdgfnblkfpaaGreatDoorMathV
namespace Go.Proofs.YtcpjdgfnblkfpaaGreatDoor.M
open Go Ieee
set_option linter.unusedSimpArgs false
set_option linter.unusedVariables false

/-- How many units of 2^sh a magnitude holds. -/
def rU (mag : Nat) (sh : Int) : Nat := if sh ≤ 0 then mag * 2 ^ (-sh).toNat else mag / 2 ^ sh.toNat
/-- What is left, held against half a unit: nothing, less, half, more. -/
def rL (mag : Nat) (cut : Bool) (sh : Int) : Int :=
  if sh ≤ 0 then 0 else if mag % 2 ^ sh.toNat = 0 ∧ cut = false then 0 else if 2 * (mag % 2 ^ sh.toNat) < 2 ^ sh.toNat then 1 else if 2 * (mag % 2 ^ sh.toNat) = 2 ^ sh.toNat ∧ cut = false then 2 else 3
/-- The exponent of the units. -/
def rE (size low : Int) (mag : Nat) (exp : Int) : Int := max (exp + (Lib.bitLen mag : Int) - size) low
/-- Does a way raise the units? -/
def rUp (way : Int) (neg odd : Bool) (left : Int) : Bool :=
  if way = 0 then decide (left = 3) || (decide (left = 2) && odd) else if way = 1 then decide (left ≠ 0) && neg else if way = 2 then decide (left ≠ 0) && !neg else false
/-- What is known of a number: mag 2^exp, or more by less than 2^exp. -/
def Held (A : Int) (mag : Nat) (exp : Int) (cut : Bool) : Prop := (mag : Int) * pw exp ≤ A ∧ A < ((mag : Int) + 1) * pw exp ∧ (cut = false ↔ A = (mag : Int) * pw exp)
/-- A number among the units 2^e: u of them, and what is left. -/
structure Left (A : Int) (u : Nat) (q : Int) (left : Int) : Prop where
  lo : (u : Int) * q ≤ A
  hi : A < (u : Int) * q + q
  l0 : left = 0 ↔ A = (u : Int) * q
  l1 : left = 1 ↔ (u : Int) * q < A ∧ 2 * A < 2 * ((u : Int) * q) + q
  l2 : left = 2 ↔ 2 * A = 2 * ((u : Int) * q) + q
  l3 : left = 3 ↔ 2 * ((u : Int) * q) + q < 2 * A
theorem Left.mk' {A U q left : Int} {u : Nat} (hU : (u : Int) * q = U) (lo : U ≤ A) (hi : A < U + q) (l0 : left = 0 ↔ A = U) (l1 : left = 1 ↔ U < A ∧ 2 * A < 2 * U + q) (l2 : left = 2 ↔ 2 * A = 2 * U + q) (l3 : left = 3 ↔ 2 * U + q < 2 * A) : Left A u q left := by
  subst hU
  exact ⟨lo, hi, l0, l1, l2, l3⟩
theorem two_half (n : Nat) (h : 0 < n) : ∃ k, 2 ^ n = 2 * k ∧ 0 < k := ⟨2 ^ (n - 1), by rw [← Nat.pow_succ', Nat.succ_eq_add_one, Nat.sub_add_cancel h], Nat.two_pow_pos _⟩
theorem left_of {A : Int} {mag : Nat} {exp e : Int} {cut : Bool} (h : Held A mag exp cut) (hc : cut = true → 0 < e - exp) (h0 : -4194304 ≤ e) (h1 : -4194304 ≤ exp) : Left A (rU mag (e - exp)) (pw e) (rL mag cut (e - exp)) := by
  obtain ⟨a1, a2, a3⟩ := h
  have hq := pw_pos exp
  have hqe := pw_pos e
  by_cases hs : e - exp ≤ 0
  · have hcf : cut = false := by cases cut; rfl; have := hc rfl; omega
    have hA := a3.1 hcf
    unfold rU rL
    rw [if_pos hs, if_pos hs]
    have e1 : ((mag * 2 ^ (-(e - exp)).toNat : Nat) : Int) * pw e = A := by
      rw [hA, pw_sub (e := exp) (low := e) h0 (by omega), show (exp - e).toNat = (-(e - exp)).toNat by omega]
      push_cast
      rw [Int.mul_assoc]
    exact ⟨by rw [e1]; omega, by rw [e1]; omega, by rw [e1]; simp, by rw [e1]; constructor <;> intro h <;> omega, by rw [e1]; constructor <;> intro h <;> omega, by rw [e1]; constructor <;> intro h <;> omega⟩
  · have hp : pw e = 2 ^ (e - exp).toNat * pw exp := pw_sub h1 (by omega)
    obtain ⟨s, hsn⟩ : ∃ s, (e - exp).toNat = s := ⟨_, rfl⟩
    have hs0 : 0 < s := by omega
    unfold rU rL
    rw [if_neg hs, if_neg hs, hsn]
    rw [hsn] at hp
    obtain ⟨k, hk, hk0⟩ := two_half s hs0
    have hpn : (2 : Int) ^ s = ((2 ^ s : Nat) : Int) := by simp
    rw [hpn, hk] at hp
    rw [hk]
    have hdm := Nat.div_add_mod mag (2 * k)
    have hml := Nat.mod_lt mag (show 0 < 2 * k by omega)
    generalize mag / (2 * k) = u at *
    generalize mag % (2 * k) = t at *
    generalize hQ : pw exp = q at *
    have e1 : (mag : Int) * q = (u : Int) * (((2 * k : Nat) : Int) * q) + (t : Int) * q := by
      rw [← hdm]; push_cast; rw [Int.add_mul]; congr 1; rw [Int.mul_comm (2 * (k : Int)) u, Int.mul_assoc]
    have e2 : ((mag : Int) + 1) * q = (mag : Int) * q + q := by rw [Int.add_mul, Int.one_mul]
    rw [e2, e1] at a2
    rw [e1] at a1 a3
    rw [hp]
    have e3 : ((2 * k : Nat) : Int) * q = 2 * ((k : Int) * q) := by push_cast; rw [Int.mul_assoc]
    have t1 : ∀ x y : Nat, x ≤ y → (x : Int) * q ≤ (y : Int) * q := fun x y h => Int.mul_le_mul_of_nonneg_right (by omega) (by omega)
    have t2 : ∀ x y : Nat, x < y → (x : Int) * q + q ≤ (y : Int) * q := fun x y h => by
      have := t1 (x + 1) y h
      push_cast at this
      rwa [Int.add_mul, Int.one_mul] at this
    have t0 : 0 ≤ (t : Int) * q := Int.mul_nonneg (by omega) (by omega)
    have b1 : (t : Int) * q + q ≤ 2 * ((k : Int) * q) := by rw [← e3]; exact t2 t (2 * k) hml
    rw [e3] at a1 a2 a3 ⊢
    have c1 : t < k → (t : Int) * q + q ≤ (k : Int) * q := t2 t k
    have c2 : t = k → (t : Int) * q = (k : Int) * q := fun h => by rw [h]
    have c3 : k < t → (k : Int) * q + q ≤ (t : Int) * q := t2 k t
    have c4 : t = 0 → (t : Int) * q = 0 := fun h => by rw [h]; simp
    have c5 : 0 < t → q ≤ (t : Int) * q := fun h => by have := t1 1 t h; rwa [Int.natCast_one, Int.one_mul] at this
    clear e1 e2 e3 t1 t2 hp
    obtain ⟨T, hT⟩ : ∃ T, (t : Int) * q = T := ⟨_, rfl⟩
    obtain ⟨K, hK⟩ : ∃ K, (k : Int) * q = K := ⟨_, rfl⟩
    obtain ⟨U, hU⟩ : ∃ U, (u : Int) * (2 * K) = U := ⟨_, rfl⟩
    rw [hT] at c1 c2 c3 c4 c5 t0 b1 a1 a2 a3
    rw [hK] at c1 c2 c3 b1 a1 a2 a3 ⊢
    rw [hU] at a1 a2 a3
    have a3' : cut = true → A ≠ U + T := fun h h2 => by rw [a3.2 h2] at h; cases h
    cases cut
    · have hA := a3.1 rfl
      subst hA
      by_cases z0 : t = 0
      · have := c4 z0
        rw [if_pos ⟨z0, rfl⟩]
        exact Left.mk' hU (by omega) (by omega) (by constructor <;> intro h <;> omega) (by constructor <;> intro h <;> omega) (by constructor <;> intro h <;> omega) (by constructor <;> intro h <;> omega)
      · have := c5 (by omega)
        rw [if_neg (fun h => z0 h.1)]
        by_cases z1 : t < k
        · have := c1 z1
          rw [if_pos (by omega)]
          exact Left.mk' hU (by omega) (by omega) (by constructor <;> intro h <;> omega) (by constructor <;> intro h <;> omega) (by constructor <;> intro h <;> omega) (by constructor <;> intro h <;> omega)
        · rw [if_neg (by omega)]
          by_cases z2 : t = k
          · have := c2 z2
            rw [if_pos ⟨by omega, rfl⟩]
            exact Left.mk' hU (by omega) (by omega) (by constructor <;> intro h <;> omega) (by constructor <;> intro h <;> omega) (by constructor <;> intro h <;> omega) (by constructor <;> intro h <;> omega)
          · have := c3 (by omega)
            rw [if_neg (fun h => z2 (by omega))]
            exact Left.mk' hU (by omega) (by omega) (by constructor <;> intro h <;> omega) (by constructor <;> intro h <;> omega) (by constructor <;> intro h <;> omega) (by constructor <;> intro h <;> omega)
    · have hA := a3' rfl
      rw [if_neg (fun h => by cases h.2)]
      by_cases z1 : t < k
      · have := c1 z1
        rw [if_pos (by omega)]
        exact Left.mk' hU (by omega) (by omega) (by constructor <;> intro h <;> omega) (by constructor <;> intro h <;> omega) (by constructor <;> intro h <;> omega) (by constructor <;> intro h <;> omega)
      · rw [if_neg (by omega), if_neg (fun h => by cases h.2)]
        have hkt : K ≤ T := by
          by_cases z2 : t = k
          · have := c2 z2; omega
          · have := c3 (by omega); omega
        exact Left.mk' hU (by omega) (by omega) (by constructor <;> intro h <;> omega) (by constructor <;> intro h <;> omega) (by constructor <;> intro h <;> omega) (by constructor <;> intro h <;> omega)
/-- How many bits the units have. -/
theorem rU_bits {size low : Int} {mag : Nat} {exp : Int} (hs : 0 < size) (h : mag < 2 ^ 64) (h0 : mag ≠ 0) : rU mag (rE size low mag exp - exp) < 2 ^ size.toNat ∧ (low < rE size low mag exp → 2 ^ (size.toNat - 1) ≤ rU mag (rE size low mag exp - exp)) := by
  obtain ⟨b1, b2, b3, b4⟩ := bitLen_spec mag h h0
  obtain ⟨n, hn⟩ : ∃ n, Lib.bitLen mag = n := ⟨_, rfl⟩
  obtain ⟨z, rfl⟩ : ∃ z : Nat, size = z := ⟨size.toNat, by omega⟩
  unfold rE rU
  rw [hn] at b1 b2 b3 b4 ⊢
  rw [Int.toNat_natCast]
  obtain ⟨e, he⟩ : ∃ e, max (exp + (n : Int) - (z : Int)) low = e := ⟨_, rfl⟩
  have he1 : exp + n - z ≤ e := by omega
  have he2 : low < e → e = exp + n - z := by omega
  rw [he]
  by_cases hse : e - exp ≤ 0
  · rw [if_pos hse]
    obtain ⟨k, hk⟩ : ∃ k, (-(e - exp)).toNat = k := ⟨_, rfl⟩
    rw [hk]
    refine ⟨?_, fun hl => ?_⟩
    · calc mag * 2 ^ k < 2 ^ n * 2 ^ k := Nat.mul_lt_mul_of_pos_right b2 (Nat.two_pow_pos k)
        _ = 2 ^ (n + k) := by rw [Nat.pow_add]
        _ ≤ 2 ^ z := Nat.pow_le_pow_right (by decide) (by omega)
    · have := he2 hl
      calc 2 ^ (z - 1) ≤ 2 ^ (n - 1 + k) := Nat.pow_le_pow_right (by decide) (by omega)
        _ = 2 ^ (n - 1) * 2 ^ k := by rw [Nat.pow_add]
        _ ≤ mag * 2 ^ k := Nat.mul_le_mul_right _ b1
  · rw [if_neg hse]
    obtain ⟨k, hk⟩ : ∃ k, (e - exp).toNat = k := ⟨_, rfl⟩
    rw [hk]
    refine ⟨?_, fun hl => ?_⟩
    · rw [Nat.div_lt_iff_lt_mul (Nat.two_pow_pos k), ← Nat.pow_add]
      exact Nat.lt_of_lt_of_le b2 (Nat.pow_le_pow_right (by decide) (by omega))
    · have := he2 hl
      rw [Nat.le_div_iff_mul_le (Nat.two_pow_pos k), ← Nat.pow_add]
      exact Nat.le_trans (Nat.pow_le_pow_right (by decide) (by omega)) b1
/-- The rung of u units, and of one more. -/
theorem V_rung (f : Format) (a u : Nat) (h : u < 2 * f.binade) (h2 : 0 < a → f.binade ≤ u) : V f (a * f.binade + u) = u * 2 ^ a ∧ V f (a * f.binade + u + 1) = (u + 1) * 2 ^ a := by
  have hB := binade_pos f
  refine ⟨V_parts f a u (by by_cases ha : a = 0 <;> omega), ?_⟩
  by_cases hu : u + 1 < 2 * f.binade
  · rw [Nat.add_assoc]
    exact V_parts f a (u + 1) (by by_cases ha : a = 0 <;> omega)
  · have e : a * f.binade + u + 1 = (a + 1) * f.binade + f.binade := by rw [Nat.add_mul]; omega
    rw [e, V_parts f (a + 1) f.binade (by omega), Nat.pow_succ, show u + 1 = f.binade * 2 by omega, Nat.mul_assoc, Nat.mul_comm (2 ^ a) 2]
/-- Bits of a whole number, by its odd part. -/
theorem jzl_ge {mag : Int} (h0 : 0 < mag) (h : mag < 9223372036854775808) (k : Nat) (hk : 2 ^ k ≤ mag) : (k : Int) + 1 ≤ (jz mag : Int) + jl mag := by
  obtain ⟨m, ez, z63, eo⟩ := jz_spec h0 h
  have hj := jo_le h0 h
  have sp := bitLen_spec (jo mag).toNat (by omega) (by omega)
  have h1 : (jo mag).toNat * 2 ^ jz mag < 2 ^ Lib.bitLen (jo mag).toNat * 2 ^ jz mag := Nat.mul_lt_mul_of_pos_right sp.2.1 (Nat.two_pow_pos _)
  rw [← Nat.pow_add] at h1
  have h2 : (((jo mag).toNat * 2 ^ jz mag : Nat) : Int) = mag := by
    rw [Int.natCast_mul, Int.toNat_of_nonneg (by omega), eo, Int.mul_comm]
    simp only [Int.natCast_pow]
    exact ez.symm
  have h3 : 2 ^ k ≤ (jo mag).toNat * 2 ^ jz mag := by
    have : ((2 ^ k : Nat) : Int) = 2 ^ k := by simp
    omega
  have h4 : 2 ^ k < 2 ^ (Lib.bitLen (jo mag).toNat + jz mag) := by omega
  have := (Nat.pow_lt_pow_iff_right (by decide : 1 < 2)).1 h4
  unfold jl
  omega
theorem pow2_nn (n : Nat) : (0 : Int) ≤ 2 ^ n := Int.le_of_lt (two_pos n)
/-- Join of units: the rung, if it is below the infinite one. -/
theorem join_rung (f : Format) (fr : Nat) (hfr : fr ≤ 60) (hB : f.binade = 2 ^ fr) (top least : Int) (ht : 2 ≤ top) (u : Nat) (e : Int) (h0 : 0 < u) (hu : u ≤ 2 ^ (fr + 1)) (he : least ≤ e) (hn : least < e → 2 ^ fr ≤ u) :
    let rung := (e - least).toNat * 2 ^ fr + u
    jk fr top least (u : Int) e = decide ((rung : Int) < top * 2 ^ fr) ∧ ((rung : Int) < top * 2 ^ fr → jv fr top least (u : Int) e = rung) := by
  intro rung
  have hp60 : 2 ^ (fr + 1) ≤ 2 ^ 61 := Nat.pow_le_pow_right (by decide) (by omega)
  have hu63 : (u : Int) < 9223372036854775808 := by
    have : (2 : Nat) ^ 61 = 2305843009213693952 := by decide
    omega
  have hu0 : (0 : Int) < (u : Int) := by omega
  have hP : 0 < 2 ^ fr := Nat.two_pow_pos fr
  have hPi : ((2 ^ fr : Nat) : Int) = 2 ^ fr := by simp
  have hlo := jl_le hu0 hu63
  have hJ : jgood fr top least (u : Int) e = decide ((rung : Int) < top * 2 ^ fr) := by
    obtain ⟨a, ha⟩ : ∃ a, (e - least).toNat = a := ⟨_, rfl⟩
    have hr : (rung : Int) = (a : Int) * 2 ^ fr + u := by simp only [rung, ha]; push_cast; rfl
    rw [hr]
    by_cases hlt : u < 2 ^ (fr + 1)
    · by_cases hea : (a : Int) ≤ top - 2
      · have g := jgood_small (fr := (fr : Int)) (top := top) (least := least) (exp := e) hu0 hu63 (by omega) (by rw [Int.toNat_natCast]; exact_mod_cast hlt) he (by omega)
        rw [g]
        have : (a : Int) * 2 ^ fr ≤ (top - 2) * 2 ^ fr := Int.mul_le_mul_of_nonneg_right hea (by omega)
        have e2 : (top - 2) * 2 ^ fr = top * 2 ^ fr - 2 * 2 ^ fr := by rw [Int.sub_mul]
        have hu2 : (u : Int) < 2 * 2 ^ fr := by rw [Nat.pow_succ] at hlt; omega
        exact (decide_eq_true (by omega)).symm
      · have hge := hn (by omega)
        have g2 := jzl_ge hu0 hu63 fr (by rw [← hPi]; omega)
        have g : jgood fr top least (u : Int) e = false := by
          unfold jgood jab jsh jsp
          simp only [Bool.and_eq_false_iff, decide_eq_false_iff_not]
          omega
        rw [g]
        have : (top - 1) * 2 ^ fr ≤ (a : Int) * 2 ^ fr := Int.mul_le_mul_of_nonneg_right (by omega) (by omega)
        have e2 : (top - 1) * 2 ^ fr = top * 2 ^ fr - 2 ^ fr := by rw [Int.sub_mul, Int.one_mul]
        exact (decide_eq_false (by omega)).symm
    · have hue : u = 2 ^ (fr + 1) := by omega
      have hpp : 2 ^ (fr + 1) < 2 ^ (fr + 2) := Nat.pow_lt_pow_right (by decide) (by omega)
      have g1 := jzl hu0 hu63 (fr + 2) (by rw [hue]; exact_mod_cast hpp)
      have g2 := jzl_ge hu0 hu63 (fr + 1) (by rw [hue]; simp)
      have hu2 : (u : Int) = 2 * 2 ^ fr := by rw [hue, Nat.pow_succ]; push_cast; omega
      have hjo : jl (u : Int) ≤ fr + 1 := by
        obtain ⟨mm, ez, z63, eo⟩ := jz_spec hu0 hu63
        by_cases hz : jz (u : Int) = 0
        · exfalso
          rw [hz] at ez
          rw [hu2] at ez
          simp at ez
          omega
        · omega
      by_cases hea : (a : Int) ≤ top - 3
      · have g : jgood fr top least (u : Int) e = true := by
          unfold jgood jab jsh jsp
          simp only [Bool.and_eq_true, decide_eq_true_eq]
          omega
        rw [g]
        have : (a : Int) * 2 ^ fr ≤ (top - 3) * 2 ^ fr := Int.mul_le_mul_of_nonneg_right hea (by omega)
        have e2 : (top - 3) * 2 ^ fr = top * 2 ^ fr - 3 * 2 ^ fr := by rw [Int.sub_mul]
        exact (decide_eq_true (by omega)).symm
      · have g : jgood fr top least (u : Int) e = false := by
          unfold jgood jab jsh jsp
          simp only [Bool.and_eq_false_iff, decide_eq_false_iff_not]
          omega
        rw [g]
        have : (top - 2) * 2 ^ fr ≤ (a : Int) * 2 ^ fr := Int.mul_le_mul_of_nonneg_right (by omega) (by omega)
        have e2 : (top - 2) * 2 ^ fr = top * 2 ^ fr - 2 * 2 ^ fr := by rw [Int.sub_mul]
        exact (decide_eq_false (by omega)).symm
  refine ⟨?_, fun hlt => ?_⟩
  · unfold jk
    rw [if_neg (by omega), if_neg (by omega)]
    exact hJ
  · have hg : jgood fr top least (u : Int) e = true := by rw [hJ]; exact decide_eq_true hlt
    have hv := V_join f fr hB top least (u : Int) e hu0 hu63 hg he
    rw [Int.toNat_natCast] at hv
    have hj0 : 0 ≤ jv fr top least (u : Int) e := by
      unfold jv
      rw [if_neg (by omega), if_pos hg]
      have h1 := jo_le hu0 hu63
      have h2 : 0 ≤ jab fr least (u : Int) e := by unfold jab jsh; unfold jgood at hg; simp only [Bool.and_eq_true, decide_eq_true_eq] at hg; omega
      have h3 : (0 : Int) ≤ 2 ^ (fr : Int).toNat := pow2_nn _
      have h4 : (0 : Int) ≤ 2 ^ (jsh fr least (u : Int) e).toNat := pow2_nn _
      have := Int.mul_nonneg h2 h3
      have := Int.mul_nonneg (show 0 ≤ jo (u : Int) by omega) h4
      omega
    have hV : V f rung = u * 2 ^ (e - least).toNat := by
      show V f ((e - least).toNat * 2 ^ fr + u) = _
      rw [← hB]
      by_cases hlt2 : u < 2 ^ (fr + 1)
      · exact (V_rung f (e - least).toNat u (by rw [hB]; rw [Nat.pow_succ] at hlt2; omega) (fun h => by rw [hB]; exact hn (by omega))).1
      · have hue : u = 2 * f.binade - 1 + 1 := by rw [hB]; rw [Nat.pow_succ] at hu hlt2; omega
        have hb := binade_pos f
        have := (V_rung f (e - least).toNat (2 * f.binade - 1) (by omega) (fun h => by omega)).2
        rw [← hue, Nat.add_assoc, ← hue] at this
        exact this
    have := V_inj f (hv.trans hV.symm)
    omega
end Go.Proofs.YtcpjdgfnblkfpaaGreatDoor.M
