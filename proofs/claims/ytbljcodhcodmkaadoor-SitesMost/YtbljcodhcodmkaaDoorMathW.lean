/-
  Plain mathematics: a binary32's value as a binary64: it is written there without rounding, and greater ones stay greater. No Go text in sight.
-/
import Derived.Test.YtbljcodhcodmkaaDoorMathV
import Derived.Test.YtbljcodhcodmkaaDoorMathN
import Derived.Laws.FloatArith
namespace Go.Proofs.YtbljcodhcodmkaaDoor.M
open Go Ieee
set_option linter.unusedSimpArgs false
set_option linter.unusedVariables false

theorem p53 : (2 : Int) ^ ((52 : Int).toNat + 1) = 9007199254740992 := by decide
theorem cut_zero (neg : Bool) (n : Nat) : Toward.even.cut neg n 0 = n := by
  unfold Toward.cut
  have h1 : n % 1 = 0 := Nat.mod_one n
  simp [h1]
/-- a number with few digits, not below the least place, is written without rounding -/
theorem nearest_exact (f : Format) (neg : Bool) (m : Nat) (place : Int) (hm : m ≠ 0) (hm2 : m < 2 ^ (f.fractionBits + 1)) (hp : f.leastPlace ≤ place) :
    ∃ r, f.nearest neg m place = f.word neg (min r f.infRung) ∧ V f r = m * 2 ^ (place - f.leastPlace).toNat := by
  unfold Format.nearest
  rw [if_neg hm]
  have h1 := Nat.log2_self_le hm
  have h2 : m < 2 ^ (m.log2 + 1) := Nat.lt_log2_self
  have hl : m.log2 ≤ f.fractionBits := by
    have := (Nat.log2_lt hm).2 hm2
    omega
  dsimp only
  have hlast : max (place + (m.log2 : Int) - (f.fractionBits : Int)) f.leastPlace ≤ place := by omega
  generalize hL : max (place + (m.log2 : Int) - (f.fractionBits : Int)) f.leastPlace = last at *
  rw [show (last - place).toNat = 0 by omega, cut_zero, Nat.shiftLeft_eq]
  refine ⟨_, rfl, ?_⟩
  have hB : f.binade = 2 ^ f.fractionBits := rfl
  rw [V_parts]
  · rw [Nat.mul_assoc, ← Nat.pow_add]
    congr 2; omega
  · -- where the last place is the least one, or the first digit stands at the top
    by_cases hc : place + (m.log2 : Int) - (f.fractionBits : Int) ≤ f.leastPlace
    · left
      refine ⟨by omega, ?_⟩
      have e : last = f.leastPlace := by omega
      have : m * 2 ^ (place - last).toNat < 2 ^ (m.log2 + 1) * 2 ^ (place - last).toNat := Nat.mul_lt_mul_of_pos_right h2 (Nat.two_pow_pos _)
      rw [← Nat.pow_add] at this
      have h3 : 2 ^ (m.log2 + 1 + (place - last).toNat) ≤ 2 ^ (f.fractionBits + 1) := Nat.pow_le_pow_right (by decide) (by omega)
      rw [hB]
      rw [Nat.pow_succ] at h3
      omega
    · right
      have e : (place - last).toNat = f.fractionBits - m.log2 := by omega
      rw [e, hB]
      have a1 : 2 ^ m.log2 * 2 ^ (f.fractionBits - m.log2) ≤ m * 2 ^ (f.fractionBits - m.log2) := Nat.mul_le_mul_right _ h1
      have a2 : m * 2 ^ (f.fractionBits - m.log2) < 2 ^ (m.log2 + 1) * 2 ^ (f.fractionBits - m.log2) := Nat.mul_lt_mul_of_pos_right h2 (Nat.two_pow_pos _)
      rw [← Nat.pow_add] at a1 a2
      rw [show m.log2 + (f.fractionBits - m.log2) = f.fractionBits by omega] at a1
      rw [show m.log2 + 1 + (f.fractionBits - m.log2) = f.fractionBits + 1 by omega, Nat.pow_succ] at a2
      omega
/-- how far the two least places are apart -/
def gap : Nat := 925
/-- what a binary32 with these parts is as a binary64 -/
theorem widened {b : Int} (hp : pok32 b = true) : jk 52 2047 (-1074) (pmag32 b) (pexp32 b) = true ∧ V Ieee.double (jv 52 2047 (-1074) (pmag32 b) (pexp32 b)).toNat = V Ieee.single (rg32 b).toNat * 2 ^ gap := by
  obtain ⟨m0, m1, e0, e1⟩ := pmag32_le hp
  have hV := V_rg32 hp
  by_cases hz : pmag32 b = 0
  · refine ⟨by rw [hz]; simp [jk], ?_⟩
    rw [hV, hz]
    simp [jv, V_zero]
  · have hg : jgood 52 2047 (-1074) (pmag32 b) (pexp32 b) = true := jgood_small (by omega) (by omega) (by omega) (by rw [p53]; omega) (by omega) (by omega)
    refine ⟨by unfold jk; rw [if_neg (by omega), if_neg hz]; exact hg, ?_⟩
    have hj := V_join Ieee.double 52 dB 2047 (-1074) (pmag32 b) (pexp32 b) (by omega) (by omega) hg (by omega)
    have e : jv ((52 : Nat) : Int) 2047 (-1074) (pmag32 b) (pexp32 b) = jv 52 2047 (-1074) (pmag32 b) (pexp32 b) := rfl
    rw [e] at hj
    rw [hj, hV, Nat.mul_assoc, ← Nat.pow_add]
    congr 2; unfold gap; omega
/-- the pattern of it, with its sign -/
def wide (b : Int) : Int := jp (pneg32 b) (pmag32 b) (pexp32 b)
theorem wide_key {b : Int} (hp : pok32 b = true) : rng (wide b) ∧ ¬ cls (wide b) = 4 ∧ ¬ wide b = 9218868437227405312 ∧ key (wide b) = (if 2147483648 ≤ b then -(jv 52 2047 (-1074) (pmag32 b) (pexp32 b)) else jv 52 2047 (-1074) (pmag32 b) (pexp32 b)) := by
  obtain ⟨m0, m1, e0, e1⟩ := pmag32_le hp
  obtain ⟨hk, hv⟩ := widened hp
  have hl := jv_le (mag := pmag32 b) (exp := pexp32 b) (by unfold rng; omega)
  have hneg : pneg32 b = decide (2147483648 ≤ b) := by unfold pneg32; rw [hp]; simp
  unfold wide jp
  rw [hk, hneg]
  by_cases h : 2147483648 ≤ b
  · simp only [h, decide_true, Bool.and_self, if_true]
    refine ⟨by unfold rng; omega, ?_, by omega, ?_⟩
    · rw [cls4]; unfold fld frc; omega
    · unfold key; rw [if_pos (by omega)]; omega
  · simp only [h, decide_false, Bool.and_false, Bool.false_eq_true, if_false]
    refine ⟨by unfold rng; omega, ?_, by omega, ?_⟩
    · rw [cls4]; unfold fld frc; omega
    · unfold key; rw [if_neg (by omega)]
theorem wide_lt {b c : Int} (hb : pok32 b = true) (hc : pok32 c = true) : jv 52 2047 (-1074) (pmag32 b) (pexp32 b) < jv 52 2047 (-1074) (pmag32 c) (pexp32 c) ↔ rg32 b < rg32 c := by
  obtain ⟨b0, b1, _⟩ := pparts32 hb
  obtain ⟨c0, c1, _⟩ := pparts32 hc
  have rb := (rg32_parts b0 b1).1
  have rc := (rg32_parts c0 c1).1
  obtain ⟨mb0, mb1, _, _⟩ := pmag32_le hb
  obtain ⟨mc0, mc1, _, _⟩ := pmag32_le hc
  have lb := jv_le (mag := pmag32 b) (exp := pexp32 b) (by unfold rng; omega)
  have lc := jv_le (mag := pmag32 c) (exp := pexp32 c) (by unfold rng; omega)
  have vb := (widened hb).2
  have vc := (widened hc).2
  have h1 := V_lt_iff Ieee.double (jv 52 2047 (-1074) (pmag32 b) (pexp32 b)).toNat (jv 52 2047 (-1074) (pmag32 c) (pexp32 c)).toNat
  have h2 := V_lt_iff Ieee.single (rg32 b).toNat (rg32 c).toNat
  rw [vb, vc, Nat.mul_lt_mul_right (Nat.two_pow_pos _), h2] at h1
  omega
theorem read_finite_few (f : Format) (x : Nat) (h : x % f.signWeight < f.infRung) :
    ∃ m u : Nat, f.read x = .number (x / f.signWeight % 2 == 1) m (f.leastPlace + u) ∧ m * 2 ^ u = V f (x % f.signWeight) ∧ m < 2 * f.binade := by
  unfold Format.read V
  have hB := binade_pos f
  dsimp only
  by_cases h1 : x % f.signWeight < f.binade
  · rw [if_pos h1, if_pos h1]
    exact ⟨x % f.signWeight, 0, by simp, by simp, by omega⟩
  · rw [if_neg h1, if_pos h, if_neg h1]
    have := Nat.mod_lt (x % f.signWeight) hB
    exact ⟨_, _, rfl, rfl, by omega⟩
theorem sSignW : Ieee.single.signWeight = 2147483648 := by decide
theorem sInfR : Ieee.single.infRung = 2139095040 := by decide
theorem dLeast : Ieee.double.leastPlace = -1074 := by decide
theorem sLeast : Ieee.single.leastPlace = -149 := by decide
theorem word_mod (f : Format) (neg : Bool) (r : Nat) (h : r < f.signWeight) : f.word neg r % f.signWeight = r := by
  unfold Format.word; split
  · rw [Nat.add_mod_left, Nat.mod_eq_of_lt h]
  · exact Nat.mod_eq_of_lt h
theorem single_word {b : Int} (hp : pok32 b = true) : b.toNat % 2147483648 = (rg32 b).toNat ∧ (rg32 b).toNat < 2139095040 ∧ (b.toNat / 2147483648 % 2 == 1) = decide (2147483648 ≤ b) := by
  obtain ⟨b0, b1, hb⟩ := pparts32 hp
  unfold fld32 at hb
  refine ⟨by unfold rg32; split <;> omega, by unfold rg32; split <;> omega, ?_⟩
  rw [Bool.eq_iff_iff]; simp only [beq_iff_eq, decide_eq_true_eq]; omega
/-- a finite binary32, made a binary64: the pattern that Join answers of its parts -/
theorem conv_wide {b : Int} (hp : pok32 b = true) : floatToFloatBits .f32 b.toNat .f64 = some (wd (wide b)) := by
  obtain ⟨s1, s2, s3⟩ := single_word hp
  obtain ⟨m0, m1, e0, e1⟩ := pmag32_le hp
  obtain ⟨hk, hv⟩ := widened hp
  have hl := jv_le (mag := pmag32 b) (exp := pexp32 b) (by unfold rng; omega)
  have hneg : pneg32 b = decide (2147483648 ≤ b) := by unfold pneg32; rw [hp]; simp
  obtain ⟨m, u, er, ev, em⟩ := read_finite_few Ieee.single b.toNat (by rw [sSignW, sInfR, s1]; exact s2)
  rw [sSignW, s3] at er
  rw [sSignW, s1] at ev
  have em' : m < 16777216 := by rw [sB] at em; simpa using em
  have hw : wd (wide b) = Ieee.double.word (decide (2147483648 ≤ b)) (jv 52 2047 (-1074) (pmag32 b) (pexp32 b)).toNat := by
    unfold wide jp Format.word
    rw [hk, hneg, dSign]
    unfold wd
    by_cases h : 2147483648 ≤ b
    · simp only [h, decide_true, Bool.and_self, if_true]; omega
    · simp only [h, decide_false, Bool.and_false, Bool.false_eq_true, if_false]; omega
  have henc : FloatKind.f64.encode (.number (decide (2147483648 ≤ b)) m (Ieee.single.leastPlace + u)) = wd (wide b) := by
    show Ieee.double.nearest _ _ _ = _
    rw [hw]
    by_cases hm : m = 0
    · have hr : (jv 52 2047 (-1074) (pmag32 b) (pexp32 b)).toNat = 0 := by
        refine V_inj Ieee.double ?_
        rw [hv, ← ev, hm, V_zero]; simp
      unfold Format.nearest
      rw [if_pos hm, hr]
    · obtain ⟨r, e1, e2⟩ := nearest_exact Ieee.double (decide (2147483648 ≤ b)) m (Ieee.single.leastPlace + u) hm (by
        have : (2 : Nat) ^ (Ieee.double.fractionBits + 1) = 9007199254740992 := by decide
        rw [this]; omega) (by rw [dLeast, sLeast]; omega)
      have hr : r = (jv 52 2047 (-1074) (pmag32 b) (pexp32 b)).toNat := by
        refine V_inj Ieee.double ?_
        rw [e2, hv, ← ev, Nat.mul_assoc, ← Nat.pow_add]
        congr 2
        rw [dLeast, sLeast]; unfold gap; omega
      rw [e1, hr, Nat.min_eq_left (by rw [dInf]; omega)]
  unfold floatToFloatBits
  rw [if_neg (by decide)]
  show (match Ieee.single.read b.toNat with
    | .nan _ _ => none
    | .infinity s => some (FloatKind.f64.encode (.infinity s))
    | .number s m e => if (FloatKind.f64.decode (FloatKind.f64.encode (.number s m e))).isInfinity then none else some (FloatKind.f64.encode (.number s m e))) = _
  rw [er]
  simp only
  rw [henc]
  have hfin : (FloatKind.f64.decode (wd (wide b))).isInfinity = false := by
    show (Ieee.double.read (wd (wide b))).isInfinity = false
    rw [hw]
    obtain ⟨m', u', e', _, _⟩ := read_finite_few Ieee.double (Ieee.double.word (decide (2147483648 ≤ b)) (jv 52 2047 (-1074) (pmag32 b) (pexp32 b)).toNat) (by
      rw [word_mod _ _ _ (by rw [dSign]; omega), dInf]; omega)
    rw [e']; rfl
  rw [hfin]; simp
end Go.Proofs.YtbljcodhcodmkaaDoor.M
