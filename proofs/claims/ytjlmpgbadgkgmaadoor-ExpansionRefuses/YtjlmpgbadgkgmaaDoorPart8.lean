/-
  Parts of the proof, one behind another.
-/
import Derived.Test.YtjlmpgbadgkgmaaDoorPart2
import Derived.Test.YtjlmpgbadgkgmaaDoorPart7
import Derived.Laws.FloatArith
import Derived.Test.YtjlmpgbadgkgmaaDoorPart1
import Derived.Test.YtjlmpgbadgkgmaaDoorPart6
/-
  Plain mathematics: a binary32's value as a binary64: it is written there without rounding, and greater ones stay greater. No Go text in sight.
-/
namespace Go.Proofs.YtjlmpgbadgkgmaaDoor.M
open Go Ieee
set_option linter.unusedSimpArgs false
set_option linter.unusedVariables false

theorem p53 : (2 : Int) ^ ((52 : Int).toNat + 1) = 9007199254740992 := by decide
theorem cut_zero (neg : Bool) (n : Nat) : Toward.even.cut neg n 0 = n := by
  unfold Toward.cut
  have h1 : n % 1 = 0 := Nat.mod_one n
  simp [h1]
/-- a number with few digits, not below the least place, is written without rounding -/
theorem nearest_exact (f : Format) (neg : Bool) (m : Nat) (place : Int) (hm : m ≠ 0) (hm2 : m < 2 ^ (f.fractionBits + 1)) (hp : f.leastPlace ≤ place) :
    ∃ r, f.nearest neg m place = f.word neg (min r f.infRung) ∧ V f r = m * 2 ^ (place - f.leastPlace).toNat := by
  unfold Format.nearest
  rw [if_neg hm]
  have h1 := Nat.log2_self_le hm
  have h2 : m < 2 ^ (m.log2 + 1) := Nat.lt_log2_self
  have hl : m.log2 ≤ f.fractionBits := by
    have := (Nat.log2_lt hm).2 hm2
    omega
  dsimp only
  have hlast : max (place + (m.log2 : Int) - (f.fractionBits : Int)) f.leastPlace ≤ place := by omega
  generalize hL : max (place + (m.log2 : Int) - (f.fractionBits : Int)) f.leastPlace = last at *
  rw [show (last - place).toNat = 0 by omega, cut_zero, Nat.shiftLeft_eq]
  refine ⟨_, rfl, ?_⟩
  have hB : f.binade = 2 ^ f.fractionBits := rfl
  rw [V_parts]
  · rw [Nat.mul_assoc, ← Nat.pow_add]
    congr 2; omega
  · -- where the last place is the least one, or the first digit stands at the top
    by_cases hc : place + (m.log2 : Int) - (f.fractionBits : Int) ≤ f.leastPlace
    · left
      refine ⟨by omega, ?_⟩
      have e : last = f.leastPlace := by omega
      have : m * 2 ^ (place - last).toNat < 2 ^ (m.log2 + 1) * 2 ^ (place - last).toNat := Nat.mul_lt_mul_of_pos_right h2 (Nat.two_pow_pos _)
      rw [← Nat.pow_add] at this
      have h3 : 2 ^ (m.log2 + 1 + (place - last).toNat) ≤ 2 ^ (f.fractionBits + 1) := Nat.pow_le_pow_right (by decide) (by omega)
      rw [hB]
      rw [Nat.pow_succ] at h3
      omega
    · right
      have e : (place - last).toNat = f.fractionBits - m.log2 := by omega
      rw [e, hB]
      have a1 : 2 ^ m.log2 * 2 ^ (f.fractionBits - m.log2) ≤ m * 2 ^ (f.fractionBits - m.log2) := Nat.mul_le_mul_right _ h1
      have a2 : m * 2 ^ (f.fractionBits - m.log2) < 2 ^ (m.log2 + 1) * 2 ^ (f.fractionBits - m.log2) := Nat.mul_lt_mul_of_pos_right h2 (Nat.two_pow_pos _)
      rw [← Nat.pow_add] at a1 a2
      rw [show m.log2 + (f.fractionBits - m.log2) = f.fractionBits by omega] at a1
      rw [show m.log2 + 1 + (f.fractionBits - m.log2) = f.fractionBits + 1 by omega, Nat.pow_succ] at a2
      omega
/-- how far the two least places are apart -/
def gap : Nat := 925
/-- what a binary32 with these parts is as a binary64 -/
theorem widened {b : Int} (hp : pok32 b = true) : jk 52 2047 (-1074) (pmag32 b) (pexp32 b) = true ∧ V Ieee.double (jv 52 2047 (-1074) (pmag32 b) (pexp32 b)).toNat = V Ieee.single (rg32 b).toNat * 2 ^ gap := by
  obtain ⟨m0, m1, e0, e1⟩ := pmag32_le hp
  have hV := V_rg32 hp
  by_cases hz : pmag32 b = 0
  · refine ⟨by rw [hz]; simp [jk], ?_⟩
    rw [hV, hz]
    simp [jv, V_zero]
  · have hg : jgood 52 2047 (-1074) (pmag32 b) (pexp32 b) = true := jgood_small (by omega) (by omega) (by omega) (by rw [p53]; omega) (by omega) (by omega)
    refine ⟨by unfold jk; rw [if_neg (by omega), if_neg hz]; exact hg, ?_⟩
    have hj := V_join Ieee.double 52 dB 2047 (-1074) (pmag32 b) (pexp32 b) (by omega) (by omega) hg (by omega)
    have e : jv ((52 : Nat) : Int) 2047 (-1074) (pmag32 b) (pexp32 b) = jv 52 2047 (-1074) (pmag32 b) (pexp32 b) := rfl
    rw [e] at hj
    rw [hj, hV, Nat.mul_assoc, ← Nat.pow_add]
    congr 2; unfold gap; omega
/-- the pattern of it, with its sign -/
def wide (b : Int) : Int := jp (pneg32 b) (pmag32 b) (pexp32 b)
theorem wide_key {b : Int} (hp : pok32 b = true) : rng (wide b) ∧ ¬ cls (wide b) = 4 ∧ ¬ wide b = 9218868437227405312 ∧ key (wide b) = (if 2147483648 ≤ b then -(jv 52 2047 (-1074) (pmag32 b) (pexp32 b)) else jv 52 2047 (-1074) (pmag32 b) (pexp32 b)) := by
  obtain ⟨m0, m1, e0, e1⟩ := pmag32_le hp
  obtain ⟨hk, hv⟩ := widened hp
  have hl := jv_le (mag := pmag32 b) (exp := pexp32 b) (by unfold rng; omega)
  have hneg : pneg32 b = decide (2147483648 ≤ b) := by unfold pneg32; rw [hp]; simp
  unfold wide jp
  rw [hk, hneg]
  by_cases h : 2147483648 ≤ b
  · simp only [h, decide_true, Bool.and_self, if_true]
    refine ⟨by unfold rng; omega, ?_, by omega, ?_⟩
    · rw [cls4]; unfold fld frc; omega
    · unfold key; rw [if_pos (by omega)]; omega
  · simp only [h, decide_false, Bool.and_false, Bool.false_eq_true, if_false]
    refine ⟨by unfold rng; omega, ?_, by omega, ?_⟩
    · rw [cls4]; unfold fld frc; omega
    · unfold key; rw [if_neg (by omega)]
theorem wide_lt {b c : Int} (hb : pok32 b = true) (hc : pok32 c = true) : jv 52 2047 (-1074) (pmag32 b) (pexp32 b) < jv 52 2047 (-1074) (pmag32 c) (pexp32 c) ↔ rg32 b < rg32 c := by
  obtain ⟨b0, b1, _⟩ := pparts32 hb
  obtain ⟨c0, c1, _⟩ := pparts32 hc
  have rb := (rg32_parts b0 b1).1
  have rc := (rg32_parts c0 c1).1
  obtain ⟨mb0, mb1, _, _⟩ := pmag32_le hb
  obtain ⟨mc0, mc1, _, _⟩ := pmag32_le hc
  have lb := jv_le (mag := pmag32 b) (exp := pexp32 b) (by unfold rng; omega)
  have lc := jv_le (mag := pmag32 c) (exp := pexp32 c) (by unfold rng; omega)
  have vb := (widened hb).2
  have vc := (widened hc).2
  have h1 := V_lt_iff Ieee.double (jv 52 2047 (-1074) (pmag32 b) (pexp32 b)).toNat (jv 52 2047 (-1074) (pmag32 c) (pexp32 c)).toNat
  have h2 := V_lt_iff Ieee.single (rg32 b).toNat (rg32 c).toNat
  rw [vb, vc, Nat.mul_lt_mul_right (Nat.two_pow_pos _), h2] at h1
  omega
/-- the next binary32 is no nearer than the next binary64 -/
theorem wide_next {b : Int} (hp : pok32 b = true) (hn : pok32 (next32 b) = true) : less (wide (next32 b)) (next (wide b)) = false := by
  obtain ⟨r1, k1, i1, w1⟩ := wide_key hp
  obtain ⟨r2, k2, i2, w2⟩ := wide_key hn
  obtain ⟨n1, n2, _, _⟩ := key_next r1 k1 i1
  obtain ⟨b0, b1, hb⟩ := pparts32 hp
  obtain ⟨c0, c1, hc⟩ := pparts32 hn
  have lt1 := wide_lt hp hn
  have lt2 := wide_lt hn hp
  have l0 := jv_le (mag := pmag32 b) (exp := pexp32 b) (by have := rng_pmag32 b; exact this)
  have l1 := jv_le (mag := pmag32 (next32 b)) (exp := pexp32 (next32 b)) (by have := rng_pmag32 (next32 b); exact this)
  have h4 : ¬ cls32 b = 4 := by
    have := pok32_cls b; rw [hp] at this
    have := of_decide_eq_true this.symm
    omega
  have key : key (wide b) < key (wide (next32 b)) := by
    rw [w1, w2]
    have hnx : next32 b = if b = 2139095040 then b else if b = 2147483648 then 1 else if 2147483648 < b then b - 1 else b + 1 := by
      unfold next32; rw [if_neg h4]
    by_cases e1 : b = 2139095040
    · exfalso; subst e1; revert hb; decide
    · rw [if_neg e1] at hnx
      by_cases e2 : b = 2147483648
      · rw [if_pos e2] at hnx
        have hr : rg32 b < rg32 (next32 b) := by rw [hnx, e2]; decide
        have := lt1.2 hr
        rw [if_pos (by omega), if_neg (by omega)]
        omega
      · rw [if_neg e2] at hnx
        by_cases e3 : 2147483648 < b
        · rw [if_pos e3] at hnx
          have hr : rg32 (next32 b) < rg32 b := by rw [hnx]; unfold rg32; rw [if_neg (by omega), if_neg (by omega)]; omega
          have := lt2.2 hr
          rw [if_pos (by omega), if_pos (by omega)]
          omega
        · rw [if_neg e3] at hnx
          by_cases e4 : b = 2147483647
          · exfalso; subst e4; revert hb; decide
          · have hr : rg32 b < rg32 (next32 b) := by rw [hnx]; unfold rg32; rw [if_pos (by omega), if_pos (by omega)]; omega
            have := lt1.2 hr
            rw [if_neg (by omega), if_neg (by omega)]
            omega
  unfold less
  simp only [k2, n2, decide_false, Bool.not_false, Bool.true_and, decide_eq_false_iff_not]
  omega
theorem next32_not {b : Int} (hp : pok32 b = true) (hn : pok32 (next32 b) = false) : cls32 (next32 b) = 3 := by
  obtain ⟨b0, b1, hb⟩ := pparts32 hp
  have h4 : ¬ cls32 b = 4 := by
    have := pok32_cls b; rw [hp] at this
    have := of_decide_eq_true this.symm
    omega
  have hnx : next32 b = if b = 2139095040 then b else if b = 2147483648 then 1 else if 2147483648 < b then b - 1 else b + 1 := by
    unfold next32; rw [if_neg h4]
  have hi : 0 ≤ next32 b ∧ next32 b < 4294967296 := by
    rw [hnx]; repeat' split
    all_goals omega
  have hin : in32 (next32 b) = true := decide_eq_true hi
  have hf : fld32 (next32 b) = 255 := by
    unfold pok32 at hn; rw [hin] at hn; simpa using hn
  have ht : frc32 (next32 b) = 0 := by
    rw [hnx] at hf ⊢
    unfold fld32 frc32 at *
    repeat' split
    all_goals (first | omega | (repeat' split at hf) <;> omega)
  unfold cls32; rw [if_neg (by omega), if_pos hf, if_pos ht]
theorem read_finite_few (f : Format) (x : Nat) (h : x % f.signWeight < f.infRung) :
    ∃ m u : Nat, f.read x = .number (x / f.signWeight % 2 == 1) m (f.leastPlace + u) ∧ m * 2 ^ u = V f (x % f.signWeight) ∧ m < 2 * f.binade := by
  unfold Format.read V
  have hB := binade_pos f
  dsimp only
  by_cases h1 : x % f.signWeight < f.binade
  · rw [if_pos h1, if_pos h1]
    exact ⟨x % f.signWeight, 0, by simp, by simp, by omega⟩
  · rw [if_neg h1, if_pos h, if_neg h1]
    have := Nat.mod_lt (x % f.signWeight) hB
    exact ⟨_, _, rfl, rfl, by omega⟩
theorem sSignW : Ieee.single.signWeight = 2147483648 := by decide
theorem sInfR : Ieee.single.infRung = 2139095040 := by decide
theorem dLeast : Ieee.double.leastPlace = -1074 := by decide
theorem sLeast : Ieee.single.leastPlace = -149 := by decide
theorem word_mod (f : Format) (neg : Bool) (r : Nat) (h : r < f.signWeight) : f.word neg r % f.signWeight = r := by
  unfold Format.word; split
  · rw [Nat.add_mod_left, Nat.mod_eq_of_lt h]
  · exact Nat.mod_eq_of_lt h
theorem single_word {b : Int} (hp : pok32 b = true) : b.toNat % 2147483648 = (rg32 b).toNat ∧ (rg32 b).toNat < 2139095040 ∧ (b.toNat / 2147483648 % 2 == 1) = decide (2147483648 ≤ b) := by
  obtain ⟨b0, b1, hb⟩ := pparts32 hp
  unfold fld32 at hb
  refine ⟨by unfold rg32; split <;> omega, by unfold rg32; split <;> omega, ?_⟩
  rw [Bool.eq_iff_iff]; simp only [beq_iff_eq, decide_eq_true_eq]; omega
/-- a finite binary32, made a binary64: the pattern that Join answers of its parts -/
theorem conv_wide {b : Int} (hp : pok32 b = true) : floatToFloatBits .f32 b.toNat .f64 = some (wd (wide b)) := by
  obtain ⟨s1, s2, s3⟩ := single_word hp
  obtain ⟨m0, m1, e0, e1⟩ := pmag32_le hp
  obtain ⟨hk, hv⟩ := widened hp
  have hl := jv_le (mag := pmag32 b) (exp := pexp32 b) (by unfold rng; omega)
  have hneg : pneg32 b = decide (2147483648 ≤ b) := by unfold pneg32; rw [hp]; simp
  obtain ⟨m, u, er, ev, em⟩ := read_finite_few Ieee.single b.toNat (by rw [sSignW, sInfR, s1]; exact s2)
  rw [sSignW, s3] at er
  rw [sSignW, s1] at ev
  have em' : m < 16777216 := by rw [sB] at em; simpa using em
  have hw : wd (wide b) = Ieee.double.word (decide (2147483648 ≤ b)) (jv 52 2047 (-1074) (pmag32 b) (pexp32 b)).toNat := by
    unfold wide jp Format.word
    rw [hk, hneg, dSign]
    unfold wd
    by_cases h : 2147483648 ≤ b
    · simp only [h, decide_true, Bool.and_self, if_true]; omega
    · simp only [h, decide_false, Bool.and_false, Bool.false_eq_true, if_false]; omega
  have henc : FloatKind.f64.encode (.number (decide (2147483648 ≤ b)) m (Ieee.single.leastPlace + u)) = wd (wide b) := by
    show Ieee.double.nearest _ _ _ = _
    rw [hw]
    by_cases hm : m = 0
    · have hr : (jv 52 2047 (-1074) (pmag32 b) (pexp32 b)).toNat = 0 := by
        refine V_inj Ieee.double ?_
        rw [hv, ← ev, hm, V_zero]; simp
      unfold Format.nearest
      rw [if_pos hm, hr]
    · obtain ⟨r, e1, e2⟩ := nearest_exact Ieee.double (decide (2147483648 ≤ b)) m (Ieee.single.leastPlace + u) hm (by
        have : (2 : Nat) ^ (Ieee.double.fractionBits + 1) = 9007199254740992 := by decide
        rw [this]; omega) (by rw [dLeast, sLeast]; omega)
      have hr : r = (jv 52 2047 (-1074) (pmag32 b) (pexp32 b)).toNat := by
        refine V_inj Ieee.double ?_
        rw [e2, hv, ← ev, Nat.mul_assoc, ← Nat.pow_add]
        congr 2
        rw [dLeast, sLeast]; unfold gap; omega
      rw [e1, hr, Nat.min_eq_left (by rw [dInf]; omega)]
  unfold floatToFloatBits
  rw [if_neg (by decide)]
  show (match Ieee.single.read b.toNat with
    | .nan _ _ => none
    | .infinity s => some (FloatKind.f64.encode (.infinity s))
    | .number s m e => if (FloatKind.f64.decode (FloatKind.f64.encode (.number s m e))).isInfinity then none else some (FloatKind.f64.encode (.number s m e))) = _
  rw [er]
  simp only
  rw [henc]
  have hfin : (FloatKind.f64.decode (wd (wide b))).isInfinity = false := by
    show (Ieee.double.read (wd (wide b))).isInfinity = false
    rw [hw]
    obtain ⟨m', u', e', _, _⟩ := read_finite_few Ieee.double (Ieee.double.word (decide (2147483648 ≤ b)) (jv 52 2047 (-1074) (pmag32 b) (pexp32 b)).toNat) (by
      rw [word_mod _ _ _ (by rw [dSign]; omega), dInf]; omega)
    rw [e']; rfl
  rw [hfin]; simp
end Go.Proofs.YtjlmpgbadgkgmaaDoor.M

/-
  Plain mathematics: what the model's floats are rounded to, by rungs. No Go text in sight.
-/
namespace Go.Proofs.YtjlmpgbadgkgmaaDoor
open Go Go.RowKit Go.Proofs.YtjlmpgbadgkgmaaDoor.M Ieee
set_option linter.unusedSimpArgs false
set_option linter.unusedVariables false

/-- What is left of t in D units. -/
def lefN (t D : Nat) : Int := if t = 0 then 0 else if 2 * t < D then 1 else if 2 * t = D then 2 else 3
theorem left_nat {mag u t D : Nat} {q : Int} (hq : 0 < q) (hm : mag = u * D + t) (ht : t < D) : M.Left ((mag : Int) * q) u ((D : Int) * q) (lefN t D) := by
  have e : (mag : Int) * q = (u : Int) * ((D : Int) * q) + (t : Int) * q := by
    rw [hm]; push_cast; rw [Int.add_mul, Int.mul_assoc]
  have k1 : ∀ a b : Nat, a < b → (a : Int) * q < (b : Int) * q := fun a b h => Int.mul_lt_mul_of_pos_right (by omega) hq
  have t0 : 0 ≤ (t : Int) * q := Int.mul_nonneg (by omega) (Int.le_of_lt hq)
  have t1 := k1 t D ht
  have e2 : ((2 * t : Nat) : Int) * q = 2 * ((t : Int) * q) := by push_cast; rw [Int.mul_assoc]
  have z1 : 2 * t < D → 2 * ((t : Int) * q) < (D : Int) * q := fun h => by rw [← e2]; exact k1 _ _ h
  have z2 : 2 * t = D → 2 * ((t : Int) * q) = (D : Int) * q := fun h => by rw [← e2, h]
  have z3 : D < 2 * t → (D : Int) * q < 2 * ((t : Int) * q) := fun h => by rw [← e2]; exact k1 _ _ h
  have z4 : 0 < t → 0 < (t : Int) * q := fun h => Int.mul_pos (by omega) hq
  have z5 : t = 0 → (t : Int) * q = 0 := fun h => by rw [h]; simp
  obtain ⟨U, hU⟩ : ∃ U, (u : Int) * ((D : Int) * q) = U := ⟨_, rfl⟩
  rw [e, hU]
  generalize (t : Int) * q = T at *
  generalize (D : Int) * q = R at *
  unfold lefN
  by_cases c0 : t = 0
  · rw [if_pos c0]
    have := z5 c0
    exact M.Left.mk' hU (by omega) (by omega) (by constructor <;> intro h <;> omega) (by constructor <;> intro h <;> omega) (by constructor <;> intro h <;> omega) (by constructor <;> intro h <;> omega)
  · have := z4 (by omega)
    rw [if_neg c0]
    by_cases c1 : 2 * t < D
    · rw [if_pos c1]
      have := z1 c1
      exact M.Left.mk' hU (by omega) (by omega) (by constructor <;> intro h <;> omega) (by constructor <;> intro h <;> omega) (by constructor <;> intro h <;> omega) (by constructor <;> intro h <;> omega)
    · rw [if_neg c1]
      by_cases c2 : 2 * t = D
      · rw [if_pos c2]
        have := z2 c2
        exact M.Left.mk' hU (by omega) (by omega) (by constructor <;> intro h <;> omega) (by constructor <;> intro h <;> omega) (by constructor <;> intro h <;> omega) (by constructor <;> intro h <;> omega)
      · rw [if_neg c2]
        have := z3 (by omega)
        exact M.Left.mk' hU (by omega) (by omega) (by constructor <;> intro h <;> omega) (by constructor <;> intro h <;> omega) (by constructor <;> intro h <;> omega) (by constructor <;> intro h <;> omega)
theorem up_lef (neg odd : Bool) (t D : Nat) (ht : t < D) : rUp 0 neg odd (lefN t D) = (decide (D < 2 * t) || (decide (D = 2 * t) && odd)) := by
  unfold rUp lefN
  rw [if_pos rfl]
  by_cases c0 : t = 0
  · rw [if_pos c0, decide_eq_false (p := D < 2 * t) (by omega), decide_eq_false (p := D = 2 * t) (by omega)]
    simp
  · rw [if_neg c0]
    by_cases c1 : 2 * t < D
    · rw [if_pos c1, decide_eq_false (p := D < 2 * t) (by omega), decide_eq_false (p := D = 2 * t) (by omega)]
      simp
    · rw [if_neg c1]
      by_cases c2 : 2 * t = D
      · rw [if_pos c2, decide_eq_false (p := D < 2 * t) (by omega), decide_eq_true (p := D = 2 * t) (by omega)]
        simp
      · rw [if_neg c2, decide_eq_true (p := D < 2 * t) (by omega)]
        simp
/-- A whole number of units, to the nearest. -/
theorem cut_even (neg : Bool) (n d : Nat) (hn : n ≠ 0) : Toward.even.cut neg n d = n / 2 ^ d + (if rUp 0 neg (decide (n / 2 ^ d % 2 = 1)) (lefN (n % 2 ^ d) (2 ^ d)) then 1 else 0) := by
  have h2 : n < 2 ^ (n.log2 + 1) := Nat.lt_log2_self
  have hD := Nat.two_pow_pos d
  rw [up_lef _ _ _ _ (Nat.mod_lt _ hD)]
  unfold Toward.cut
  dsimp only
  by_cases h : d ≤ n.log2 + 2
  · rw [Nat.min_eq_left h, Nat.shiftLeft_eq, Nat.one_mul]
    congr 1
    have e1 : (2 ^ d == 2 * (n % 2 ^ d)) = decide (2 ^ d = 2 * (n % 2 ^ d)) := rfl
    have e2 : (n / 2 ^ d % 2 == 1) = decide (n / 2 ^ d % 2 = 1) := rfl
    rw [e1, e2]
    cases (decide (2 ^ d < 2 * (n % 2 ^ d)) || decide (2 ^ d = 2 * (n % 2 ^ d)) && decide (n / 2 ^ d % 2 = 1)) <;> rfl
  · rw [Nat.min_eq_right (by omega), Nat.shiftLeft_eq, Nat.one_mul]
    have h3 : 2 ^ (n.log2 + 2) = 2 * 2 ^ (n.log2 + 1) := by rw [Nat.pow_succ, Nat.mul_comm]
    have h4 : 2 ^ (n.log2 + 2) ≤ 2 ^ d := Nat.pow_le_pow_right (by decide) (by omega)
    have q1 : n / 2 ^ (n.log2 + 2) = 0 := Nat.div_eq_of_lt (by omega)
    have q2 : n % 2 ^ (n.log2 + 2) = n := Nat.mod_eq_of_lt (by omega)
    have q3 : n / 2 ^ d = 0 := Nat.div_eq_of_lt (by omega)
    have q4 : n % 2 ^ d = n := Nat.mod_eq_of_lt (by omega)
    rw [q1, q2, q3, q4, decide_eq_false (p := 2 ^ d < 2 * n) (by omega), decide_eq_false (p := 2 ^ d = 2 * n) (by omega), decide_eq_false (p := 2 ^ (n.log2 + 2) < 2 * n) (by omega)]
    have e1 : (2 ^ (n.log2 + 2) == 2 * n) = decide (2 ^ (n.log2 + 2) = 2 * n) := rfl
    rw [e1, decide_eq_false (p := 2 ^ (n.log2 + 2) = 2 * n) (by omega)]
    rfl
end Go.Proofs.YtjlmpgbadgkgmaaDoor

/-
  Plain mathematics: the nearest word is the nearest rung's. No Go text in sight.
-/
namespace Go.Proofs.YtjlmpgbadgkgmaaDoor
open Go Go.RowKit Go.Proofs.YtjlmpgbadgkgmaaDoor.M Ieee
set_option linter.unusedSimpArgs false
set_option linter.unusedVariables false

theorem dLeast : Ieee.double.leastPlace = -1074 := by decide
theorem dFrac : Ieee.double.fractionBits = 52 := by decide
theorem dBin : Ieee.double.binade = 4503599627370496 := by decide
/-- The last place that is kept. -/
def lastP (mag : Nat) (place : Int) : Int := max (place + (mag.log2 : Int) - 52) (-1074)
theorem nearest_word (neg : Bool) {mag : Nat} (place : Int) (h : mag ≠ 0) : Ieee.double.nearest neg mag place = Ieee.double.word neg (min ((lastP mag place + 1074).toNat * 4503599627370496 + Toward.even.cut neg (mag * 2 ^ (place - lastP mag place).toNat) (lastP mag place - place).toNat) 9218868437227405312) := by
  unfold Format.nearest
  rw [if_neg h, dLeast, dFrac, dBin, dInf]
  dsimp only
  rw [Nat.shiftLeft_eq, show (lastP mag place + 1074) = (lastP mag place - -1074) by omega]
  rfl
theorem minInf {r : Nat} {up : Bool} {neg : Bool} {left : Int} (hup : rUp 0 neg (decide (r % 2 = 1)) left = up) : ((min (r + (if up = true then 1 else 0)) 9218868437227405312 : Nat) : Int) = rTo 0 neg r left := by
  unfold rTo
  rw [hup]
  by_cases h : (r : Int) < 9218868437227405312
  · rw [if_pos h]
    cases up
    · simp only [Bool.false_eq_true, if_false]; omega
    · simp only [if_true]; omega
  · rw [if_neg h]
    have hb : bRung 0 neg = 9218868437227405312 := by cases neg <;> rfl
    rw [hb]
    split <;> omega
theorem odd_rung (a u : Nat) : decide ((a * 4503599627370496 + u) % 2 = 1) = decide (u % 2 = 1) := by congr 1; apply propext; omega
/-- The nearest word, by the number's rung. -/
theorem nearest_rung (neg : Bool) {mag : Nat} {place : Int} (h : mag ≠ 0) (hp : -4194304 ≤ place) :
    ∃ (r0 : Nat) (left : Int), Rung ((mag : Int) * pw place) r0 left ∧ Ieee.double.nearest neg mag place = Ieee.double.word neg (rTo 0 neg r0 left).toNat := by
  rw [nearest_word neg place h]
  have h1 := Nat.log2_self_le h
  have h2 : mag < 2 ^ (mag.log2 + 1) := Nat.lt_log2_self
  have hL : lastP mag place = max (place + (mag.log2 : Int) - 52) (-1074) := rfl
  obtain ⟨l, hl⟩ : ∃ l, lastP mag place = l := ⟨_, rfl⟩
  rw [hl] at hL ⊢
  have hl0 : -1074 ≤ l := by omega
  have hl1 : place + (mag.log2 : Int) - 52 ≤ l := by omega
  have hl2 : -1074 < l → l = place + (mag.log2 : Int) - 52 := by omega
  obtain ⟨a, ha⟩ : ∃ a : Nat, (l + 1074).toNat = a := ⟨_, rfl⟩
  have hal : l = -1074 + (a : Int) := by omega
  have e52 : (2 : Nat) ^ 52 = 4503599627370496 := by decide
  have e53 : (2 : Nat) ^ 53 = 9007199254740992 := by decide
  rw [ha]
  -- u units of 2^l and what is left
  have main : ∃ (u : Nat) (left : Int), M.Left ((mag : Int) * pw place) u (pw l) left ∧ Toward.even.cut neg (mag * 2 ^ (place - l).toNat) (l - place).toNat = u + (if rUp 0 neg (decide (u % 2 = 1)) left then 1 else 0) ∧ u < 9007199254740992 ∧ (0 < a → 4503599627370496 ≤ u) := by
    by_cases hs : l ≤ place
    · obtain ⟨k, hk⟩ : ∃ k : Nat, (place - l).toNat = k := ⟨_, rfl⟩
      have hpl : place = l + (k : Int) := by omega
      rw [hk, show (l - place).toNat = 0 by omega, cut_zero]
      refine ⟨mag * 2 ^ k, 0, ?_, ?_, ?_, ?_⟩
      · have e : (mag : Int) * pw place = ((mag * 2 ^ k : Nat) : Int) * pw l := by
          rw [hpl, pw_add (by omega), Int.mul_comm (pw l)]
          push_cast
          rw [Int.mul_assoc]
        have := left_nat (mag := mag * 2 ^ k) (u := mag * 2 ^ k) (t := 0) (D := 1) (pw_pos l) (by omega) (by decide)
        rw [e]
        have e1 : ((1 : Nat) : Int) * pw l = pw l := by rw [Int.natCast_one, Int.one_mul]
        rw [e1] at this
        exact this
      · have : rUp 0 neg (decide (mag * 2 ^ k % 2 = 1)) 0 = false := by
          cases hu : rUp 0 neg (decide (mag * 2 ^ k % 2 = 1)) 0
          · rfl
          · exact (rUp_left hu).elim
        rw [this]
        rfl
      · have b1 : mag * 2 ^ k < 2 ^ (mag.log2 + 1) * 2 ^ k := Nat.mul_lt_mul_of_pos_right h2 (Nat.two_pow_pos _)
        rw [← Nat.pow_add] at b1
        have b2 : 2 ^ (mag.log2 + 1 + k) ≤ 2 ^ 53 := Nat.pow_le_pow_right (by decide) (by omega)
        omega
      · intro h0
        have b1 : 2 ^ mag.log2 * 2 ^ k ≤ mag * 2 ^ k := Nat.mul_le_mul_right _ h1
        rw [← Nat.pow_add] at b1
        have b2 : 2 ^ 52 ≤ 2 ^ (mag.log2 + k) := Nat.pow_le_pow_right (by decide) (by have := hl2 (by omega); omega)
        omega
    · obtain ⟨k, hk⟩ : ∃ k : Nat, (l - place).toNat = k := ⟨_, rfl⟩
      have hpl : l = place + (k : Int) := by omega
      rw [hk, show (place - l).toNat = 0 by omega, Nat.pow_zero, Nat.mul_one, cut_even neg mag k h]
      have hD := Nat.two_pow_pos k
      have hdm := Nat.div_add_mod mag (2 ^ k)
      have hml := Nat.mod_lt mag hD
      refine ⟨mag / 2 ^ k, lefN (mag % 2 ^ k) (2 ^ k), ?_, rfl, ?_, ?_⟩
      · have := left_nat (mag := mag) (u := mag / 2 ^ k) (t := mag % 2 ^ k) (D := 2 ^ k) (pw_pos place) (by rw [Nat.mul_comm]; exact hdm.symm) hml
        have e : pw l = ((2 ^ k : Nat) : Int) * pw place := by
          rw [hpl, pw_add hp, Int.mul_comm]
          push_cast
          rfl
        rw [e]
        exact this
      · rw [Nat.div_lt_iff_lt_mul hD, ← e53, ← Nat.pow_add]
        exact Nat.lt_of_lt_of_le h2 (Nat.pow_le_pow_right (by decide) (by omega))
      · intro h0
        rw [Nat.le_div_iff_mul_le hD, ← e52, ← Nat.pow_add]
        exact Nat.le_trans (Nat.pow_le_pow_right (by decide) (by have := hl2 (by omega); omega)) h1
  obtain ⟨u, left, hLeft, hcut, hu1, hu2⟩ := main
  rw [hcut]
  have hV := V_rung Ieee.double a u (by rw [dBin]; omega) (fun q => by rw [dBin]; exact hu2 q)
  rw [dBin] at hV
  have hpw : pw l = 2 ^ a * pw (-1074) := by rw [hal, pw_add (by decide), Int.mul_comm]
  rw [hpw] at hLeft
  refine ⟨a * 4503599627370496 + u, left, left_rung hLeft hV.1 hV.2, ?_⟩
  have hm := minInf (r := a * 4503599627370496 + u) (neg := neg) (left := left) rfl
  rw [odd_rung] at hm
  rw [← hm, Int.toNat_natCast, Nat.add_assoc]
end Go.Proofs.YtjlmpgbadgkgmaaDoor

/-
  What RoundNearest asks of the calls.
-/
namespace Go.Proofs.YtjlmpgbadgkgmaaDoor
open Go Go.RowKit Go.Proofs.YtjlmpgbadgkgmaaDoor.M
set_option linter.unusedSimpArgs false
set_option linter.unusedVariables false

theorem patV_bd {b : Int} (h : pok b = true) : Bd 4000 (patV b) := by
  obtain ⟨i0, i1, i2, i3⟩ := pmag_in h
  have h30 : (9007199254740992 : Int) ≤ P 30 := by unfold P; decide
  exact bd_num i0 (Int.lt_of_lt_of_le (by omega) h30) (by omega) (by omega)
theorem Bd.sub {B : Nat} {V W : Int} (h : Bd B V) (k : Bd B W) (hB : B < 4194304) : Bd (B + 1) (V - W) := by
  rw [Int.sub_eq_add_neg]
  exact h.add k.neg hB
end Go.Proofs.YtjlmpgbadgkgmaaDoor

/-
  Plain mathematics: rounding with the other sign, and that it keeps the order.
-/
namespace Go.Proofs.YtjlmpgbadgkgmaaDoor
open Go Go.RowKit Go.Proofs.YtjlmpgbadgkgmaaDoor.M
set_option linter.unusedSimpArgs false
set_option linter.unusedVariables false

theorem cls_pat {s : Bool} {r : Int} (h0 : 0 ≤ r) (h1 : r ≤ 9218868437227405312) (h : s = true → 0 < r) : cls (patS s r) ≠ 4 := by
  obtain ⟨a, b, _⟩ := patS_facts h0 h1 h
  intro q
  have := (cls_rg a).1.1 q
  omega
theorem key_pat {s : Bool} {r : Int} (h0 : 0 ≤ r) (h1 : r ≤ 9218868437227405312) (h : s = true → 0 < r) : key (patS s r) = sg s r := by
  unfold key patS sg
  cases s
  · simp only [Bool.false_eq_true, if_false]
    rw [if_neg (by omega)]
  · have := h rfl
    simp only [if_true]
    rw [if_pos (by omega)]
    omega
theorem rg_neg {b : Int} (hb : rng b) (h : cls b ≠ 4) : rg (neg b) = rg b ∧ key (neg b) = -key b := by
  unfold rng at hb
  unfold neg
  rw [if_neg h]
  unfold rg key
  by_cases h0 : b < 0
  · rw [if_pos h0, if_neg (by omega), if_pos h0, if_neg (by omega), if_pos h0]; omega
  · rw [if_neg h0, if_pos (by omega), if_neg h0, if_pos (by omega), if_neg h0]; omega
theorem cls_neg {b : Int} (hb : rng b) (h : cls b ≠ 4) : cls (neg b) ≠ 4 := by
  intro q
  have h1 := (cls_rg (rng_neg hb)).1.1 q
  rw [(rg_neg hb h).1] at h1
  exact h ((cls_rg hb).1.2 h1)
theorem same_of {a b : Int} (ha : cls a ≠ 4) (hb : cls b ≠ 4) (h : key a = key b) : same a b = true := by
  unfold same
  rw [decide_eq_false ha, decide_eq_false hb, decide_eq_true h]
  rfl
theorem less_not {a b : Int} (h : key b ≤ key a) : less a b = false := by
  unfold less
  rw [decide_eq_false (p := key a < key b) (by omega), Bool.and_false, Bool.and_false]
theorem rUp_mono {way : Int} {ng odd : Bool} {A B a b l k : Int} (h0 : l = 0 ↔ A = a) (h2 : l = 2 ↔ 2 * A = a + b) (h3 : l = 3 ↔ a + b < 2 * A) (g0 : k = 0 ↔ B = a) (g2 : k = 2 ↔ 2 * B = a + b) (g3 : k = 3 ↔ a + b < 2 * B) (lo : a ≤ A) (AB : A ≤ B)
    (h : rUp way ng odd l = true) : rUp way ng odd k = true := by
  have nz : l ≠ 0 → k ≠ 0 := fun q e => by
    have e1 := g0.1 e
    exact q (h0.2 (by omega))
  unfold rUp at *
  split at h
  · rename_i e
    rw [if_pos e]
    simp only [Bool.or_eq_true, Bool.and_eq_true, decide_eq_true_eq] at *
    rcases h with h | ⟨h, ho⟩
    · left; exact g3.2 (by have := h3.1 h; omega)
    · have e2 := h2.1 h
      by_cases e3 : 2 * B = a + b
      · right; exact ⟨g2.2 e3, ho⟩
      · left; exact g3.2 (by omega)
  · rename_i e
    rw [if_neg e]
    split at h
    · rename_i e2
      rw [if_pos e2]
      simp only [Bool.and_eq_true, decide_eq_true_eq] at *
      exact ⟨nz h.1, h.2⟩
    · rename_i e2
      rw [if_neg e2]
      split at h
      · rename_i e3
        rw [if_pos e3]
        simp only [Bool.and_eq_true, decide_eq_true_eq] at *
        exact ⟨nz h.1, h.2⟩
      · cases h
theorem rung_le {A B : Int} {r s : Nat} {l k : Int} (h : Rung A r l) (g : Rung B s k) (AB : A ≤ B) : r ≤ s := by
  rcases Nat.lt_or_ge s r with q | q
  · exfalso
    have h1 := h.lo
    have g1 := g.hi
    have e : vS (s + 1) ≤ vS r := by
      rcases Nat.lt_or_eq_of_le (show s + 1 ≤ r from q) with q2 | q2
      · exact Int.le_of_lt (vS_lt q2)
      · rw [q2]; exact Int.le_refl _
    exact absurd (Int.lt_of_lt_of_le g1 (Int.le_trans e (Int.le_trans h1 AB))) (Int.lt_irrefl _)
  · exact q
theorem rTo_mono {way : Int} {ng : Bool} {A B : Int} {r s : Nat} {l k : Int} (h : Rung A r l) (g : Rung B s k) (AB : A ≤ B) : rTo way ng r l ≤ rTo way ng s k := by
  have hrs := rung_le h g AB
  rcases Nat.lt_or_eq_of_le hrs with q | q
  · clear h g
    unfold rTo
    by_cases hs : (s : Int) < 9218868437227405312
    · rw [if_pos hs, if_pos (by omega)]
      split <;> split <;> omega
    · rw [if_neg hs]
      by_cases hr : (r : Int) < 9218868437227405312
      · rw [if_pos hr]
        unfold bRung
        cases hu : rUp way ng (decide (r % 2 = 1)) l
        · simp only [Bool.false_eq_true, if_false]
          split <;> omega
        · rw [if_pos rfl, if_pos (rUp_more hu)]
          omega
      · rw [if_neg hr]
        exact Int.le_refl _
  · subst q
    have lo := h.lo
    have h0 := h.l0
    have h2 := h.l2
    have h3 := h.l3
    have g0 := g.l0
    have g2 := g.l2
    have g3 := g.l3
    have hm := fun odd => @rUp_mono way ng odd A B (vS r) (vS (r + 1)) l k h0 h2 h3 g0 g2 g3 lo AB
    clear h g lo h0 h2 h3 g0 g2 g3
    unfold rTo
    by_cases hr : (r : Int) < 9218868437227405312
    · rw [if_pos hr, if_pos hr]
      cases hu : rUp way ng (decide (r % 2 = 1)) l
      · simp only [Bool.false_eq_true, if_false]
        split <;> omega
      · rw [hm _ hu]
        exact Int.le_refl _
    · rw [if_neg hr, if_neg hr]
      exact Int.le_refl _
theorem vS_nonneg (r : Nat) : 0 ≤ vS r := by
  rcases Nat.eq_zero_or_pos r with h | h
  · subst h; rw [vS_zero]; exact Int.le_refl _
  · have := vS_lt h
    rw [vS_zero] at this
    exact Int.le_of_lt this
theorem sg_key (ng : Bool) {r : Int} (h0 : 0 ≤ r) : sg (ng && decide (0 < r)) r = sg ng r := by
  by_cases h : 0 < r
  · rw [decide_eq_true h, Bool.and_true]
  · obtain rfl : r = 0 := by omega
    cases ng <;> rfl
/-- A pattern that is answered: its place in the order, and that it is a number's. -/
theorem RdOf.key {V : Int} {ng : Bool} {f : Int → Int × Bool} {A : Int} {r0 : Nat} {left : Int} {way : Int} (hf : f way = (patS (ng && decide (0 < rTo way ng r0 left)) (rTo way ng r0 left), decide (left ≠ 0) || decide (9218868437227405312 ≤ (r0 : Int)))) :
    M.key (f way).1 = sg ng (rTo way ng r0 left) ∧ cls (f way).1 ≠ 4 ∧ rng (f way).1 := by
  obtain ⟨g1, g2⟩ := rTo_range way ng r0 left
  rw [hf]
  exact ⟨(key_pat g1 g2 and_pos).trans (sg_key ng g1), cls_pat g1 g2 and_pos, (patS_facts g1 g2 and_pos).1⟩
theorem sg_le {ng mg : Bool} {A B r s : Int} (hA : 0 ≤ A) (hB : 0 ≤ B) (zB : mg = true → 0 < B) (r0 : 0 ≤ r) (s0 : 0 ≤ s) (h : sg ng A ≤ sg mg B) (up : ng = mg → A ≤ B → r ≤ s) (dn : ng = mg → B ≤ A → s ≤ r) : sg ng r ≤ sg mg s := by
  cases ng <;> cases mg
  · exact up rfl h
  · exfalso
    have h' : A ≤ -B := h
    have := zB rfl
    omega
  · show -r ≤ s
    omega
  · have h' : -A ≤ -B := h
    have := dn rfl (by omega)
    show -r ≤ -s
    omega
theorem rd_mono {V U : Int} {ng mg : Bool} {f g : Int → Int × Bool} (h : RdOf V ng f) (k : RdOf U mg g) (hVU : V ≤ U) (way : Int) : less (g way).1 (f way).1 = false := by
  obtain ⟨A, r, l, eV, zA, RA, hf⟩ := h
  obtain ⟨B, s, m, eU, zB, RB, hg⟩ := k
  have kf := (RdOf.key (V := V) (A := A) (hf way)).1
  have kg := (RdOf.key (V := U) (A := B) (hg way)).1
  have hA : 0 ≤ A := Int.le_trans (vS_nonneg r) RA.lo
  have hB : 0 ≤ B := Int.le_trans (vS_nonneg s) RB.lo
  refine less_not ?_
  rw [kf, kg]
  rw [eV, eU] at hVU
  refine sg_le hA hB zB (rTo_range way ng r l).1 (rTo_range way mg s m).1 hVU (fun e AB => ?_) (fun e BA => ?_)
  · subst e; exact rTo_mono RA RB AB
  · subst e; exact rTo_mono RB RA BA
theorem sg_mir {ng mg : Bool} {A B : Int} (hA : 0 ≤ A) (hB : 0 ≤ B) (zA : ng = true → 0 < A) (zB : mg = true → 0 < B) (h : -sg ng A = sg mg B) : A = B ∧ ((A = 0 ∧ ng = false ∧ mg = false) ∨ mg = !ng) := by
  cases ng <;> cases mg
  · have h' : -A = B := h
    exact ⟨by omega, .inl ⟨by omega, rfl, rfl⟩⟩
  · have h' : -A = -B := h
    exact ⟨by omega, .inr rfl⟩
  · have h' : - -A = B := h
    exact ⟨by omega, .inr rfl⟩
  · have h' : - -A = -B := h
    have := zA rfl
    have := zB rfl
    omega
/-- The way with the other sign. -/
def mirW (way : Int) : Int := if way = 1 then 2 else if way = 2 then 1 else way
theorem rUp_mir {way : Int} (hw : 0 ≤ way ∧ way ≤ 3) (ng odd : Bool) (l : Int) : rUp (mirW way) (!ng) odd l = rUp way ng odd l := by
  have hc : way = 0 ∨ way = 1 ∨ way = 2 ∨ way = 3 := by omega
  rcases hc with rfl | rfl | rfl | rfl <;> cases ng <;> rfl
theorem rTo_mir {way : Int} (hw : 0 ≤ way ∧ way ≤ 3) (ng : Bool) (r : Nat) (l : Int) : rTo (mirW way) (!ng) r l = rTo way ng r l := by
  unfold rTo bRung
  rw [rUp_mir hw, rUp_mir hw]
theorem key_mir {ng mg : Bool} {t u : Int} (h : (t = 0 ∧ u = 0 ∧ ng = false ∧ mg = false) ∨ (mg = !ng ∧ u = t)) : -sg ng t = sg mg u := by
  rcases h with ⟨rfl, rfl, rfl, rfl⟩ | ⟨rfl, rfl⟩
  · rfl
  · cases ng
    · rfl
    · exact Int.neg_neg u
theorem rd_mirK {ng mg : Bool} {A B : Int} {r s : Nat} {l m : Int} (RA : Rung A r l) (RB : Rung B s m) (zA : ng = true → 0 < A) (zB : mg = true → 0 < B) (e : -sg ng A = sg mg B) {way : Int} (hw : 0 ≤ way ∧ way ≤ 3) :
    r = s ∧ l = m ∧ -sg ng (rTo way ng r l) = sg mg (rTo (mirW way) mg s m) := by
  have hA : 0 ≤ A := Int.le_trans (vS_nonneg r) RA.lo
  have hB : 0 ≤ B := Int.le_trans (vS_nonneg s) RB.lo
  obtain ⟨h1, hc⟩ := sg_mir hA hB zA zB e
  rw [← h1] at RB
  obtain ⟨h2, h3⟩ := RA.unique RB
  refine ⟨h2, h3, key_mir ?_⟩
  rw [← h2, ← h3]
  rcases hc with ⟨h4, h5, h6⟩ | h4
  · left
    rw [h4] at RA
    obtain ⟨h7, h8⟩ := RA.unique rung_zero
    rw [h5, h6, h7, h8]
    exact ⟨rTo_zero way, rTo_zero _, rfl, rfl⟩
  · right
    rw [h4]
    exact ⟨rfl, rTo_mir hw ng r l⟩
theorem rd_mir {V : Int} {ng mg : Bool} {f g : Int → Int × Bool} (h : RdOf V ng f) (k : RdOf (-V) mg g) {way : Int} (hw : 0 ≤ way ∧ way ≤ 3) : (f way).2 = (g (mirW way)).2 ∧ same (neg (f way).1) (g (mirW way)).1 = true := by
  obtain ⟨A, r, l, eV, zA, RA, hf⟩ := h
  obtain ⟨B, s, m, eU, zB, RB, hg⟩ := k
  obtain ⟨kf, cf, rf⟩ := RdOf.key (V := V) (A := A) (hf way)
  obtain ⟨kg, cg, _⟩ := RdOf.key (V := V) (A := B) (hg (mirW way))
  rw [eV] at eU
  obtain ⟨h1, h2, h3⟩ := rd_mirK RA RB zA zB eU hw
  have o1 : (f way).2 = (decide (l ≠ 0) || decide (9218868437227405312 ≤ (r : Int))) := by rw [hf]
  have o2 : (g (mirW way)).2 = (decide (m ≠ 0) || decide (9218868437227405312 ≤ (s : Int))) := by rw [hg]
  clear hf hg RA RB
  subst h1 h2
  exact ⟨o1.trans o2.symm, same_of (cls_neg rf cf) cg (((rg_neg rf cf).2.trans (congrArg Neg.neg kf)).trans (h3.trans kg.symm))⟩
end Go.Proofs.YtjlmpgbadgkgmaaDoor

/-
  Plain mathematics: what binary64 answers, by rungs, where the number is a quotient. No Go text in sight.
-/
namespace Go.Proofs.YtjlmpgbadgkgmaaDoor
open Go Go.RowKit Go.Proofs.YtjlmpgbadgkgmaaDoor.M
set_option linter.unusedSimpArgs false
set_option linter.unusedVariables false

/-- What is known of A / S: mag 2^exp, or more by less than 2^exp. -/
def HeldS (S A : Int) (mag : Nat) (exp : Int) (cut : Bool) : Prop := (mag : Int) * (pw exp * S) ≤ A ∧ A < ((mag : Int) + 1) * (pw exp * S) ∧ (cut = false ↔ A = (mag : Int) * (pw exp * S))
/-- A / S among the rungs. -/
structure RungS (S A : Int) (r0 : Nat) (left : Int) : Prop where
  lo : vS r0 * S ≤ A
  hi : A < vS (r0 + 1) * S
  l0 : left = 0 ↔ A = vS r0 * S
  l1 : left = 1 ↔ vS r0 * S < A ∧ 2 * A < vS r0 * S + vS (r0 + 1) * S
  l2 : left = 2 ↔ 2 * A = vS r0 * S + vS (r0 + 1) * S
  l3 : left = 3 ↔ vS r0 * S + vS (r0 + 1) * S < 2 * A
theorem left_ofS {S A : Int} {mag : Nat} {exp e : Int} {cut : Bool} (hS : 0 < S) (h : HeldS S A mag exp cut) (hc : cut = true → 0 < e - exp) (h0 : -4194304 ≤ e) (h1 : -4194304 ≤ exp) : M.Left A (rU mag (e - exp)) (pw e * S) (rL mag cut (e - exp)) := by
  obtain ⟨a1, a2, a3⟩ := h
  have hq : 0 < pw exp * S := Int.mul_pos (pw_pos exp) hS
  have hqe : 0 < pw e * S := Int.mul_pos (pw_pos e) hS
  by_cases hs : e - exp ≤ 0
  · have hcf : cut = false := by cases cut; rfl; have := hc rfl; omega
    have hA := a3.1 hcf
    unfold rU rL
    rw [if_pos hs, if_pos hs]
    have e1 : ((mag * 2 ^ (-(e - exp)).toNat : Nat) : Int) * (pw e * S) = A := by
      rw [hA, pw_sub (e := exp) (low := e) h0 (by omega), show (exp - e).toNat = (-(e - exp)).toNat by omega]
      push_cast
      simp only [Int.mul_assoc]
    exact ⟨by rw [e1]; omega, by rw [e1]; omega, by rw [e1]; simp, by rw [e1]; constructor <;> intro h <;> omega, by rw [e1]; constructor <;> intro h <;> omega, by rw [e1]; constructor <;> intro h <;> omega⟩
  · have hp : pw e * S = 2 ^ (e - exp).toNat * (pw exp * S) := by rw [pw_sub (e := e) (low := exp) h1 (by omega), Int.mul_assoc]
    obtain ⟨s, hsn⟩ : ∃ s, (e - exp).toNat = s := ⟨_, rfl⟩
    have hs0 : 0 < s := by omega
    unfold rU rL
    rw [if_neg hs, if_neg hs, hsn]
    rw [hsn] at hp
    obtain ⟨k, hk, hk0⟩ := two_half s hs0
    have hpn : (2 : Int) ^ s = ((2 ^ s : Nat) : Int) := by simp
    rw [hpn, hk] at hp
    rw [hk]
    have hdm := Nat.div_add_mod mag (2 * k)
    have hml := Nat.mod_lt mag (show 0 < 2 * k by omega)
    generalize mag / (2 * k) = u at *
    generalize mag % (2 * k) = t at *
    generalize hQ : pw exp * S = q at *
    have e1 : (mag : Int) * q = (u : Int) * (((2 * k : Nat) : Int) * q) + (t : Int) * q := by
      rw [← hdm]; push_cast; rw [Int.add_mul]; congr 1; rw [Int.mul_comm (2 * (k : Int)) u, Int.mul_assoc]
    have e2 : ((mag : Int) + 1) * q = (mag : Int) * q + q := by rw [Int.add_mul, Int.one_mul]
    rw [e2, e1] at a2
    rw [e1] at a1 a3
    rw [hp]
    have e3 : ((2 * k : Nat) : Int) * q = 2 * ((k : Int) * q) := by push_cast; rw [Int.mul_assoc]
    have t1 : ∀ x y : Nat, x ≤ y → (x : Int) * q ≤ (y : Int) * q := fun x y h => Int.mul_le_mul_of_nonneg_right (by omega) (by omega)
    have t2 : ∀ x y : Nat, x < y → (x : Int) * q + q ≤ (y : Int) * q := fun x y h => by
      have := t1 (x + 1) y h
      push_cast at this
      rwa [Int.add_mul, Int.one_mul] at this
    have t0 : 0 ≤ (t : Int) * q := Int.mul_nonneg (by omega) (by omega)
    have b1 : (t : Int) * q + q ≤ 2 * ((k : Int) * q) := by rw [← e3]; exact t2 t (2 * k) hml
    rw [e3] at a1 a2 a3 ⊢
    have c1 : t < k → (t : Int) * q + q ≤ (k : Int) * q := t2 t k
    have c2 : t = k → (t : Int) * q = (k : Int) * q := fun h => by rw [h]
    have c3 : k < t → (k : Int) * q + q ≤ (t : Int) * q := t2 k t
    have c4 : t = 0 → (t : Int) * q = 0 := fun h => by rw [h]; simp
    have c5 : 0 < t → q ≤ (t : Int) * q := fun h => by have := t1 1 t h; rwa [Int.natCast_one, Int.one_mul] at this
    clear e1 e2 e3 t1 t2 hp
    obtain ⟨T, hT⟩ : ∃ T, (t : Int) * q = T := ⟨_, rfl⟩
    obtain ⟨K, hK⟩ : ∃ K, (k : Int) * q = K := ⟨_, rfl⟩
    obtain ⟨U, hU⟩ : ∃ U, (u : Int) * (2 * K) = U := ⟨_, rfl⟩
    rw [hT] at c1 c2 c3 c4 c5 t0 b1 a1 a2 a3
    rw [hK] at c1 c2 c3 b1 a1 a2 a3 ⊢
    rw [hU] at a1 a2 a3
    have a3' : cut = true → A ≠ U + T := fun h h2 => by rw [a3.2 h2] at h; cases h
    cases cut
    · have hA := a3.1 rfl
      subst hA
      by_cases z0 : t = 0
      · have := c4 z0
        rw [if_pos ⟨z0, rfl⟩]
        exact M.Left.mk' hU (by omega) (by omega) (by constructor <;> intro h <;> omega) (by constructor <;> intro h <;> omega) (by constructor <;> intro h <;> omega) (by constructor <;> intro h <;> omega)
      · have := c5 (by omega)
        rw [if_neg (fun h => z0 h.1)]
        by_cases z1 : t < k
        · have := c1 z1
          rw [if_pos (by omega)]
          exact M.Left.mk' hU (by omega) (by omega) (by constructor <;> intro h <;> omega) (by constructor <;> intro h <;> omega) (by constructor <;> intro h <;> omega) (by constructor <;> intro h <;> omega)
        · rw [if_neg (by omega)]
          by_cases z2 : t = k
          · have := c2 z2
            rw [if_pos ⟨by omega, rfl⟩]
            exact M.Left.mk' hU (by omega) (by omega) (by constructor <;> intro h <;> omega) (by constructor <;> intro h <;> omega) (by constructor <;> intro h <;> omega) (by constructor <;> intro h <;> omega)
          · have := c3 (by omega)
            rw [if_neg (fun h => z2 (by omega))]
            exact M.Left.mk' hU (by omega) (by omega) (by constructor <;> intro h <;> omega) (by constructor <;> intro h <;> omega) (by constructor <;> intro h <;> omega) (by constructor <;> intro h <;> omega)
    · have hA := a3' rfl
      rw [if_neg (fun h => by cases h.2)]
      by_cases z1 : t < k
      · have := c1 z1
        rw [if_pos (by omega)]
        exact M.Left.mk' hU (by omega) (by omega) (by constructor <;> intro h <;> omega) (by constructor <;> intro h <;> omega) (by constructor <;> intro h <;> omega) (by constructor <;> intro h <;> omega)
      · rw [if_neg (by omega), if_neg (fun h => by cases h.2)]
        have hkt : K ≤ T := by
          by_cases z2 : t = k
          · have := c2 z2; omega
          · have := c3 (by omega); omega
        exact M.Left.mk' hU (by omega) (by omega) (by constructor <;> intro h <;> omega) (by constructor <;> intro h <;> omega) (by constructor <;> intro h <;> omega) (by constructor <;> intro h <;> omega)
theorem left_rungS {S A : Int} {u a r0 : Nat} {left : Int} (h : M.Left A u (2 ^ a * pw (-1074) * S) left) (h1 : V Ieee.double r0 = u * 2 ^ a) (h2 : V Ieee.double (r0 + 1) = (u + 1) * 2 ^ a) : RungS S A r0 left := by
  obtain ⟨lo, hi, l0, l1, l2, l3⟩ := h
  have e1 : vS r0 * S = (u : Int) * (2 ^ a * pw (-1074) * S) := by
    unfold vS
    rw [h1]
    push_cast
    simp only [Int.mul_assoc]
  have e2 : vS (r0 + 1) * S = (u : Int) * (2 ^ a * pw (-1074) * S) + 2 ^ a * pw (-1074) * S := by
    unfold vS
    rw [h2]
    push_cast
    simp only [Int.add_mul, Int.one_mul, Int.mul_assoc]
  generalize (2 : Int) ^ a * pw (-1074) * S = q at *
  generalize (u : Int) * q = U at *
  generalize hX : vS r0 * S = X at *
  generalize hY : vS (r0 + 1) * S = Y at *
  subst e1 e2
  exact ⟨by rw [hX]; omega, by rw [hY]; omega, by rw [hX]; exact l0, by rw [hX, hY, l1]; constructor <;> intro h <;> omega, by rw [hX, hY, l2]; constructor <;> intro h <;> omega, by rw [hX, hY, l3]; constructor <;> intro h <;> omega⟩
theorem r64_specS {way : Int} {ng sd : Bool} {mag : Nat} {exp : Int} {cut : Bool} (hm : mag < 2 ^ 64) (h0 : mag ≠ 0) (he : -4194304 ≤ exp) (hc : cut = true → 2 ^ 60 ≤ mag) :
    ∃ (r0 : Nat) (left : Int), (∀ S A : Int, 0 < S → HeldS S A mag exp cut → RungS S A r0 left) ∧ r64 way ng sd mag exp cut = (patS (ng && (decide (0 < rTo way ng r0 left) || sd)) (rTo way ng r0 left), decide (left ≠ 0) || decide (9218868437227405312 ≤ (r0 : Int))) := by
  have e64 : (2 : Nat) ^ 64 = 18446744073709551616 := by decide
  obtain ⟨b1, b2, b3, b4⟩ := M.bitLen_spec mag hm h0
  have hbits := rU_bits (size := 53) (low := -1074) (exp := exp) (by decide) hm h0
  have hE1 : -1074 ≤ rE 53 (-1074) mag exp := by unfold rE; omega
  have hcs : cut = true → 0 < rE 53 (-1074) mag exp - exp := fun h => by
    have h1 := hc h
    have h2 : 60 < Lib.bitLen mag := by
      have := (Nat.pow_lt_pow_iff_right (by decide : 1 < 2)).1 (Nat.lt_of_le_of_lt h1 b2)
      exact this
    unfold rE
    omega
  have hL := fun (S A : Int) (hS : 0 < S) (hA : HeldS S A mag exp cut) => left_ofS hS hA hcs (e := rE 53 (-1074) mag exp) (by omega) he
  obtain ⟨E, hE⟩ : ∃ E, rE 53 (-1074) mag exp = E := ⟨_, rfl⟩
  have HR : r64 way ng sd mag exp cut = (let E := rE 53 (-1074) mag exp
    let u := rU mag (E - exp)
    let left := rL mag cut (E - exp)
    let U := u + (if rUp way ng (decide (u % 2 = 1)) left then 1 else 0)
    let neg := ng && (decide (0 < U) || sd)
    if jk 52 2047 (-1074) U E then (jp neg U E, decide (left ≠ 0)) else (patS neg (bRung way neg), true)) := rfl
  simp only at HR
  rw [hE] at hbits hE1 hL HR
  obtain ⟨u, hu⟩ : ∃ u, rU mag (E - exp) = u := ⟨_, rfl⟩
  obtain ⟨left, hl⟩ : ∃ l, rL mag cut (E - exp) = l := ⟨_, rfl⟩
  rw [hu] at hbits hL HR
  rw [hl] at hL HR
  obtain ⟨a, ha⟩ : ∃ a, (E - -1074).toNat = a := ⟨_, rfl⟩
  have e53 : (2 : Nat) ^ (53 : Int).toNat = 9007199254740992 := by decide
  have e52 : (2 : Nat) ^ ((53 : Int).toNat - 1) = 4503599627370496 := by decide
  rw [e53, e52] at hbits
  have eB : Ieee.double.binade = 4503599627370496 := by decide
  have hV := V_rung Ieee.double a u (by rw [eB]; omega) (fun h => by rw [eB]; exact hbits.2 (by omega))
  rw [eB] at hV
  have hpw : pw E = 2 ^ a * pw (-1074) := by rw [pw_sub (e := E) (low := -1074) (by decide) hE1, ha]
  rw [hpw] at hL
  refine ⟨a * 4503599627370496 + u, left, fun S A hS hA => left_rungS (hL S A hS hA) hV.1 hV.2, ?_⟩
  rw [HR]
  have hodd : decide ((a * 4503599627370496 + u) % 2 = 1) = decide (u % 2 = 1) := by congr 1; apply propext; omega
  unfold rTo
  rw [hodd]
  obtain ⟨R, hR⟩ : ∃ R, rUp way ng (decide (u % 2 = 1)) left = R := ⟨_, rfl⟩
  rw [hR]
  obtain ⟨U, hU⟩ : ∃ U, u + (if R = true then 1 else 0) = U := ⟨_, rfl⟩
  rw [hU]
  have hR1 : R = true → left ≠ 0 := fun h hz => by rw [hz, h] at hR; exact rUp_left hR
  have hR2 : R = true → rUp way ng true 3 = true := fun h => rUp_more (hR.trans h)
  have hUle : U ≤ 9007199254740992 := by rw [← hU]; split <;> omega
  have hcast : ((a * 4503599627370496 + u : Nat) : Int) + (if R = true then 1 else 0) = ((a * 4503599627370496 + U : Nat) : Int) := by
    rw [← hU]
    cases R <;> simp only [if_true, if_false, Bool.false_eq_true] <;> omega
  rw [hcast]
  by_cases hU0 : U = 0
  · have hu0 : u = 0 := by rw [← hU] at hU0; omega
    have ha0 : a = 0 := by
      rcases Nat.eq_zero_or_pos a with h | h
      · exact h
      · have := hbits.2 (by omega); omega
    subst hU0 hu0 ha0
    have hj : jk 52 2047 (-1074) ((0 : Nat) : Int) E = true := rfl
    rw [hj]
    rw [if_pos rfl, if_pos (by decide)]
    have hd : decide (9218868437227405312 ≤ ((0 * 4503599627370496 + 0 : Nat) : Int)) = false := by decide
    rw [hd, Bool.or_false]
    cases ng <;> cases sd <;> rfl
  · have hjr := join_rung Ieee.double 52 (by decide) dB 2047 (-1074) (by decide) U E (by omega) (by rw [show (2 : Nat) ^ (52 + 1) = 9007199254740992 by decide]; exact hUle) hE1 (fun h => by rw [show (2 : Nat) ^ 52 = 4503599627370496 by decide]; have := hbits.2 h; rw [← hU]; omega)
    simp only at hjr
    rw [ha, show (2 : Nat) ^ 52 = 4503599627370496 by decide, show (2047 : Int) * 2 ^ 52 = 9218868437227405312 by decide] at hjr
    obtain ⟨j1, j2⟩ := hjr
    have hpos : decide (0 < U) = true := decide_eq_true (by omega)
    rw [show jk ((52 : Nat) : Int) 2047 (-1074) (U : Int) E = jk 52 2047 (-1074) (U : Int) E from rfl] at j1
    rw [j1, hpos, Bool.true_or, Bool.and_true]
    by_cases hf : ((a * 4503599627370496 + U : Nat) : Int) < 9218868437227405312
    · have huU : u ≤ U := by rw [← hU]; omega
      have hf0 : ((a * 4503599627370496 + u : Nat) : Int) < 9218868437227405312 := by omega
      rw [decide_eq_true hf, if_pos rfl, if_pos hf0, decide_eq_false (p := 9218868437227405312 ≤ ((a * 4503599627370496 + u : Nat) : Int)) (by omega), Bool.or_false]
      have hd : decide (0 < ((a * 4503599627370496 + U : Nat) : Int)) = true := decide_eq_true (by omega)
      rw [hd, Bool.true_or, Bool.and_true]
      congr 1
      have hjk : jk 52 2047 (-1074) (U : Int) E = true := by rw [j1]; exact decide_eq_true hf
      have hjv := j2 hf
      rw [show jv ((52 : Nat) : Int) 2047 (-1074) (U : Int) E = jv 52 2047 (-1074) (U : Int) E from rfl] at hjv
      unfold jp patS
      rw [hjk, hjv, Bool.true_and]
    · rw [decide_eq_false hf, if_neg (by simp)]
      by_cases hf0 : ((a * 4503599627370496 + u : Nat) : Int) < 9218868437227405312
      · have hRt : R = true := by
          cases R
          · exfalso; simp at hU; omega
          · rfl
        have hUe : ((a * 4503599627370496 + U : Nat) : Int) = 9218868437227405312 := by rw [hRt] at hU; simp at hU; omega
        rw [if_pos hf0, hUe, decide_eq_true (hR1 hRt), Bool.true_or]
        congr 1
        have : bRung way ng = 9218868437227405312 := by unfold bRung; rw [hR2 hRt, if_pos rfl]
        rw [this]
        simp
      · rw [if_neg hf0, decide_eq_true (p := 9218868437227405312 ≤ ((a * 4503599627370496 + u : Nat) : Int)) (by omega), Bool.or_true]
        congr 1
        have hd : decide (0 < bRung way ng) = true := by unfold bRung; split <;> decide
        rw [hd, Bool.true_or, Bool.and_true]
end Go.Proofs.YtjlmpgbadgkgmaaDoor

/-
  Plain mathematics: a quotient's rung, and what RoundQuots asks of it.
-/
namespace Go.Proofs.YtjlmpgbadgkgmaaDoor
open Go Go.RowKit Go.Proofs.YtjlmpgbadgkgmaaDoor.M
set_option linter.unusedSimpArgs false
set_option linter.unusedVariables false

theorem pw_cross {x y u v : Int} {n : Nat} (hx : -4194304 ≤ x) (hy : -4194304 ≤ y) (hu : -4194304 ≤ u) (hv : -4194304 ≤ v) (h : x + y = u + v + n) : pw x * pw y = 2 ^ n * (pw u * pw v) := by
  unfold pw
  rw [← Int.pow_add, ← Int.pow_add, ← Int.pow_add]
  congr 1
  omega
theorem held_core1 {MA MB X Y D N mag rest : Int} (hY : Y = D * X) (hN : MA * D = N) (hd : MB * mag + rest = N) (r0 : 0 ≤ rest) (r1 : rest < MB) (hX : 0 < X) :
    mag * (MB * X) ≤ MA * Y ∧ MA * Y < (mag + 1) * (MB * X) ∧ (rest = 0 ↔ MA * Y = mag * (MB * X)) := by
  have e : MA * Y = mag * (MB * X) + rest * X := by
    rw [hY, ← Int.mul_assoc, hN, ← hd, Int.add_mul, Int.mul_comm MB mag, Int.mul_assoc]
  have e2 : (mag + 1) * (MB * X) = mag * (MB * X) + MB * X := by rw [Int.add_mul, Int.one_mul]
  have t0 : 0 ≤ rest * X := Int.mul_nonneg r0 (Int.le_of_lt hX)
  have t1 : rest * X < MB * X := Int.mul_lt_mul_of_pos_right r1 hX
  rw [e, e2]
  refine ⟨by omega, by omega, ?_⟩
  constructor
  · intro h
    rw [h, Int.zero_mul, Int.add_zero]
  · intro h
    by_cases h0 : rest = 0
    · exact h0
    · have : 0 < rest * X := Int.mul_pos (by omega) hX
      omega
theorem held_core2 {MA MB X Y D N t mag rest : Int} (hX : X = D * Y) (hN : D * N + t = MA) (t0 : 0 ≤ t) (t1 : t < D) (hd : MB * mag + rest = N) (r0 : 0 ≤ rest) (r1 : rest < MB) (hY : 0 < Y) :
    mag * (MB * X) ≤ MA * Y ∧ MA * Y < (mag + 1) * (MB * X) ∧ ((t = 0 ∧ rest = 0) ↔ MA * Y = mag * (MB * X)) := by
  have hD : 0 < D := by omega
  have e : MA * Y = mag * (MB * X) + (D * rest + t) * Y := by
    rw [← hN, ← hd, hX]
    simp only [Int.mul_add, Int.add_mul]
    have : D * (MB * mag) * Y = mag * (MB * (D * Y)) := by
      rw [Int.mul_comm MB mag, ← Int.mul_assoc D, Int.mul_comm D mag, Int.mul_assoc mag D, Int.mul_assoc mag, Int.mul_comm D MB, Int.mul_assoc MB]
    rw [this]
    omega
  have e2 : (mag + 1) * (MB * X) = mag * (MB * X) + MB * X := by rw [Int.add_mul, Int.one_mul]
  have e3 : MB * X = (D * MB) * Y := by rw [hX, ← Int.mul_assoc, Int.mul_comm MB D]
  have q0 : 0 ≤ D * rest := Int.mul_nonneg (Int.le_of_lt hD) r0
  have q1 : D * rest + t < D * MB := by
    have : D * (rest + 1) ≤ D * MB := Int.mul_le_mul_of_nonneg_left (by omega) (Int.le_of_lt hD)
    rw [Int.mul_add, Int.mul_one] at this
    omega
  have t2 : 0 ≤ (D * rest + t) * Y := Int.mul_nonneg (by omega) (Int.le_of_lt hY)
  have t3 : (D * rest + t) * Y < (D * MB) * Y := Int.mul_lt_mul_of_pos_right q1 hY
  rw [e, e2, e3]
  rw [e3] at e2
  refine ⟨by omega, by omega, ?_⟩
  constructor
  · rintro ⟨h, h'⟩
    rw [h, h', Int.mul_zero, Int.add_zero, Int.zero_mul, Int.add_zero]
  · intro h
    by_cases h0 : D * rest + t = 0
    · have h1 : D * rest = 0 := by omega
      rcases Int.mul_eq_zero.1 h1 with h2 | h2
      · omega
      · exact ⟨by omega, h2⟩
    · have : 0 < (D * rest + t) * Y := Int.mul_pos (by omega) hY
      omega
theorem scV_big {A B : Int} (hA : 0 < A) (hB : 0 < B) : 2 ^ 61 ≤ scV A (qK A B) / B := by
  have b1 := blen_pos hA
  have b2 := blen_lt B
  have b3 := blen_pos hB
  rw [Int.le_ediv_iff_mul_le hB]
  have hs : 2 ^ (61 + blen B) ≤ scV A (qK A B) := by
    unfold scV qK
    by_cases h : 0 ≤ 62 + (blen B : Int) - (blen A : Int)
    · rw [if_pos h]
      have e : (2 : Int) ^ (61 + blen B) = 2 ^ (blen A - 1) * 2 ^ (62 + (blen B : Int) - (blen A : Int)).toNat := by rw [← Int.pow_add]; congr 1; omega
      rw [e]
      exact Int.mul_le_mul_of_nonneg_right b1.2 (Int.le_of_lt (two_pos _))
    · rw [if_neg h, Int.le_ediv_iff_mul_le (two_pos _), ← Int.pow_add]
      rw [show 61 + blen B + (-(62 + (blen B : Int) - (blen A : Int))).toNat = blen A - 1 by omega]
      exact b1.2
  refine Int.le_trans ?_ hs
  rw [Int.pow_add]
  exact Int.mul_le_mul_of_nonneg_left (by omega) (by decide)
theorem held_quot {MA MB ea eb : Int} (hA : 0 ≤ MA) (hB : 0 < MB) (a0 : -1100000 ≤ ea) (a1 : ea ≤ 1100000) (b0 : -1100000 ≤ eb) (b1 : eb ≤ 1100000) (lA : blen MA ≤ 150000) (lB : blen MB ≤ 150000) :
    HeldS (MB * pw eb) (MA * (pw ea * pw 0)) (scV MA (qK MA MB) / MB).toNat (ea - eb - qK MA MB) (scC MA (qK MA MB) || decide (scV MA (qK MA MB) % MB ≠ 0)) := by
  have hsm := qK_small hA hB
  have hqk : qK MA MB = 62 + (blen MB : Int) - (blen MA : Int) := rfl
  obtain ⟨k, hk⟩ : ∃ k, qK MA MB = k := ⟨_, rfl⟩
  rw [hk] at hsm hqk ⊢
  obtain ⟨m, hm⟩ : ∃ m, scV MA k / MB = m := ⟨_, rfl⟩
  obtain ⟨r, hr⟩ : ∃ r, scV MA k % MB = r := ⟨_, rfl⟩
  have hd := Int.mul_ediv_add_emod (scV MA k) MB
  have r0 := Int.emod_nonneg (scV MA k) (show MB ≠ 0 by omega)
  have r1 := Int.emod_lt_of_pos (scV MA k) hB
  rw [hm] at hsm hd ⊢
  rw [hr] at hd r0 r1 ⊢
  obtain ⟨X, hX⟩ : ∃ X, pw (ea - eb - k) * pw eb = X := ⟨_, rfl⟩
  obtain ⟨Y, hY⟩ : ∃ Y, pw ea * pw 0 = Y := ⟨_, rfl⟩
  have hX0 : 0 < X := by rw [← hX]; exact Int.mul_pos (pw_pos _) (pw_pos _)
  have hY0 : 0 < Y := by rw [← hY]; exact Int.mul_pos (pw_pos _) (pw_pos _)
  have e1 : pw (ea - eb - k) * (MB * pw eb) = MB * X := by rw [← hX, Int.mul_comm MB, ← Int.mul_assoc, Int.mul_comm]
  unfold HeldS
  rw [e1, hY, Int.toNat_of_nonneg hsm.2.2.1]
  by_cases h : 0 ≤ k
  · have hc : Y = 2 ^ k.toNat * X := by
      rw [← hX, ← hY]
      exact pw_cross (by omega) (by decide) (by omega) (by omega) (by omega)
    have hsv : scV MA k = MA * 2 ^ k.toNat := by unfold scV; rw [if_pos h]
    have hsc : scC MA k = false := by unfold scC; rw [if_pos h]
    rw [hsc, Bool.false_or]
    obtain ⟨q1, q2, q3⟩ := held_core1 hc hsv.symm hd r0 r1 hX0
    exact ⟨q1, q2, by rw [← q3, decide_eq_false_iff_not]; constructor <;> intro h <;> omega⟩
  · have hc : X = 2 ^ (-k).toNat * Y := by
      rw [← hX, ← hY]
      exact pw_cross (by omega) (by omega) (by omega) (by decide) (by omega)
    have hsv : scV MA k = MA / 2 ^ (-k).toNat := by unfold scV; rw [if_neg h]
    have hsc : scC MA k = decide (MA % 2 ^ (-k).toNat ≠ 0) := by unfold scC; rw [if_neg h]
    have hp := two_pos (-k).toNat
    have hdd := Int.mul_ediv_add_emod MA (2 ^ (-k).toNat)
    have t0 := Int.emod_nonneg MA (show (2 : Int) ^ (-k).toNat ≠ 0 by omega)
    have t1 := Int.emod_lt_of_pos MA hp
    rw [← hsv] at hdd
    rw [hsc]
    obtain ⟨q1, q2, q3⟩ := held_core2 hc hdd t0 t1 hd r0 r1 hY0
    refine ⟨q1, q2, ?_⟩
    rw [← q3, Bool.or_eq_false_iff, decide_eq_false_iff_not, decide_eq_false_iff_not]
    constructor <;> intro h <;> omega
end Go.Proofs.YtjlmpgbadgkgmaaDoor
