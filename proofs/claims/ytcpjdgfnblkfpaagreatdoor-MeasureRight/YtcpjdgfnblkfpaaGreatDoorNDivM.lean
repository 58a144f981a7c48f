/-
  Plain mathematics of long division (a digit guessed from the highest ones), of square roots from above, of common divisors from the highest bits. No Go text in sight.
-/
import Derived.Test.YtcpjdgfnblkfpaaGreatDoorNV
namespace Go.Proofs.YtcpjdgfnblkfpaaGreatDoor.M
open Go
set_option linter.unusedSimpArgs false
set_option linter.unusedVariables false

theorem mul_le_r {a b c : Int} (h : a ≤ b) (hc : 0 ≤ c) : a * c ≤ b * c := Int.mul_le_mul_of_nonneg_right h hc
theorem mul_le_l {a b c : Int} (h : a ≤ b) (hc : 0 ≤ c) : c * a ≤ c * b := Int.mul_le_mul_of_nonneg_left h hc

/-- The guess is too great by what the second digit tells. -/
theorem knuth_dec {U V p v1 v2 vl head u2 ul times left : Int} (hV : V = (v1 * 1073741824 + v2) * p + vl) (hvl : 0 ≤ vl) (hU : U = (head * 1073741824 + u2) * p + ul) (hul : ul < p)
    (hp : 0 < p) (hh : head = times * v1 + left) (ht : 0 ≤ times) (h : left * 1073741824 + u2 < times * v2) : U < times * V := by
  have h1 : (left * 1073741824 + u2 + 1) * p ≤ times * v2 * p := mul_le_r (by omega) (by omega)
  have h2 : 0 ≤ times * vl := Int.mul_nonneg ht hvl
  have e1 : times * V = times * v1 * 1073741824 * p + times * v2 * p + times * vl := by rw [hV]; grind
  have e2 : U = times * v1 * 1073741824 * p + (left * 1073741824 + u2 + 1) * p - p + ul := by rw [hU, hh]; grind
  omega
/-- A guess whose rest is a digit too long is not too great. -/
theorem knuth_long {U V p v1 v2 vl head u2 ul times left : Int} (hV : V = (v1 * 1073741824 + v2) * p + vl) (hvl : vl < p) (hv2 : v2 < 1073741824) (hU : U = (head * 1073741824 + u2) * p + ul) (hul : 0 ≤ ul) (hu2 : 0 ≤ u2)
    (hp : 0 < p) (hh : head = times * v1 + left) (ht : 0 ≤ times) (ht2 : times < 1073741824) (h : 1073741824 ≤ left) : times * V ≤ U := by
  have h0 : v2 * p ≤ 1073741823 * p := mul_le_r (by omega) (by omega)
  have e0 : (v1 + 1) * (1073741824 * p) = v1 * 1073741824 * p + 1073741823 * p + p := by grind
  have e1 : V = v1 * 1073741824 * p + v2 * p + vl := by rw [hV]; grind
  have h1 : times * V ≤ times * ((v1 + 1) * (1073741824 * p)) := mul_le_l (by omega) ht
  have h2 : (times * v1 + times) * (1073741824 * p) ≤ head * (1073741824 * p) := mul_le_r (by omega) (by omega)
  have h3 : 0 ≤ u2 * p := Int.mul_nonneg hu2 (by omega)
  have e2 : U = head * (1073741824 * p) + u2 * p + ul := by rw [hU]; grind
  have e3 : times * ((v1 + 1) * (1073741824 * p)) = (times * v1 + times) * (1073741824 * p) := by grind
  omega
/-- A guess that the second digit lets stand is too great by one at most. -/
theorem knuth_short {U V p v1 v2 vl head u2 ul times left : Int} (hV : V = (v1 * 1073741824 + v2) * p + vl) (hvl0 : 0 ≤ vl) (hvl : vl < p) (hv1 : 1 ≤ v1) (hv2 : 0 ≤ v2) (hU : U = (head * 1073741824 + u2) * p + ul) (hul : 0 ≤ ul)
    (hp : 0 < p) (hh : head = times * v1 + left) (ht : 0 ≤ times) (ht2 : times < 1073741824) (h : times * v2 ≤ left * 1073741824 + u2) : (times - 1) * V ≤ U := by
  have h1 : times * vl ≤ times * p := mul_le_l (by omega) ht
  have h2 : times * v2 * p ≤ (left * 1073741824 + u2) * p := mul_le_r h (by omega)
  have h3 : times * p ≤ 1073741824 * p := mul_le_r (by omega) (by omega)
  have h4 : 1 * (1073741824 * p) ≤ v1 * (1073741824 * p) := mul_le_r hv1 (by omega)
  have h5 : 0 ≤ v2 * p := Int.mul_nonneg hv2 (by omega)
  have e0 : V = v1 * (1073741824 * p) + v2 * p + vl := by rw [hV]; grind
  have e1 : (times - 1) * V = times * v1 * 1073741824 * p + times * v2 * p + times * vl - V := by rw [hV]; grind
  have e2 : U = times * v1 * 1073741824 * p + (left * 1073741824 + u2) * p + ul := by rw [hU, hh]; grind
  omega

/-- Quotient and rest are told by what they must be. -/
theorem div_of {a b q r : Int} (h : a = q * b + r) (h0 : 0 ≤ r) (h1 : r < b) : q = a / b ∧ r = a % b := by
  have hb : 0 < b := by omega
  subst h
  rw [Int.add_comm, Int.add_mul_ediv_right _ _ (by omega), Int.ediv_eq_zero_of_lt h0 h1, Int.add_mul_emod_self_right, Int.emod_eq_of_lt h0 h1]
  omega

/-- A step from above stays above. -/
theorem newton_above {a s t : Int} (hs : 0 < s) (ht : t * t ≤ a) : t ≤ (s + a / s) / 2 := by
  have h1 : 0 ≤ (s - t) * (s - t) := by
    rcases Int.le_total 0 (s - t) with h | h
    · exact Int.mul_nonneg h h
    · have h := Int.mul_nonneg (show 0 ≤ t - s by omega) (show 0 ≤ t - s by omega)
      rwa [show (t - s) * (t - s) = (s - t) * (s - t) by grind] at h
  have e1 : (s - t) * (s - t) = t * t - (2 * t - s) * s := by grind
  have h2 : (2 * t - s) * s ≤ a := by omega
  have h3 : 2 * t - s ≤ a / s := (Int.le_ediv_iff_mul_le hs).2 h2
  omega
theorem newton_stop {a s : Int} (hs : 0 < s) (h : s ≤ (s + a / s) / 2) : s * s ≤ a := by
  have h1 : s ≤ a / s := by omega
  exact (Int.le_ediv_iff_mul_le hs).1 h1
theorem root_unique {a s t : Int} (hs : 0 ≤ s) (ht : 0 ≤ t) (h1 : s * s ≤ a) (h2 : a < (s + 1) * (s + 1)) (h3 : t * t ≤ a) (h4 : a < (t + 1) * (t + 1)) : s = t := by
  rcases Int.lt_trichotomy s t with h | h | h
  · have h5 : (s + 1) * (s + 1) ≤ t * (s + 1) := mul_le_r (show s + 1 ≤ t by omega) (show 0 ≤ s + 1 by omega)
    have h6 : t * (s + 1) ≤ t * t := mul_le_l (show s + 1 ≤ t by omega) ht
    omega
  · exact h
  · have h5 : (t + 1) * (t + 1) ≤ s * (t + 1) := mul_le_r (show t + 1 ≤ s by omega) (show 0 ≤ t + 1 by omega)
    have h6 : s * (t + 1) ≤ s * s := mul_le_l (show t + 1 ≤ s by omega) hs
    omega

/-- Euclid's steps put together (sg is 1 or -1): what they say of x and y, the heads x0 and y0. -/
structure Steps (x0 y0 x y fA fB nA nB sg : Int) : Prop where
  sgn : sg = 1 ∨ sg = -1
  ex : x = sg * (fA * x0 - fB * y0)
  ey : y = sg * (nB * y0 - nA * x0)
  det : fA * nB - fB * nA = sg
  fA0 : 0 ≤ fA
  fB0 : 0 ≤ fB
  nA0 : 0 ≤ nA
  nB1 : 1 ≤ nB
theorem Steps.back_x {x0 y0 x y fA fB nA nB sg : Int} (h : Steps x0 y0 x y fA fB nA nB sg) : nB * x + fB * y = x0 := by
  have hs := h.sgn
  rw [h.ex, h.ey]
  have hd := h.det
  rcases hs with rfl | rfl <;> grind
theorem Steps.back_y {x0 y0 x y fA fB nA nB sg : Int} (h : Steps x0 y0 x y fA fB nA nB sg) : nA * x + fA * y = y0 := by
  have hs := h.sgn
  rw [h.ex, h.ey]
  have hd := h.det
  rcases hs with rfl | rfl <;> grind
theorem Steps.start (x0 y0 : Int) : Steps x0 y0 x0 y0 1 0 0 1 1 := ⟨.inl rfl, by omega, by omega, by omega, by omega, by omega, by omega, by omega⟩
theorem Steps.step {x0 y0 x y fA fB nA nB sg : Int} (h : Steps x0 y0 x y fA fB nA nB sg) {q : Int} (hq : 1 ≤ q) :
    Steps x0 y0 y (x - q * y) nA nB (fA + q * nA) (fB + q * nB) (-sg) := by
  have h1 := Int.mul_nonneg (show 0 ≤ q by omega) h.nA0
  have h2 : 1 * nB ≤ q * nB := mul_le_r hq (by have := h.nB1; omega)
  have hf := h.fA0
  have hg := h.fB0
  have hn := h.nB1
  refine ⟨by rcases h.sgn with e | e <;> omega, ?_, ?_, ?_, h.nA0, by omega, by omega, by omega⟩
  · rw [h.ey]; grind
  · rw [h.ey, h.ex]; grind
  · have := h.det; grind
/-- What is sure of the heads is sure of the whole numbers. -/
theorem Steps.whole {x0 y0 x y fA fB nA nB sg S al be : Int} (h : Steps x0 y0 x y fA fB nA nB sg) (hS : 0 < S) (ha0 : 0 ≤ al) (ha : al < S) (hb0 : 0 ≤ be) (hb : be < S)
    (hab : nA ≤ nB) (hfb : fA ≤ fB) (hy : nB ≤ y) (hx : nB + fB ≤ x - y) :
    0 < sg * (nB * (y0 * S + be) - nA * (x0 * S + al)) ∧ sg * (nB * (y0 * S + be) - nA * (x0 * S + al)) < sg * (fA * (x0 * S + al) - fB * (y0 * S + be)) := by
  have hn := h.nB1
  have hf := h.fB0
  have k1 : nB * be ≤ nB * (S - 1) := mul_le_l (by omega) (by omega)
  have k2 : nA * al ≤ nA * (S - 1) := mul_le_l (by omega) h.nA0
  have k3 : nA * (S - 1) ≤ nB * (S - 1) := mul_le_r hab (by omega)
  have k4 : 0 ≤ nB * be := Int.mul_nonneg (by omega) hb0
  have k5 : 0 ≤ nA * al := Int.mul_nonneg h.nA0 ha0
  have k6 : nB * S ≤ y * S := mul_le_r hy (by omega)
  have k7 : (nB + fB) * S ≤ (x - y) * S := mul_le_r hx (by omega)
  have m1 : fB * be ≤ fB * (S - 1) := mul_le_l (by omega) hf
  have m2 : fA * al ≤ fA * (S - 1) := mul_le_l (by omega) h.fA0
  have m3 : fA * (S - 1) ≤ fB * (S - 1) := mul_le_r hfb (by omega)
  have m4 : 0 ≤ fB * be := Int.mul_nonneg hf hb0
  have m5 : 0 ≤ fA * al := Int.mul_nonneg h.fA0 ha0
  have ex := h.ex
  have ey := h.ey
  have e1 : nB * (y0 * S + be) - nA * (x0 * S + al) = (nB * y0 - nA * x0) * S + nB * be - nA * al := by grind
  have e2 : fA * (x0 * S + al) - fB * (y0 * S + be) = (fA * x0 - fB * y0) * S + fA * al - fB * be := by grind
  have e3 : nB * (S - 1) = nB * S - nB := by grind
  have e4 : fB * (S - 1) = fB * S - fB := by grind
  have e5 : (nB + fB) * S = nB * S + fB * S := by grind
  have e6 : (x - y) * S = x * S - y * S := by grind
  rw [e1, e2]
  rcases h.sgn with rfl | rfl
  · have e7 : (nB * y0 - nA * x0) * S = y * S := by rw [ey]; grind
    have e8 : (fA * x0 - fB * y0) * S = x * S := by rw [ex]; grind
    constructor <;> omega
  · have e7 : (nB * y0 - nA * x0) * S = - (y * S) := by rw [ey]; grind
    have e8 : (fA * x0 - fB * y0) * S = - (x * S) := by rw [ex]; grind
    constructor <;> omega
theorem gcd_comb {a b a' b' p q r s t u v w : Int} (h1 : a' = p * a + q * b) (h2 : b' = r * a + s * b) (h3 : a = t * a' + u * b') (h4 : b = v * a' + w * b') : Int.gcd a' b' = Int.gcd a b := by
  have d1 : ∀ x y z k l : Int, x ∣ y → x ∣ z → x ∣ k * y + l * z := fun x y z k l hy hz => Int.dvd_add (Int.dvd_mul_of_dvd_right hy) (Int.dvd_mul_of_dvd_right hz)
  apply Nat.dvd_antisymm
  · apply Int.dvd_gcd
    · have := d1 _ _ _ t u (Int.gcd_dvd_left a' b') (Int.gcd_dvd_right a' b'); rw [← h3] at this; exact this
    · have := d1 _ _ _ v w (Int.gcd_dvd_left a' b') (Int.gcd_dvd_right a' b'); rw [← h4] at this; exact this
  · apply Int.dvd_gcd
    · have := d1 _ _ _ p q (Int.gcd_dvd_left a b) (Int.gcd_dvd_right a b); rw [← h1] at this; exact this
    · have := d1 _ _ _ r s (Int.gcd_dvd_left a b) (Int.gcd_dvd_right a b); rw [← h2] at this; exact this
end Go.Proofs.YtcpjdgfnblkfpaaGreatDoor.M
