/-
  Plain mathematics of long division (a digit guessed from the highest ones), of square roots from above, of common divisors from the highest bits. No Go text in sight.
-/
import Derived.Test.YtbljcodhcodmkaaDoorNV
namespace Go.Proofs.YtbljcodhcodmkaaDoor.M
open Go
set_option linter.unusedSimpArgs false
set_option linter.unusedVariables false

theorem mul_le_r {a b c : Int} (h : a ≤ b) (hc : 0 ≤ c) : a * c ≤ b * c := Int.mul_le_mul_of_nonneg_right h hc
theorem mul_le_l {a b c : Int} (h : a ≤ b) (hc : 0 ≤ c) : c * a ≤ c * b := Int.mul_le_mul_of_nonneg_left h hc

/-- Euclid's steps put together (sg is 1 or -1): what they say of x and y, the heads x0 and y0. -/
structure Steps (x0 y0 x y fA fB nA nB sg : Int) : Prop where
  sgn : sg = 1 ∨ sg = -1
  ex : x = sg * (fA * x0 - fB * y0)
  ey : y = sg * (nB * y0 - nA * x0)
  det : fA * nB - fB * nA = sg
  fA0 : 0 ≤ fA
  fB0 : 0 ≤ fB
  nA0 : 0 ≤ nA
  nB1 : 1 ≤ nB
theorem Steps.start (x0 y0 : Int) : Steps x0 y0 x0 y0 1 0 0 1 1 := ⟨.inl rfl, by omega, by omega, by omega, by omega, by omega, by omega, by omega⟩
/-- What is sure of the heads is sure of the whole numbers. -/
theorem Steps.whole {x0 y0 x y fA fB nA nB sg S al be : Int} (h : Steps x0 y0 x y fA fB nA nB sg) (hS : 0 < S) (ha0 : 0 ≤ al) (ha : al < S) (hb0 : 0 ≤ be) (hb : be < S)
    (hab : nA ≤ nB) (hfb : fA ≤ fB) (hy : nB ≤ y) (hx : nB + fB ≤ x - y) :
    0 < sg * (nB * (y0 * S + be) - nA * (x0 * S + al)) ∧ sg * (nB * (y0 * S + be) - nA * (x0 * S + al)) < sg * (fA * (x0 * S + al) - fB * (y0 * S + be)) := by
  have hn := h.nB1
  have hf := h.fB0
  have k1 : nB * be ≤ nB * (S - 1) := mul_le_l (by omega) (by omega)
  have k2 : nA * al ≤ nA * (S - 1) := mul_le_l (by omega) h.nA0
  have k3 : nA * (S - 1) ≤ nB * (S - 1) := mul_le_r hab (by omega)
  have k4 : 0 ≤ nB * be := Int.mul_nonneg (by omega) hb0
  have k5 : 0 ≤ nA * al := Int.mul_nonneg h.nA0 ha0
  have k6 : nB * S ≤ y * S := mul_le_r hy (by omega)
  have k7 : (nB + fB) * S ≤ (x - y) * S := mul_le_r hx (by omega)
  have m1 : fB * be ≤ fB * (S - 1) := mul_le_l (by omega) hf
  have m2 : fA * al ≤ fA * (S - 1) := mul_le_l (by omega) h.fA0
  have m3 : fA * (S - 1) ≤ fB * (S - 1) := mul_le_r hfb (by omega)
  have m4 : 0 ≤ fB * be := Int.mul_nonneg hf hb0
  have m5 : 0 ≤ fA * al := Int.mul_nonneg h.fA0 ha0
  have ex := h.ex
  have ey := h.ey
  have e1 : nB * (y0 * S + be) - nA * (x0 * S + al) = (nB * y0 - nA * x0) * S + nB * be - nA * al := by grind
  have e2 : fA * (x0 * S + al) - fB * (y0 * S + be) = (fA * x0 - fB * y0) * S + fA * al - fB * be := by grind
  have e3 : nB * (S - 1) = nB * S - nB := by grind
  have e4 : fB * (S - 1) = fB * S - fB := by grind
  have e5 : (nB + fB) * S = nB * S + fB * S := by grind
  have e6 : (x - y) * S = x * S - y * S := by grind
  rw [e1, e2]
  rcases h.sgn with rfl | rfl
  · have e7 : (nB * y0 - nA * x0) * S = y * S := by rw [ey]; grind
    have e8 : (fA * x0 - fB * y0) * S = x * S := by rw [ex]; grind
    constructor <;> omega
  · have e7 : (nB * y0 - nA * x0) * S = - (y * S) := by rw [ey]; grind
    have e8 : (fA * x0 - fB * y0) * S = - (x * S) := by rw [ex]; grind
    constructor <;> omega
end Go.Proofs.YtbljcodhcodmkaaDoor.M
