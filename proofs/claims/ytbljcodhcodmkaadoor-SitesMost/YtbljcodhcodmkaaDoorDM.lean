/-
  Plain mathematics of exact numbers: a number is told by one whole number V, its value times 2^LL, whatever its exponent; its one form (a sign, an odd number, an exponent) hangs on V alone. No Go text in sight.
-/
import Derived.Test.YtbljcodhcodmkaaDoorNShM
namespace Go.Proofs.YtbljcodhcodmkaaDoor.M
open Go
set_option linter.unusedSimpArgs false
set_option linter.unusedVariables false

def LL : Nat := 4194304
/-- 2^e in the scale. -/
def pw (e : Int) : Int := 2 ^ (e + 4194304).toNat
def sg (b : Bool) (x : Int) : Int := if b then -x else x
theorem pw_pos (e : Int) : 0 < pw e := two_pos _
theorem pw_add {e : Int} (h : -4194304 ≤ e) (l : Nat) : pw (e + l) = pw e * 2 ^ l := by
  unfold pw
  rw [show (e + l + 4194304).toNat = (e + 4194304).toNat + l by omega, Int.pow_add]
theorem pw_sub {e low : Int} (h : -4194304 ≤ low) (h1 : low ≤ e) : pw e = 2 ^ (e - low).toNat * pw low := by
  have := pw_add h (e - low).toNat
  rw [show low + ((e - low).toNat : Int) = e by omega] at this
  rw [this, Int.mul_comm]
theorem sg_sgn (b : Bool) (x : Int) : sg b x = (if b then -1 else 1) * x := by cases b <;> simp [sg]
theorem sg_not (b : Bool) (x : Int) : sg (!b) x = -sg b x := by cases b <;> simp [sg]
theorem sg_zero (b : Bool) : sg b 0 = 0 := by cases b <;> rfl
theorem sg_eq_zero {b : Bool} {x : Int} (h : sg b x = 0) : x = 0 := by cases b <;> simp [sg] at h <;> exact h

/-- The one form of V: sign, odd number, exponent. -/
structure Dy (V : Int) (ng : Bool) (m e : Int) : Prop where
  val : V = sg ng m * pw e
  low : -4194304 ≤ e
  form : (m = 0 ∧ ng = false ∧ e = 0) ∨ (0 < m ∧ m % 2 = 1)
/-- V has a valid form. -/
def Dok (V : Int) : Prop := ∃ ng m e, Dy V ng m e ∧ m < P 2000 ∧ -1048576 ≤ e ∧ e ≤ 1048576
theorem Dy.zero : Dy 0 false 0 0 := ⟨by simp [sg], by decide, .inl ⟨rfl, rfl, rfl⟩⟩
theorem Dy.eq_zero {V : Int} {ng : Bool} {m e : Int} (h : Dy V ng m e) : V = 0 ↔ m = 0 := by
  constructor
  · intro h0
    have := h.val
    rw [h0] at this
    rcases Int.mul_eq_zero.1 this.symm with h1 | h1
    · exact sg_eq_zero h1
    · have := pw_pos e; omega
  · intro h0
    rw [h.val, h0, sg_zero, Int.zero_mul]
theorem Dy.neg_iff {V : Int} {ng : Bool} {m e : Int} (h : Dy V ng m e) : ng = true ↔ V < 0 := by
  have hp := pw_pos e
  rcases h.form with ⟨h1, h2, h3⟩ | ⟨h1, _⟩
  · have := h.eq_zero.2 h1; simp [h2]; omega
  · have hm : 0 < m * pw e := Int.mul_pos h1 hp
    have := h.val
    cases ng
    · simp [sg] at this; simp; omega
    · simp [sg, Int.neg_mul] at this; simp; omega
theorem odd_pow {m m' : Int} {a b : Nat} (h : m % 2 = 1) (h' : m' % 2 = 1) (e : m * 2 ^ a = m' * 2 ^ b) : ¬ a < b := by
  intro hlt
  obtain ⟨d, rfl⟩ : ∃ d, b = a + 1 + d := ⟨b - a - 1, by omega⟩
  rw [Int.pow_add, Int.pow_add] at e
  have e1 : m * 2 ^ a = (m' * (2 ^ d * 2)) * 2 ^ a := by rw [e]; grind
  have e2 := Int.eq_of_mul_eq_mul_right (Int.ne_of_gt (two_pos a)) e1
  rw [show m' * (2 ^ d * 2) = 2 * (m' * 2 ^ d) by grind] at e2
  omega
/-- V has one form. -/
theorem Dy.unique {V : Int} {ng ng' : Bool} {m m' e e' : Int} (h : Dy V ng m e) (k : Dy V ng' m' e') : ng = ng' ∧ m = m' ∧ e = e' := by
  have hn : ng = ng' := by
    have a := h.neg_iff
    have b := k.neg_iff
    cases ng <;> cases ng' <;> simp_all <;> omega
  subst hn
  rcases h.form with ⟨h1, h2, h3⟩ | ⟨h1, h2⟩
  · have h0 := k.eq_zero.1 (h.eq_zero.2 h1)
    rcases k.form with ⟨k1, k2, k3⟩ | ⟨k1, k2⟩
    · exact ⟨rfl, by omega, by omega⟩
    · omega
  · rcases k.form with ⟨k1, k2, k3⟩ | ⟨k1, k2⟩
    · have := h.eq_zero.1 (k.eq_zero.2 k1); omega
    · have e1 : m * pw e = m' * pw e' := by
        have := h.val.symm.trans k.val
        cases ng
        · simpa [sg] using this
        · simpa [sg, Int.neg_mul] using this
      have a1 := odd_pow h2 k2 e1
      have a2 := odd_pow k2 h2 e1.symm
      have l1 := h.low
      have l2 := k.low
      obtain rfl : e = e' := by omega
      exact ⟨rfl, Int.eq_of_mul_eq_mul_right (Int.ne_of_gt (pw_pos _)) e1, rfl⟩
theorem Dy.ok {V : Int} {ng : Bool} {m e : Int} (h : Dy V ng m e) : Dok V ↔ m < P 2000 ∧ -1048576 ≤ e ∧ e ≤ 1048576 := by
  constructor
  · rintro ⟨ng', m', e', k, h3⟩
    obtain ⟨_, rfl, rfl⟩ := h.unique k
    exact h3
  · exact fun h3 => ⟨_, _, _, h, h3⟩
theorem Dy.neg {V : Int} {ng : Bool} {m e : Int} (h : Dy V ng m e) (h0 : 0 < m) : Dy (-V) (!ng) m e :=
  ⟨by rw [sg_not, Int.neg_mul, ← h.val], h.low, by rcases h.form with ⟨h1, _⟩ | h1; (· omega); (· exact .inr h1)⟩
theorem isLow_odd {M : Int} {l : Nat} (h : IsLow M l) (h0 : 0 < M) : 0 < M / 2 ^ l ∧ (M / 2 ^ l) % 2 = 1 ∧ M / 2 ^ l * 2 ^ l = M := by
  obtain ⟨k, hk⟩ := h
  have hp := two_pos l
  have e : M / 2 ^ l = 2 * k + 1 := by rw [hk]; exact Int.mul_ediv_cancel _ (by omega)
  rw [e]
  refine ⟨?_, by omega, hk.symm⟩
  by_cases h1 : 0 < 2 * k + 1
  · exact h1
  · have : (2 * k + 1) * 2 ^ l ≤ 0 := Int.mul_nonpos_of_nonpos_of_nonneg (by omega) (by omega)
    omega
/-- The form of a number that may be even. -/
theorem Dy.of {M e : Int} {l : Nat} (ng : Bool) (h : IsLow M l) (h0 : 0 < M) (he : -4194304 ≤ e) : Dy (sg ng M * pw e) ng (M / 2 ^ l) (e + l) := by
  obtain ⟨a, b, c⟩ := isLow_odd h h0
  refine ⟨?_, by omega, .inr ⟨a, b⟩⟩
  rw [pw_add he, sg_sgn, sg_sgn]
  rw [show (if ng = true then (-1 : Int) else 1) * (M / 2 ^ l) * (pw e * 2 ^ l) = (if ng = true then (-1 : Int) else 1) * (M / 2 ^ l * 2 ^ l) * pw e by grind, c]
/-- Brought to a lower exponent. -/
theorem Dy.at {V : Int} {ng : Bool} {m e low : Int} (h : Dy V ng m e) (hl : -4194304 ≤ low) (h1 : low ≤ e) : V = sg ng (m * 2 ^ (e - low).toNat) * pw low := by
  rw [h.val, pw_sub hl h1, sg_sgn, sg_sgn]; grind
end Go.Proofs.YtbljcodhcodmkaaDoor.M
