/-
  Package plumbref3: Add, by its contract: a sum of numbers within bounds.
-/
import Derived.Test.YtcpjdgfnblkfpaaGreatDoorDRef4
import Derived.Test.YtcpjdgfnblkfpaaGreatDoorDBd
import Derived.Test.YtcpjdgfnblkfpaaGreatDoorDRef7
namespace Go.Proofs.YtcpjdgfnblkfpaaGreatDoor
open Go Go.RowKit Go.Proofs.YtcpjdgfnblkfpaaGreatDoor.M
set_option linter.unusedSimpArgs false
set_option linter.unusedVariables false

/-- The form of a number within bounds. -/
theorem bd_form {K : Nat} {A : Int} {ng : Bool} {m e : Int} (h : Bd K A) (hy : Dy A ng m e) (hK : K ≤ 4194304) (h0 : 0 < m) : -(K : Int) ≤ e ∧ e ≤ K ∧ m * 2 ^ (e + K).toNat < 2 ^ (2 * K) := by
  obtain ⟨c, hc, c1, c2⟩ := h
  have key : ∀ (b : Bool) (C : Int), 0 < C → C < 2 ^ (2 * K) → A = sg b C * pw (-(K : Int)) → -(K : Int) ≤ e ∧ e ≤ K ∧ m * 2 ^ (e + K).toNat < 2 ^ (2 * K) := fun b C hC hlt hA => by
    obtain ⟨l, hl⟩ := isLow_ex hC
    have hy2 := Dy.of b hl hC (show -4194304 ≤ -(K : Int) by omega)
    rw [← hA] at hy2
    obtain ⟨_, rfl, rfl⟩ := hy.unique hy2
    obtain ⟨d1, d2, d3⟩ := isLow_odd hl hC
    have hl2 : l < 2 * K := by
      have h3 : (1 : Int) * 2 ^ l ≤ C / 2 ^ l * 2 ^ l := Int.mul_le_mul_of_nonneg_right (by omega) (Int.le_of_lt (two_pos l))
      rw [d3] at h3
      exact two_lt_iff (by omega)
    refine ⟨by omega, by omega, ?_⟩
    rw [show (-(K : Int) + l + K).toNat = l by omega, d3]
    exact hlt
  by_cases hz : c = 0
  · exfalso
    rw [hz, Int.zero_mul] at hc
    have := hy.eq_zero.1 hc
    omega
  · by_cases hp : 0 < c
    · exact key false c hp c2 (by simpa [sg] using hc)
    · exact key true (-c) (by omega) (by omega) (by simpa [sg] using hc)
theorem bd_shift {K : Nat} {A : Int} {ng : Bool} {m e low : Int} (h : Bd K A) (hy : Dy A ng m e) (hK : K ≤ 4194304) (h0 : 0 < m) (h1 : -(K : Int) ≤ low) (h2 : low ≤ e) : m * 2 ^ (e - low).toNat < 2 ^ (2 * K) := by
  obtain ⟨a, b, c⟩ := bd_form h hy hK h0
  have h3 : (2 : Int) ^ (e - low).toNat ≤ 2 ^ (e + K).toNat := two_le (by omega)
  have h4 : m * 2 ^ (e - low).toNat ≤ m * 2 ^ (e + K).toNat := Int.mul_le_mul_of_nonneg_left h3 (by omega)
  omega
theorem bd_self {K : Nat} {A : Int} {ng : Bool} {m e : Int} (h : Bd K A) (hy : Dy A ng m e) (hK : K ≤ 4194304) (h0 : 0 < m) : m < 2 ^ (2 * K) := by
  obtain ⟨a, b, c⟩ := bd_form h hy hK h0
  have h3 : (1 : Int) ≤ 2 ^ (e + K).toNat := two_pos _
  have h4 : m * 1 ≤ m * 2 ^ (e + K).toNat := Int.mul_le_mul_of_nonneg_left h3 (by omega)
  omega
theorem bd_digits {K : Nat} {d : Nat → Int} {n : Nat} (hK : K ≤ 560000) (hN : Nrm d n) (h : val d n < 2 ^ (2 * K)) : n ≤ 37400 := by
  by_cases h1 : n ≤ 37400
  · exact h1
  · exfalso
    have a := val_top hN.1 (by omega) hN.2
    have b := P_le (show 37400 ≤ n - 1 by omega)
    have c : (2 : Int) ^ (2 * K) ≤ 2 ^ (30 * 37400) := two_le (by omega)
    rw [← P_two] at c
    generalize P 37400 = Y at *
    omega
/-- A sum: its own, or one of the two where the other is 0. -/
def RSum (w w' : World) (A B : Int) (x y v : Value) : Prop := Below w.heap.size w w' ∧ (DAns w w' (A + B) v ∨ (A = 0 ∧ v = y) ∨ (B = 0 ∧ v = x))
theorem RSum.num {w w' : World} {A B : Int} {x y v : Value} (h : RSum w w' A B x y v) (hx : DNum w x A) (hy : DNum w y B) : DNum w' v (A + B) := by
  rcases h.2 with h1 | ⟨rfl, rfl⟩ | ⟨rfl, rfl⟩
  · exact h1.num
  · rw [Int.zero_add]; exact hy.keeps h.1
  · rw [Int.add_zero]; exact hx.keeps h.1
/-- Two numbers brought to one exponent. -/
theorem rsum_V {an bn : Bool} {A B low : Int} {ng : Bool} {M : Int} (h : (an = bn ∧ ng = an ∧ M = A + B) ∨ (an ≠ bn ∧ B ≤ A ∧ ng = an ∧ M = A - B) ∨ (an ≠ bn ∧ A < B ∧ ng = bn ∧ M = B - A)) :
    sg ng M * pw low = sg an A * pw low + sg bn B * pw low := by
  rw [← Int.add_mul]
  congr 1
  rcases h with ⟨rfl, rfl, rfl⟩ | ⟨h1, h2, rfl, rfl⟩ | ⟨h1, h2, rfl, rfl⟩
  · cases ng <;> simp [sg] <;> omega
  · cases ng <;> cases bn <;> simp [sg] at * <;> omega
  · cases an <;> cases ng <;> simp [sg] at * <;> omega
theorem Num.digits {w : World} {so : Option Addr} {sn sc : Nat} {M : Int} (h : Num w (.slice so sn sc) M) {K : Nat} (hK : K ≤ 560000) (hM : M < 2 ^ (2 * K) + 2 ^ (2 * K)) : ∃ d, Row w so sn sc d ∧ Nrm d sn ∧ val d sn = M ∧ sn ≤ 37500 := by
  obtain ⟨ao, n, ca, d, e, hR, hN, hv⟩ := h
  simp only [Value.slice.injEq] at e
  obtain ⟨rfl, rfl, rfl⟩ := e
  refine ⟨d, hR, hN, hv, ?_⟩
  by_cases h1 : sn ≤ 37500
  · exact h1
  · exfalso
    have a := val_top hN.1 (by omega) hN.2
    have b := P_le (show 37500 ≤ sn - 1 by omega)
    have c : (2 : Int) ^ (2 * K) ≤ 2 ^ (30 * 37400) := two_le (by omega)
    have c2 : (2 : Int) ^ (30 * 37400) * 2 ≤ 2 ^ (30 * 37500) := by
      rw [← Int.pow_succ]
      exact two_le (by omega)
    rw [← P_two 37500] at c2
    generalize P 37500 = Y at *
    generalize (2 : Int) ^ (30 * 37400) = Z at *
    omega
end Go.Proofs.YtcpjdgfnblkfpaaGreatDoor
