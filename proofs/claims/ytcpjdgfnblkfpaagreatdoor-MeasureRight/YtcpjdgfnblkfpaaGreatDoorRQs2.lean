/-
  Plain mathematics: a quotient's rung, and what RoundQuots asks of it.
-/
import Derived.Test.YtcpjdgfnblkfpaaGreatDoorRQs
namespace Go.Proofs.YtcpjdgfnblkfpaaGreatDoor
open Go Go.RowKit Go.Proofs.YtcpjdgfnblkfpaaGreatDoor.M
set_option linter.unusedSimpArgs false
set_option linter.unusedVariables false

theorem pw_cross {x y u v : Int} {n : Nat} (hx : -4194304 ≤ x) (hy : -4194304 ≤ y) (hu : -4194304 ≤ u) (hv : -4194304 ≤ v) (h : x + y = u + v + n) : pw x * pw y = 2 ^ n * (pw u * pw v) := by
  unfold pw
  rw [← Int.pow_add, ← Int.pow_add, ← Int.pow_add]
  congr 1
  omega
theorem held_core1 {MA MB X Y D N mag rest : Int} (hY : Y = D * X) (hN : MA * D = N) (hd : MB * mag + rest = N) (r0 : 0 ≤ rest) (r1 : rest < MB) (hX : 0 < X) :
    mag * (MB * X) ≤ MA * Y ∧ MA * Y < (mag + 1) * (MB * X) ∧ (rest = 0 ↔ MA * Y = mag * (MB * X)) := by
  have e : MA * Y = mag * (MB * X) + rest * X := by
    rw [hY, ← Int.mul_assoc, hN, ← hd, Int.add_mul, Int.mul_comm MB mag, Int.mul_assoc]
  have e2 : (mag + 1) * (MB * X) = mag * (MB * X) + MB * X := by rw [Int.add_mul, Int.one_mul]
  have t0 : 0 ≤ rest * X := Int.mul_nonneg r0 (Int.le_of_lt hX)
  have t1 : rest * X < MB * X := Int.mul_lt_mul_of_pos_right r1 hX
  rw [e, e2]
  refine ⟨by omega, by omega, ?_⟩
  constructor
  · intro h
    rw [h, Int.zero_mul, Int.add_zero]
  · intro h
    by_cases h0 : rest = 0
    · exact h0
    · have : 0 < rest * X := Int.mul_pos (by omega) hX
      omega
theorem held_core2 {MA MB X Y D N t mag rest : Int} (hX : X = D * Y) (hN : D * N + t = MA) (t0 : 0 ≤ t) (t1 : t < D) (hd : MB * mag + rest = N) (r0 : 0 ≤ rest) (r1 : rest < MB) (hY : 0 < Y) :
    mag * (MB * X) ≤ MA * Y ∧ MA * Y < (mag + 1) * (MB * X) ∧ ((t = 0 ∧ rest = 0) ↔ MA * Y = mag * (MB * X)) := by
  have hD : 0 < D := by omega
  have e : MA * Y = mag * (MB * X) + (D * rest + t) * Y := by
    rw [← hN, ← hd, hX]
    simp only [Int.mul_add, Int.add_mul]
    have : D * (MB * mag) * Y = mag * (MB * (D * Y)) := by
      rw [Int.mul_comm MB mag, ← Int.mul_assoc D, Int.mul_comm D mag, Int.mul_assoc mag D, Int.mul_assoc mag, Int.mul_comm D MB, Int.mul_assoc MB]
    rw [this]
    omega
  have e2 : (mag + 1) * (MB * X) = mag * (MB * X) + MB * X := by rw [Int.add_mul, Int.one_mul]
  have e3 : MB * X = (D * MB) * Y := by rw [hX, ← Int.mul_assoc, Int.mul_comm MB D]
  have q0 : 0 ≤ D * rest := Int.mul_nonneg (Int.le_of_lt hD) r0
  have q1 : D * rest + t < D * MB := by
    have : D * (rest + 1) ≤ D * MB := Int.mul_le_mul_of_nonneg_left (by omega) (Int.le_of_lt hD)
    rw [Int.mul_add, Int.mul_one] at this
    omega
  have t2 : 0 ≤ (D * rest + t) * Y := Int.mul_nonneg (by omega) (Int.le_of_lt hY)
  have t3 : (D * rest + t) * Y < (D * MB) * Y := Int.mul_lt_mul_of_pos_right q1 hY
  rw [e, e2, e3]
  rw [e3] at e2
  refine ⟨by omega, by omega, ?_⟩
  constructor
  · rintro ⟨h, h'⟩
    rw [h, h', Int.mul_zero, Int.add_zero, Int.zero_mul, Int.add_zero]
  · intro h
    by_cases h0 : D * rest + t = 0
    · have h1 : D * rest = 0 := by omega
      rcases Int.mul_eq_zero.1 h1 with h2 | h2
      · omega
      · exact ⟨by omega, h2⟩
    · have : 0 < (D * rest + t) * Y := Int.mul_pos (by omega) hY
      omega
theorem scV_big {A B : Int} (hA : 0 < A) (hB : 0 < B) : 2 ^ 61 ≤ scV A (qK A B) / B := by
  have b1 := blen_pos hA
  have b2 := blen_lt B
  have b3 := blen_pos hB
  rw [Int.le_ediv_iff_mul_le hB]
  have hs : 2 ^ (61 + blen B) ≤ scV A (qK A B) := by
    unfold scV qK
    by_cases h : 0 ≤ 62 + (blen B : Int) - (blen A : Int)
    · rw [if_pos h]
      have e : (2 : Int) ^ (61 + blen B) = 2 ^ (blen A - 1) * 2 ^ (62 + (blen B : Int) - (blen A : Int)).toNat := by rw [← Int.pow_add]; congr 1; omega
      rw [e]
      exact Int.mul_le_mul_of_nonneg_right b1.2 (Int.le_of_lt (two_pos _))
    · rw [if_neg h, Int.le_ediv_iff_mul_le (two_pos _), ← Int.pow_add]
      rw [show 61 + blen B + (-(62 + (blen B : Int) - (blen A : Int))).toNat = blen A - 1 by omega]
      exact b1.2
  refine Int.le_trans ?_ hs
  rw [Int.pow_add]
  exact Int.mul_le_mul_of_nonneg_left (by omega) (by decide)
theorem held_quot {MA MB ea eb : Int} (hA : 0 ≤ MA) (hB : 0 < MB) (a0 : -1100000 ≤ ea) (a1 : ea ≤ 1100000) (b0 : -1100000 ≤ eb) (b1 : eb ≤ 1100000) (lA : blen MA ≤ 150000) (lB : blen MB ≤ 150000) :
    HeldS (MB * pw eb) (MA * (pw ea * pw 0)) (scV MA (qK MA MB) / MB).toNat (ea - eb - qK MA MB) (scC MA (qK MA MB) || decide (scV MA (qK MA MB) % MB ≠ 0)) := by
  have hsm := qK_small hA hB
  have hqk : qK MA MB = 62 + (blen MB : Int) - (blen MA : Int) := rfl
  obtain ⟨k, hk⟩ : ∃ k, qK MA MB = k := ⟨_, rfl⟩
  rw [hk] at hsm hqk ⊢
  obtain ⟨m, hm⟩ : ∃ m, scV MA k / MB = m := ⟨_, rfl⟩
  obtain ⟨r, hr⟩ : ∃ r, scV MA k % MB = r := ⟨_, rfl⟩
  have hd := Int.mul_ediv_add_emod (scV MA k) MB
  have r0 := Int.emod_nonneg (scV MA k) (show MB ≠ 0 by omega)
  have r1 := Int.emod_lt_of_pos (scV MA k) hB
  rw [hm] at hsm hd ⊢
  rw [hr] at hd r0 r1 ⊢
  obtain ⟨X, hX⟩ : ∃ X, pw (ea - eb - k) * pw eb = X := ⟨_, rfl⟩
  obtain ⟨Y, hY⟩ : ∃ Y, pw ea * pw 0 = Y := ⟨_, rfl⟩
  have hX0 : 0 < X := by rw [← hX]; exact Int.mul_pos (pw_pos _) (pw_pos _)
  have hY0 : 0 < Y := by rw [← hY]; exact Int.mul_pos (pw_pos _) (pw_pos _)
  have e1 : pw (ea - eb - k) * (MB * pw eb) = MB * X := by rw [← hX, Int.mul_comm MB, ← Int.mul_assoc, Int.mul_comm]
  unfold HeldS
  rw [e1, hY, Int.toNat_of_nonneg hsm.2.2.1]
  by_cases h : 0 ≤ k
  · have hc : Y = 2 ^ k.toNat * X := by
      rw [← hX, ← hY]
      exact pw_cross (by omega) (by decide) (by omega) (by omega) (by omega)
    have hsv : scV MA k = MA * 2 ^ k.toNat := by unfold scV; rw [if_pos h]
    have hsc : scC MA k = false := by unfold scC; rw [if_pos h]
    rw [hsc, Bool.false_or]
    obtain ⟨q1, q2, q3⟩ := held_core1 hc hsv.symm hd r0 r1 hX0
    exact ⟨q1, q2, by rw [← q3, decide_eq_false_iff_not]; constructor <;> intro h <;> omega⟩
  · have hc : X = 2 ^ (-k).toNat * Y := by
      rw [← hX, ← hY]
      exact pw_cross (by omega) (by omega) (by omega) (by decide) (by omega)
    have hsv : scV MA k = MA / 2 ^ (-k).toNat := by unfold scV; rw [if_neg h]
    have hsc : scC MA k = decide (MA % 2 ^ (-k).toNat ≠ 0) := by unfold scC; rw [if_neg h]
    have hp := two_pos (-k).toNat
    have hdd := Int.mul_ediv_add_emod MA (2 ^ (-k).toNat)
    have t0 := Int.emod_nonneg MA (show (2 : Int) ^ (-k).toNat ≠ 0 by omega)
    have t1 := Int.emod_lt_of_pos MA hp
    rw [← hsv] at hdd
    rw [hsc]
    obtain ⟨q1, q2, q3⟩ := held_core2 hc hdd t0 t1 hd r0 r1 hY0
    refine ⟨q1, q2, ?_⟩
    rw [← q3, Bool.or_eq_false_iff, decide_eq_false_iff_not, decide_eq_false_iff_not]
    constructor <;> intro h <;> omega
end Go.Proofs.YtcpjdgfnblkfpaaGreatDoor
