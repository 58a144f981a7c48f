/-
  Plain mathematics: the quotient of two floats is the exact quotient, rounded to the nearest. No Go text in sight.
-/
import Derived.Test.YtcpjdgfnblkfpaaGreatDoorRFdiv
import Derived.Test.YtcpjdgfnblkfpaaGreatDoorRQs2
namespace Go.Proofs.YtcpjdgfnblkfpaaGreatDoor
open Go Go.RowKit Go.Proofs.YtcpjdgfnblkfpaaGreatDoor.M Ieee
set_option linter.unusedSimpArgs false
set_option linter.unusedVariables false

theorem read_vS {b : Int} (hb : rng b) (hp : pok b = true) : ∃ m u : Nat, Ieee.double.read (wd b) = .number (decide (b < 0)) m (-1074 + (u : Int)) ∧ vS (rg b).toNat = (m : Int) * pw (-1074 + (u : Int)) ∧ (m = 0 ↔ rg b = 0) := by
  obtain ⟨m, u, h1, h2⟩ := read_wd hb hp
  have e := patV_dec hb hp
  rw [h2] at e
  exact ⟨m, u, h1, (sg_inj e).symm, mag_zero hb hp h2⟩
theorem quo_mag {m n : Nat} (hm : m ≠ 0) (hn : n ≠ 0) (h53 : m.log2 ≤ 53) : 9007199254740992 ≤ m * 2 ^ (54 + n.log2 - m.log2) / n := by
  have m1 := Nat.log2_self_le hm
  have n2 : n < 2 ^ (n.log2 + 1) := Nat.lt_log2_self
  have e53 : (2 : Nat) ^ 53 = 9007199254740992 := by decide
  rw [Nat.le_div_iff_mul_le (by omega)]
  have a1 : 2 ^ m.log2 * 2 ^ (54 + n.log2 - m.log2) ≤ m * 2 ^ (54 + n.log2 - m.log2) := Nat.mul_le_mul_right _ m1
  rw [← Nat.pow_add, show m.log2 + (54 + n.log2 - m.log2) = 53 + (n.log2 + 1) by omega, Nat.pow_add, e53] at a1
  have a2 : 9007199254740992 * n ≤ 9007199254740992 * 2 ^ (n.log2 + 1) := Nat.mul_le_mul_left _ (by omega)
  omega
theorem held_fdiv {m n k : Nat} {i j : Int} (hn : n ≠ 0) (hi : -1074 ≤ i) (hj : -1074 ≤ j) (he : -4194304 ≤ i - j - (k : Int)) : HeldS ((n : Int) * pw j) ((m : Int) * (pw i * pw 0)) (m * 2 ^ k / n) (i - j - (k : Int)) (decide (m * 2 ^ k % n ≠ 0)) := by
  have hc : pw i * pw 0 = 2 ^ k * (pw (i - j - (k : Int)) * pw j) := pw_cross (by omega) (by decide) he (by omega) (by omega)
  have hX : 0 < pw (i - j - (k : Int)) * pw j := Int.mul_pos (pw_pos _) (pw_pos _)
  have e1 : pw (i - j - (k : Int)) * ((n : Int) * pw j) = (n : Int) * (pw (i - j - (k : Int)) * pw j) := by rw [← Int.mul_assoc, Int.mul_comm (pw (i - j - (k : Int))), Int.mul_assoc]
  unfold HeldS
  rw [e1]
  generalize pw (i - j - (k : Int)) * pw j = X at *
  generalize pw i * pw 0 = Y at *
  have hdm := Nat.div_add_mod (m * 2 ^ k) n
  have hml := Nat.mod_lt (m * 2 ^ k) (show 0 < n by omega)
  have hd : (n : Int) * ((m * 2 ^ k / n : Nat) : Int) + ((m * 2 ^ k % n : Nat) : Int) = ((m * 2 ^ k : Nat) : Int) := by
    rw [← Int.natCast_mul, ← Int.natCast_add, hdm]
  have hN : (m : Int) * 2 ^ k = ((m * 2 ^ k : Nat) : Int) := by push_cast; rfl
  obtain ⟨q1, q2, q3⟩ := held_core1 hc hN hd (by omega) (by omega) hX
  exact ⟨q1, q2, by rw [← q3, decide_eq_false_iff_not]; constructor <;> intro h <;> omega⟩
theorem log2_fin {b : Int} {m u : Nat} (hb : rng b) (hp : pok b = true) (h : Ieee.double.read (wd b) = .number (decide (b < 0)) m (-1074 + (u : Int))) : m < 9007199254740992 ∧ u ≤ 2046 := by
  obtain ⟨h0, h1⟩ := rg_lt hb hp
  have hw : ((wd b % 9223372036854775808 : Nat) : Int) = rg b := wd_rung hb
  unfold Format.read at h
  rw [dSign, dBin, dInf, dLeast] at h
  dsimp only at h
  split at h
  · rename_i h2
    simp only [Datum.number.injEq] at h
    obtain ⟨_, h3, h4⟩ := h
    exact ⟨by omega, by omega⟩
  · rw [if_pos (by omega)] at h
    have hm := Nat.mod_lt (wd b % 9223372036854775808) (show 0 < 4503599627370496 by decide)
    have hd : wd b % 9223372036854775808 / 4503599627370496 ≤ 2047 := by omega
    simp only [Datum.number.injEq] at h
    obtain ⟨_, h3, h4⟩ := h
    exact ⟨by omega, by omega⟩
/-- The quotient of two finite floats that are not 0. -/
theorem fdiv {p q : Int} (hp : rng p) (hq : rng q) (pp : pok p = true) (pq : pok q = true) (zp : rg p ≠ 0) (zq : rg q ≠ 0) :
    ∃ (r0 : Nat) (left : Int), RungS (vS (rg q).toNat) (vS (rg p).toNat * pw 0) r0 left ∧ Ieee.double.div (wd p) (wd q) = some (wd (patS (xsg p q) (rTo 0 (xsg p q) r0 left))) := by
  obtain ⟨m, u, h1, v1, m0⟩ := read_vS hp pp
  obtain ⟨n, v, h2, v2, n0⟩ := read_vS hq pq
  obtain ⟨hm53, hu⟩ := log2_fin hp pp h1
  obtain ⟨hn53, hv⟩ := log2_fin hq pq h2
  have hm : m ≠ 0 := fun h => zp (m0.1 h)
  have hn : n ≠ 0 := fun h => zq (n0.1 h)
  have e53 : (2 : Nat) ^ 53 = 9007199254740992 := by decide
  have lm : m.log2 < 53 := (Nat.log2_lt hm).2 (by rw [e53]; exact hm53)
  have ln : n.log2 < 53 := (Nat.log2_lt hn).2 (by rw [e53]; exact hn53)
  obtain ⟨k, hk⟩ : ∃ k, 54 + n.log2 - m.log2 = k := ⟨_, rfl⟩
  have hdiv : Ieee.double.div (wd p) (wd q) = some (Ieee.double.nearest (xsg p q) (2 * (m * 2 ^ k / n) + (decide (m * 2 ^ k % n ≠ 0)).toNat) (-1074 + (u : Int) - (-1074 + (v : Int)) - (k : Int) - 1)) := by
    unfold Format.div
    rw [h1, h2, dFrac]
    unfold Datum.quotient
    dsimp only
    rw [if_neg hn, show 52 + 2 + n.log2 - m.log2 = k by omega, Nat.shiftLeft_eq, xor_ne]
    have eb : (m * 2 ^ k % n != 0) = decide (m * 2 ^ k % n ≠ 0) := by
      by_cases hz : m * 2 ^ k % n = 0
      · rw [hz]; rfl
      · rw [decide_eq_true hz]; simpa using hz
    rw [eb]
    rfl
  have hmag := quo_mag hm hn (by omega)
  rw [hk] at hmag
  obtain ⟨r0, left, hR, hE⟩ := nearest_cut (xsg p q) (mag := m * 2 ^ k / n) (exp := -1074 + (u : Int) - (-1074 + (v : Int)) - (k : Int)) (decide (m * 2 ^ k % n ≠ 0)) hmag (by omega)
  have hS : 0 < (n : Int) * pw (-1074 + (v : Int)) := Int.mul_pos (by omega) (pw_pos _)
  have hH := held_fdiv (m := m) (k := k) (i := -1074 + (u : Int)) (j := -1074 + (v : Int)) hn (by omega) (by omega) (by omega)
  refine ⟨r0, left, ?_, ?_⟩
  · rw [v1, v2, Int.mul_assoc]
    exact hR _ _ hS hH
  · rw [hdiv, hE]
    obtain ⟨g1, g2⟩ := rTo_range 0 (xsg p q) r0 left
    rw [wd_word g1 g2]
end Go.Proofs.YtcpjdgfnblkfpaaGreatDoor
