/-
  Plain mathematics: the nearest word is the nearest rung's. No Go text in sight.
-/
import Derived.Test.YtcpjdgfnblkfpaaGreatDoorRIeee
namespace Go.Proofs.YtcpjdgfnblkfpaaGreatDoor
open Go Go.RowKit Go.Proofs.YtcpjdgfnblkfpaaGreatDoor.M Ieee
set_option linter.unusedSimpArgs false
set_option linter.unusedVariables false

theorem dLeast : Ieee.double.leastPlace = -1074 := by decide
theorem dFrac : Ieee.double.fractionBits = 52 := by decide
theorem dBin : Ieee.double.binade = 4503599627370496 := by decide
/-- The last place that is kept. -/
def lastP (mag : Nat) (place : Int) : Int := max (place + (mag.log2 : Int) - 52) (-1074)
theorem nearest_word (neg : Bool) {mag : Nat} (place : Int) (h : mag ≠ 0) : Ieee.double.nearest neg mag place = Ieee.double.word neg (min ((lastP mag place + 1074).toNat * 4503599627370496 + Toward.even.cut neg (mag * 2 ^ (place - lastP mag place).toNat) (lastP mag place - place).toNat) 9218868437227405312) := by
  unfold Format.nearest
  rw [if_neg h, dLeast, dFrac, dBin, dInf]
  dsimp only
  rw [Nat.shiftLeft_eq, show (lastP mag place + 1074) = (lastP mag place - -1074) by omega]
  rfl
theorem minInf {r : Nat} {up : Bool} {neg : Bool} {left : Int} (hup : rUp 0 neg (decide (r % 2 = 1)) left = up) : ((min (r + (if up = true then 1 else 0)) 9218868437227405312 : Nat) : Int) = rTo 0 neg r left := by
  unfold rTo
  rw [hup]
  by_cases h : (r : Int) < 9218868437227405312
  · rw [if_pos h]
    cases up
    · simp only [Bool.false_eq_true, if_false]; omega
    · simp only [if_true]; omega
  · rw [if_neg h]
    have hb : bRung 0 neg = 9218868437227405312 := by cases neg <;> rfl
    rw [hb]
    split <;> omega
theorem odd_rung (a u : Nat) : decide ((a * 4503599627370496 + u) % 2 = 1) = decide (u % 2 = 1) := by congr 1; apply propext; omega
/-- The nearest word, by the number's rung. -/
theorem nearest_rung (neg : Bool) {mag : Nat} {place : Int} (h : mag ≠ 0) (hp : -4194304 ≤ place) :
    ∃ (r0 : Nat) (left : Int), Rung ((mag : Int) * pw place) r0 left ∧ Ieee.double.nearest neg mag place = Ieee.double.word neg (rTo 0 neg r0 left).toNat := by
  rw [nearest_word neg place h]
  have h1 := Nat.log2_self_le h
  have h2 : mag < 2 ^ (mag.log2 + 1) := Nat.lt_log2_self
  have hL : lastP mag place = max (place + (mag.log2 : Int) - 52) (-1074) := rfl
  obtain ⟨l, hl⟩ : ∃ l, lastP mag place = l := ⟨_, rfl⟩
  rw [hl] at hL ⊢
  have hl0 : -1074 ≤ l := by omega
  have hl1 : place + (mag.log2 : Int) - 52 ≤ l := by omega
  have hl2 : -1074 < l → l = place + (mag.log2 : Int) - 52 := by omega
  obtain ⟨a, ha⟩ : ∃ a : Nat, (l + 1074).toNat = a := ⟨_, rfl⟩
  have hal : l = -1074 + (a : Int) := by omega
  have e52 : (2 : Nat) ^ 52 = 4503599627370496 := by decide
  have e53 : (2 : Nat) ^ 53 = 9007199254740992 := by decide
  rw [ha]
  -- u units of 2^l and what is left
  have main : ∃ (u : Nat) (left : Int), M.Left ((mag : Int) * pw place) u (pw l) left ∧ Toward.even.cut neg (mag * 2 ^ (place - l).toNat) (l - place).toNat = u + (if rUp 0 neg (decide (u % 2 = 1)) left then 1 else 0) ∧ u < 9007199254740992 ∧ (0 < a → 4503599627370496 ≤ u) := by
    by_cases hs : l ≤ place
    · obtain ⟨k, hk⟩ : ∃ k : Nat, (place - l).toNat = k := ⟨_, rfl⟩
      have hpl : place = l + (k : Int) := by omega
      rw [hk, show (l - place).toNat = 0 by omega, cut_zero]
      refine ⟨mag * 2 ^ k, 0, ?_, ?_, ?_, ?_⟩
      · have e : (mag : Int) * pw place = ((mag * 2 ^ k : Nat) : Int) * pw l := by
          rw [hpl, pw_add (by omega), Int.mul_comm (pw l)]
          push_cast
          rw [Int.mul_assoc]
        have := left_nat (mag := mag * 2 ^ k) (u := mag * 2 ^ k) (t := 0) (D := 1) (pw_pos l) (by omega) (by decide)
        rw [e]
        have e1 : ((1 : Nat) : Int) * pw l = pw l := by rw [Int.natCast_one, Int.one_mul]
        rw [e1] at this
        exact this
      · have : rUp 0 neg (decide (mag * 2 ^ k % 2 = 1)) 0 = false := by
          cases hu : rUp 0 neg (decide (mag * 2 ^ k % 2 = 1)) 0
          · rfl
          · exact (rUp_left hu).elim
        rw [this]
        rfl
      · have b1 : mag * 2 ^ k < 2 ^ (mag.log2 + 1) * 2 ^ k := Nat.mul_lt_mul_of_pos_right h2 (Nat.two_pow_pos _)
        rw [← Nat.pow_add] at b1
        have b2 : 2 ^ (mag.log2 + 1 + k) ≤ 2 ^ 53 := Nat.pow_le_pow_right (by decide) (by omega)
        omega
      · intro h0
        have b1 : 2 ^ mag.log2 * 2 ^ k ≤ mag * 2 ^ k := Nat.mul_le_mul_right _ h1
        rw [← Nat.pow_add] at b1
        have b2 : 2 ^ 52 ≤ 2 ^ (mag.log2 + k) := Nat.pow_le_pow_right (by decide) (by have := hl2 (by omega); omega)
        omega
    · obtain ⟨k, hk⟩ : ∃ k : Nat, (l - place).toNat = k := ⟨_, rfl⟩
      have hpl : l = place + (k : Int) := by omega
      rw [hk, show (place - l).toNat = 0 by omega, Nat.pow_zero, Nat.mul_one, cut_even neg mag k h]
      have hD := Nat.two_pow_pos k
      have hdm := Nat.div_add_mod mag (2 ^ k)
      have hml := Nat.mod_lt mag hD
      refine ⟨mag / 2 ^ k, lefN (mag % 2 ^ k) (2 ^ k), ?_, rfl, ?_, ?_⟩
      · have := left_nat (mag := mag) (u := mag / 2 ^ k) (t := mag % 2 ^ k) (D := 2 ^ k) (pw_pos place) (by rw [Nat.mul_comm]; exact hdm.symm) hml
        have e : pw l = ((2 ^ k : Nat) : Int) * pw place := by
          rw [hpl, pw_add hp, Int.mul_comm]
          push_cast
          rfl
        rw [e]
        exact this
      · rw [Nat.div_lt_iff_lt_mul hD, ← e53, ← Nat.pow_add]
        exact Nat.lt_of_lt_of_le h2 (Nat.pow_le_pow_right (by decide) (by omega))
      · intro h0
        rw [Nat.le_div_iff_mul_le hD, ← e52, ← Nat.pow_add]
        exact Nat.le_trans (Nat.pow_le_pow_right (by decide) (by have := hl2 (by omega); omega)) h1
  obtain ⟨u, left, hLeft, hcut, hu1, hu2⟩ := main
  rw [hcut]
  have hV := V_rung Ieee.double a u (by rw [dBin]; omega) (fun q => by rw [dBin]; exact hu2 q)
  rw [dBin] at hV
  have hpw : pw l = 2 ^ a * pw (-1074) := by rw [hal, pw_add (by decide), Int.mul_comm]
  rw [hpw] at hLeft
  refine ⟨a * 4503599627370496 + u, left, left_rung hLeft hV.1 hV.2, ?_⟩
  have hm := minInf (r := a * 4503599627370496 + u) (neg := neg) (left := left) rfl
  rw [odd_rung] at hm
  rw [← hm, Int.toNat_natCast, Nat.add_assoc]
end Go.Proofs.YtcpjdgfnblkfpaaGreatDoor
