/-
  Plain mathematics: the nearest word of a number of which the last digit tells that something was cut off. No Go text in sight.
-/
import Derived.Test.YtcpjdgfnblkfpaaGreatDoorRFw4
import Derived.Test.YtcpjdgfnblkfpaaGreatDoorRQs
namespace Go.Proofs.YtcpjdgfnblkfpaaGreatDoor
open Go Go.RowKit Go.Proofs.YtcpjdgfnblkfpaaGreatDoor.M Ieee
set_option linter.unusedSimpArgs false
set_option linter.unusedVariables false

theorem lef_rL {mag s : Nat} (hs : 0 < s) (cut : Bool) : lefN ((2 * mag + cut.toNat) % 2 ^ (s + 1)) (2 ^ (s + 1)) = rL mag cut (s : Int) ∧ (2 * mag + cut.toNat) / 2 ^ (s + 1) = mag / 2 ^ s := by
  obtain ⟨k, hk, hk0⟩ := two_half s hs
  have hp : 2 ^ (s + 1) = 2 * 2 ^ s := by rw [Nat.pow_succ, Nat.mul_comm]
  have hdm := Nat.div_add_mod mag (2 ^ s)
  have hml := Nat.mod_lt mag (Nat.two_pow_pos s)
  have hc : cut.toNat = 0 ∨ cut.toNat = 1 := by cases cut <;> simp
  obtain ⟨u, hu⟩ : ∃ u, mag / 2 ^ s = u := ⟨_, rfl⟩
  obtain ⟨t, ht⟩ : ∃ t, mag % 2 ^ s = t := ⟨_, rfl⟩
  rw [hu, ht] at hdm
  rw [ht] at hml
  have e : 2 * mag + cut.toNat = 2 ^ (s + 1) * u + (2 * t + cut.toNat) := by
    rw [hp, ← hdm, Nat.mul_add, Nat.mul_assoc]; omega
  have hlt : 2 * t + cut.toNat < 2 ^ (s + 1) := by rw [hp]; omega
  have q1 : (2 * mag + cut.toNat) % 2 ^ (s + 1) = 2 * t + cut.toNat := by rw [e, Nat.mul_add_mod]; exact Nat.mod_eq_of_lt hlt
  have q2 : (2 * mag + cut.toNat) / 2 ^ (s + 1) = u := by
    rw [e, Nat.mul_add_div (Nat.two_pow_pos _), Nat.div_eq_of_lt hlt, Nat.add_zero]
  refine ⟨?_, by rw [q2, hu]⟩
  rw [q1, hp]
  unfold lefN rL
  rw [Int.toNat_natCast, ht, hk, if_neg (show ¬ (s : Int) ≤ 0 by omega)]
  clear e hlt q1 q2 hdm hu hc
  cases cut
  · simp only [Bool.toNat_false, Nat.add_zero, and_true]
    repeat' split
    all_goals first | rfl | (exfalso; omega)
  · simp only [Bool.toNat_true, Bool.true_eq_false, and_false, if_false]
    repeat' split
    all_goals first | rfl | (exfalso; omega)
theorem log2_twice {mag c : Nat} (h : mag ≠ 0) (hc : c ≤ 1) : (2 * mag + c).log2 = mag.log2 + 1 := by
  have h1 := Nat.log2_self_le h
  have h2 : mag < 2 ^ (mag.log2 + 1) := Nat.lt_log2_self
  have a1 : 2 ^ (mag.log2 + 1) ≤ 2 * mag + c := by rw [Nat.pow_succ]; omega
  have a2 : 2 * mag + c < 2 ^ (mag.log2 + 1 + 1) := by rw [Nat.pow_succ 2 (mag.log2 + 1)]; omega
  have b1 := (Nat.le_log2 (by omega)).2 a1
  have b2 := (Nat.log2_lt (by omega)).2 a2
  omega
/-- The nearest word, where the last digit tells that something was cut off: the rung of all that is so held. -/
theorem nearest_cut (neg : Bool) {mag : Nat} {exp : Int} (cut : Bool) (h : 9007199254740992 ≤ mag) (hp : -4194303 ≤ exp) :
    ∃ (r0 : Nat) (left : Int), (∀ S A : Int, 0 < S → HeldS S A mag exp cut → RungS S A r0 left) ∧ Ieee.double.nearest neg (2 * mag + cut.toNat) (exp - 1) = Ieee.double.word neg (rTo 0 neg r0 left).toNat := by
  have hc : cut.toNat ≤ 1 := by cases cut <;> simp
  have hm0 : mag ≠ 0 := by omega
  have hM : 2 * mag + cut.toNat ≠ 0 := by omega
  rw [nearest_word neg (exp - 1) hM]
  have h1 := Nat.log2_self_le hm0
  have h2 : mag < 2 ^ (mag.log2 + 1) := Nat.lt_log2_self
  have e52 : (2 : Nat) ^ 52 = 4503599627370496 := by decide
  have e53 : (2 : Nat) ^ 53 = 9007199254740992 := by decide
  have hL53 : 53 ≤ mag.log2 := (Nat.le_log2 hm0).2 (by rw [e53]; exact h)
  have hL : lastP (2 * mag + cut.toNat) (exp - 1) = max (exp + (mag.log2 : Int) - 52) (-1074) := by
    unfold lastP
    rw [log2_twice hm0 hc]
    congr 1
    push_cast
    omega
  obtain ⟨l, hl⟩ : ∃ l, lastP (2 * mag + cut.toNat) (exp - 1) = l := ⟨_, rfl⟩
  rw [hl] at hL ⊢
  have hl0 : -1074 ≤ l := by omega
  have hl1 : exp + (mag.log2 : Int) - 52 ≤ l := by omega
  have hl2 : -1074 < l → l = exp + (mag.log2 : Int) - 52 := by omega
  obtain ⟨a, ha⟩ : ∃ a : Nat, (l + 1074).toNat = a := ⟨_, rfl⟩
  have hal : l = -1074 + (a : Int) := by omega
  obtain ⟨s, hs⟩ : ∃ s : Nat, l - exp = (s : Int) := ⟨(l - exp).toNat, by omega⟩
  have hs0 : 0 < s := by omega
  have hD := Nat.two_pow_pos s
  rw [ha, show (exp - 1 - l).toNat = 0 by omega, show (l - (exp - 1)).toNat = s + 1 by omega, Nat.pow_zero, Nat.mul_one, cut_even neg _ _ hM]
  obtain ⟨g1, g2⟩ := lef_rL (mag := mag) hs0 cut
  rw [g1, g2]
  have hu1 : mag / 2 ^ s < 9007199254740992 := by
    rw [Nat.div_lt_iff_lt_mul hD, ← e53, ← Nat.pow_add]
    exact Nat.lt_of_lt_of_le h2 (Nat.pow_le_pow_right (by decide) (by omega))
  have hu2 : 0 < a → 4503599627370496 ≤ mag / 2 ^ s := fun h0 => by
    rw [Nat.le_div_iff_mul_le hD, ← e52, ← Nat.pow_add]
    exact Nat.le_trans (Nat.pow_le_pow_right (by decide) (by have := hl2 (by omega); omega)) h1
  have hV := V_rung Ieee.double a (mag / 2 ^ s) (by rw [dBin]; omega) (fun q => by rw [dBin]; exact hu2 q)
  rw [dBin] at hV
  have hpw : pw l = 2 ^ a * pw (-1074) := by rw [hal, pw_add (by decide), Int.mul_comm]
  refine ⟨a * 4503599627370496 + mag / 2 ^ s, rL mag cut (s : Int), fun S A hS hA => ?_, ?_⟩
  · have hLeft := left_ofS hS hA (e := l) (fun _ => by omega) (by omega) (by omega)
    rw [hs] at hLeft
    have hrU : rU mag (s : Int) = mag / 2 ^ s := by unfold rU; rw [if_neg (by omega), Int.toNat_natCast]
    rw [hrU, hpw] at hLeft
    exact left_rungS hLeft hV.1 hV.2
  · have hm := minInf (r := a * 4503599627370496 + mag / 2 ^ s) (neg := neg) (left := rL mag cut (s : Int)) rfl
    rw [odd_rung] at hm
    rw [← hm, Int.toNat_natCast, Nat.add_assoc]
end Go.Proofs.YtcpjdgfnblkfpaaGreatDoor
