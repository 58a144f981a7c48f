/-
  Plain mathematics: what the model's floats are rounded to, by rungs. No Go text in sight.
-/
import Derived.Test.YtcpjdgfnblkfpaaGreatDoorRNear
import Derived.Test.YtcpjdgfnblkfpaaGreatDoorMathW
namespace Go.Proofs.YtcpjdgfnblkfpaaGreatDoor
open Go Go.RowKit Go.Proofs.YtcpjdgfnblkfpaaGreatDoor.M Ieee
set_option linter.unusedSimpArgs false
set_option linter.unusedVariables false

/-- What is left of t in D units. -/
def lefN (t D : Nat) : Int := if t = 0 then 0 else if 2 * t < D then 1 else if 2 * t = D then 2 else 3
theorem left_nat {mag u t D : Nat} {q : Int} (hq : 0 < q) (hm : mag = u * D + t) (ht : t < D) : M.Left ((mag : Int) * q) u ((D : Int) * q) (lefN t D) := by
  have e : (mag : Int) * q = (u : Int) * ((D : Int) * q) + (t : Int) * q := by
    rw [hm]; push_cast; rw [Int.add_mul, Int.mul_assoc]
  have k1 : ∀ a b : Nat, a < b → (a : Int) * q < (b : Int) * q := fun a b h => Int.mul_lt_mul_of_pos_right (by omega) hq
  have t0 : 0 ≤ (t : Int) * q := Int.mul_nonneg (by omega) (Int.le_of_lt hq)
  have t1 := k1 t D ht
  have e2 : ((2 * t : Nat) : Int) * q = 2 * ((t : Int) * q) := by push_cast; rw [Int.mul_assoc]
  have z1 : 2 * t < D → 2 * ((t : Int) * q) < (D : Int) * q := fun h => by rw [← e2]; exact k1 _ _ h
  have z2 : 2 * t = D → 2 * ((t : Int) * q) = (D : Int) * q := fun h => by rw [← e2, h]
  have z3 : D < 2 * t → (D : Int) * q < 2 * ((t : Int) * q) := fun h => by rw [← e2]; exact k1 _ _ h
  have z4 : 0 < t → 0 < (t : Int) * q := fun h => Int.mul_pos (by omega) hq
  have z5 : t = 0 → (t : Int) * q = 0 := fun h => by rw [h]; simp
  obtain ⟨U, hU⟩ : ∃ U, (u : Int) * ((D : Int) * q) = U := ⟨_, rfl⟩
  rw [e, hU]
  generalize (t : Int) * q = T at *
  generalize (D : Int) * q = R at *
  unfold lefN
  by_cases c0 : t = 0
  · rw [if_pos c0]
    have := z5 c0
    exact M.Left.mk' hU (by omega) (by omega) (by constructor <;> intro h <;> omega) (by constructor <;> intro h <;> omega) (by constructor <;> intro h <;> omega) (by constructor <;> intro h <;> omega)
  · have := z4 (by omega)
    rw [if_neg c0]
    by_cases c1 : 2 * t < D
    · rw [if_pos c1]
      have := z1 c1
      exact M.Left.mk' hU (by omega) (by omega) (by constructor <;> intro h <;> omega) (by constructor <;> intro h <;> omega) (by constructor <;> intro h <;> omega) (by constructor <;> intro h <;> omega)
    · rw [if_neg c1]
      by_cases c2 : 2 * t = D
      · rw [if_pos c2]
        have := z2 c2
        exact M.Left.mk' hU (by omega) (by omega) (by constructor <;> intro h <;> omega) (by constructor <;> intro h <;> omega) (by constructor <;> intro h <;> omega) (by constructor <;> intro h <;> omega)
      · rw [if_neg c2]
        have := z3 (by omega)
        exact M.Left.mk' hU (by omega) (by omega) (by constructor <;> intro h <;> omega) (by constructor <;> intro h <;> omega) (by constructor <;> intro h <;> omega) (by constructor <;> intro h <;> omega)
theorem up_lef (neg odd : Bool) (t D : Nat) (ht : t < D) : rUp 0 neg odd (lefN t D) = (decide (D < 2 * t) || (decide (D = 2 * t) && odd)) := by
  unfold rUp lefN
  rw [if_pos rfl]
  by_cases c0 : t = 0
  · rw [if_pos c0, decide_eq_false (p := D < 2 * t) (by omega), decide_eq_false (p := D = 2 * t) (by omega)]
    simp
  · rw [if_neg c0]
    by_cases c1 : 2 * t < D
    · rw [if_pos c1, decide_eq_false (p := D < 2 * t) (by omega), decide_eq_false (p := D = 2 * t) (by omega)]
      simp
    · rw [if_neg c1]
      by_cases c2 : 2 * t = D
      · rw [if_pos c2, decide_eq_false (p := D < 2 * t) (by omega), decide_eq_true (p := D = 2 * t) (by omega)]
        simp
      · rw [if_neg c2, decide_eq_true (p := D < 2 * t) (by omega)]
        simp
/-- A whole number of units, to the nearest. -/
theorem cut_even (neg : Bool) (n d : Nat) (hn : n ≠ 0) : Toward.even.cut neg n d = n / 2 ^ d + (if rUp 0 neg (decide (n / 2 ^ d % 2 = 1)) (lefN (n % 2 ^ d) (2 ^ d)) then 1 else 0) := by
  have h2 : n < 2 ^ (n.log2 + 1) := Nat.lt_log2_self
  have hD := Nat.two_pow_pos d
  rw [up_lef _ _ _ _ (Nat.mod_lt _ hD)]
  unfold Toward.cut
  dsimp only
  by_cases h : d ≤ n.log2 + 2
  · rw [Nat.min_eq_left h, Nat.shiftLeft_eq, Nat.one_mul]
    congr 1
    have e1 : (2 ^ d == 2 * (n % 2 ^ d)) = decide (2 ^ d = 2 * (n % 2 ^ d)) := rfl
    have e2 : (n / 2 ^ d % 2 == 1) = decide (n / 2 ^ d % 2 = 1) := rfl
    rw [e1, e2]
    cases (decide (2 ^ d < 2 * (n % 2 ^ d)) || decide (2 ^ d = 2 * (n % 2 ^ d)) && decide (n / 2 ^ d % 2 = 1)) <;> rfl
  · rw [Nat.min_eq_right (by omega), Nat.shiftLeft_eq, Nat.one_mul]
    have h3 : 2 ^ (n.log2 + 2) = 2 * 2 ^ (n.log2 + 1) := by rw [Nat.pow_succ, Nat.mul_comm]
    have h4 : 2 ^ (n.log2 + 2) ≤ 2 ^ d := Nat.pow_le_pow_right (by decide) (by omega)
    have q1 : n / 2 ^ (n.log2 + 2) = 0 := Nat.div_eq_of_lt (by omega)
    have q2 : n % 2 ^ (n.log2 + 2) = n := Nat.mod_eq_of_lt (by omega)
    have q3 : n / 2 ^ d = 0 := Nat.div_eq_of_lt (by omega)
    have q4 : n % 2 ^ d = n := Nat.mod_eq_of_lt (by omega)
    rw [q1, q2, q3, q4, decide_eq_false (p := 2 ^ d < 2 * n) (by omega), decide_eq_false (p := 2 ^ d = 2 * n) (by omega), decide_eq_false (p := 2 ^ (n.log2 + 2) < 2 * n) (by omega)]
    have e1 : (2 ^ (n.log2 + 2) == 2 * n) = decide (2 ^ (n.log2 + 2) = 2 * n) := rfl
    rw [e1, decide_eq_false (p := 2 ^ (n.log2 + 2) = 2 * n) (by omega)]
    rfl
end Go.Proofs.YtcpjdgfnblkfpaaGreatDoor
