/-
  Plain mathematics: the root of a float is the exact root, rounded to the nearest. No Go text in sight.
-/
import Derived.Test.YtcpjdgfnblkfpaaGreatDoorRFdiv2
import Derived.Test.YtcpjdgfnblkfpaaGreatDoorRRt2
namespace Go.Proofs.YtcpjdgfnblkfpaaGreatDoor
open Go Go.RowKit Go.Proofs.YtcpjdgfnblkfpaaGreatDoor.M Ieee
set_option linter.unusedSimpArgs false
set_option linter.unusedVariables false

theorem rootFrom_spec (n : Nat) : ∀ (todo r : Nat), r * r ≤ n → n < (r + 2 ^ todo) * (r + 2 ^ todo) → Datum.rootFrom n todo r * Datum.rootFrom n todo r ≤ n ∧ n < (Datum.rootFrom n todo r + 1) * (Datum.rootFrom n todo r + 1)
  | 0, r, h1, h2 => by
    unfold Datum.rootFrom
    rw [Nat.pow_zero] at h2
    exact ⟨h1, h2⟩
  | todo + 1, r, h1, h2 => by
    unfold Datum.rootFrom
    dsimp only
    rw [Nat.shiftLeft_eq, Nat.one_mul]
    by_cases h : (r + 2 ^ todo) * (r + 2 ^ todo) ≤ n
    · rw [if_pos h]
      refine rootFrom_spec n todo _ h ?_
      rw [Nat.add_assoc, show 2 ^ todo + 2 ^ todo = 2 ^ (todo + 1) by rw [Nat.pow_succ]; omega]
      exact h2
    · rw [if_neg h]
      exact rootFrom_spec n todo r h1 (by omega)
theorem root_whole {n : Nat} (h : n ≠ 0) : Datum.rootFrom n (n.log2 / 2 + 1) 0 * Datum.rootFrom n (n.log2 / 2 + 1) 0 ≤ n ∧ n < (Datum.rootFrom n (n.log2 / 2 + 1) 0 + 1) * (Datum.rootFrom n (n.log2 / 2 + 1) 0 + 1) := by
  refine rootFrom_spec n _ 0 (by omega) ?_
  have h2 : n < 2 ^ (n.log2 + 1) := Nat.lt_log2_self
  rw [Nat.zero_add, ← Nat.pow_add]
  exact Nat.lt_of_lt_of_le h2 (Nat.pow_le_pow_right (by decide) (by omega))
theorem sq_leN {a b : Nat} (h : a ≤ b) : a * a ≤ b * b := Nat.mul_le_mul h h
/-- The root of a finite float above 0. -/
theorem fsqrt {p : Int} (hp : rng p) (pp : pok p = true) (zp : rg p ≠ 0) (h0 : ¬ p < 0) :
    ∃ (r0 : Nat) (left : Int), RungR (vS (rg p).toNat * pw 0) r0 left ∧ Ieee.double.sqrt (wd p) = some (wd (patS false (rTo 0 false r0 left))) := by
  obtain ⟨m, u, h1, v1, m0⟩ := read_vS hp pp
  obtain ⟨hm53, hu⟩ := log2_fin hp pp h1
  have hm : m ≠ 0 := fun h => zp (m0.1 h)
  have e53 : (2 : Nat) ^ 53 = 9007199254740992 := by decide
  have lm : m.log2 < 53 := (Nat.log2_lt hm).2 (by rw [e53]; exact hm53)
  have m1 := Nat.log2_self_le hm
  obtain ⟨i, hi⟩ : ∃ i : Int, -1074 + (u : Int) = i := ⟨_, rfl⟩
  rw [hi] at h1 v1
  obtain ⟨k, hk⟩ : ∃ k : Nat, 2 * 54 - m.log2 + ((i - ((2 * 54 - m.log2 : Nat) : Int)) % 2).toNat = k := ⟨_, rfl⟩
  have hk1 : 108 ≤ k + m.log2 := by omega
  have hk2 : k ≤ 109 := by omega
  have hpar : (i - (k : Int)) % 2 = 0 := by omega
  obtain ⟨E, hE⟩ : ∃ E, (i - (k : Int)) / 2 = E := ⟨_, rfl⟩
  have hEE : i + 0 = E + E + (k : Int) := by omega
  obtain ⟨N, hN⟩ : ∃ N, m * 2 ^ k = N := ⟨_, rfl⟩
  have hN108 : 2 ^ 108 ≤ N := by
    have a1 : 2 ^ m.log2 * 2 ^ k ≤ m * 2 ^ k := Nat.mul_le_mul_right _ m1
    rw [← Nat.pow_add, hN] at a1
    exact Nat.le_trans (Nat.pow_le_pow_right (by decide) (by omega)) a1
  have hN0 : N ≠ 0 := by have := Nat.two_pow_pos 108; omega
  obtain ⟨w1, w2⟩ := root_whole hN0
  obtain ⟨s, hs⟩ : ∃ s, Datum.rootFrom N (N.log2 / 2 + 1) 0 = s := ⟨_, rfl⟩
  rw [hs] at w1 w2
  have hs53 : 9007199254740992 ≤ s := by
    rcases Nat.lt_or_ge s 9007199254740992 with g | g
    · exfalso
      have := sq_leN (show s + 1 ≤ 9007199254740992 by omega)
      have e : (2 : Nat) ^ 108 = 4 * (9007199254740992 * 9007199254740992) := by decide
      omega
    · exact g
  have hsq : Ieee.double.sqrt (wd p) = some (Ieee.double.nearest false (2 * s + (decide (s * s ≠ N)).toNat) (E - 1)) := by
    unfold Format.sqrt
    rw [h1, dFrac, decide_eq_false h0]
    unfold Datum.root
    dsimp only
    rw [if_neg hm, if_neg (by decide), show 52 + 2 = 54 from rfl, hk, Nat.shiftLeft_eq, hN, hs, hE]
    have eb : (s * s != N) = decide (s * s ≠ N) := by
      by_cases hz : s * s = N
      · rw [hz]; simp
      · rw [decide_eq_true hz]; simpa using hz
    rw [eb]
    rfl
  obtain ⟨r0, left, hR, hE2⟩ := nearest_cut false (mag := s) (exp := E) (decide (s * s ≠ N)) hs53 (by omega)
  have hP : 0 < pw E * pw E := Int.mul_pos (pw_pos _) (pw_pos _)
  have hc : pw i * pw 0 = 2 ^ k * (pw E * pw E) := pw_cross (by omega) (by decide) (by omega) (by omega) hEE
  have hNc : (m : Int) * 2 ^ k = (N : Int) := by rw [← hN]; push_cast; rfl
  have w1' : (s : Int) * (s : Int) ≤ (N : Int) := by rw [← Int.natCast_mul]; omega
  have w2' : (N : Int) < ((s : Int) + 1) * ((s : Int) + 1) := by
    have : ((N : Nat) : Int) < (((s + 1) * (s + 1) : Nat) : Int) := by omega
    rw [Int.natCast_mul] at this
    exact this
  obtain ⟨q1, q2, q3⟩ := root_sq1 hNc w1' w2' hc hP
  refine ⟨r0, left, ?_, ?_⟩
  · rw [v1, Int.mul_assoc]
    refine rung_root hR (by rw [sq_prod]; exact q1) (by rw [sq_prod]; exact q2) ?_
    rw [sq_prod, ← q3, decide_eq_false_iff_not]
    have hcast : ((s * s : Nat) : Int) = (s : Int) * (s : Int) := Int.natCast_mul s s
    constructor
    · intro h
      have h' : s * s = N := Classical.not_not.1 h
      rw [← hcast, h']
      omega
    · intro h hne
      rw [← hcast] at h
      exact hne (by omega)
  · rw [hsq, hE2]
    obtain ⟨g1, g2⟩ := rTo_range 0 false r0 left
    rw [wd_word g1 g2]
end Go.Proofs.YtcpjdgfnblkfpaaGreatDoor
