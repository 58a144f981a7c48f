/-
  Mathematics of whole numbers: a float's whole units, ints as floats, the order of floats in the model.
-/
import Derived.Test.YtcpjdgfnblkfpaaGreatDoorRFw4
namespace Go.Proofs.YtcpjdgfnblkfpaaGreatDoor.M
open Go Ieee
set_option linter.unusedSimpArgs false
set_option linter.unusedVariables false

theorem left_u {A q : Int} {u v : Nat} {l k : Int} (h : Left A u q l) (g : Left A v q k) : ¬ u < v := fun c => by
  have h1 := h.hi
  have h2 := g.lo
  have hq : 0 < q := by have := h.lo; omega
  have h3 : ((u : Int) + 1) * q ≤ (v : Int) * q := Int.mul_le_mul_of_nonneg_right (by omega) (by omega)
  rw [Int.add_mul, Int.one_mul] at h3
  omega
theorem Left.unique {A q : Int} {u v : Nat} {l k : Int} (h : Left A u q l) (g : Left A v q k) : u = v ∧ l = k := by
  have e : u = v := by
    have h1 := left_u h g
    have h2 := left_u g h
    omega
  subst e
  refine ⟨rfl, ?_⟩
  have lo := h.lo
  have hi := h.hi
  obtain ⟨T, hT⟩ : ∃ T, (u : Int) * q = T := ⟨_, rfl⟩
  rw [hT] at lo hi
  have a0 := h.l0
  have a1 := h.l1
  have a2 := h.l2
  have a3 := h.l3
  have b0 := g.l0
  have b1 := g.l1
  have b2 := g.l2
  have b3 := g.l3
  rw [hT] at a0 a1 a2 a3 b0 b1 b2 b3
  by_cases c0 : A = T
  · rw [a0.2 c0, b0.2 c0]
  · by_cases c1 : 2 * A < 2 * T + q
    · rw [a1.2 ⟨by omega, c1⟩, b1.2 ⟨by omega, c1⟩]
    · by_cases c2 : 2 * A = 2 * T + q
      · rw [a2.2 c2, b2.2 c2]
      · rw [a3.2 (by omega), b3.2 (by omega)]
theorem left_kinds {A q : Int} {u : Nat} {l : Int} (h : Left A u q l) : l = 0 ∨ l = 1 ∨ l = 2 ∨ l = 3 := by
  have lo := h.lo
  have a0 := h.l0
  have a1 := h.l1
  have a2 := h.l2
  have a3 := h.l3
  generalize (u : Int) * q = T at *
  by_cases c0 : A = T
  · exact .inl (a0.2 c0)
  · by_cases c1 : 2 * A < 2 * T + q
    · exact .inr (.inl (a1.2 ⟨by omega, c1⟩))
    · by_cases c2 : 2 * A = 2 * T + q
      · exact .inr (.inr (.inl (a2.2 c2)))
      · exact .inr (.inr (.inr (a3.2 (by omega))))
/-- What is whole has nothing left. -/
theorem left_whole {q : Int} (k : Nat) (hq : 0 < q) : Left ((k : Int) * q) k q 0 := by
  refine ⟨by omega, by omega, by simp, ?_, ?_, ?_⟩ <;> constructor <;> intro h <;> omega
/-- The units, raised or not. -/
def upU (way : Int) (ng : Bool) (u : Nat) (left : Int) : Nat := u + (if rUp way ng (decide (u % 2 = 1)) left then 1 else 0)
/-- Is there an int? -/
def tiB (ng : Bool) (U : Nat) : Bool := if ng then decide (U ≤ 9223372036854775808) else decide (U < 9223372036854775808)
def tiN (ng : Bool) (U : Nat) : Int := if tiB ng U then sg ng (U : Int) else 0
theorem tiB_big {ng : Bool} {U : Nat} (h : 9223372036854775808 < U) : tiB ng U = false := by
  unfold tiB
  cases ng <;> simp <;> omega
theorem rU_big {mag : Nat} {exp : Int} (h0 : mag ≠ 0) (hm : mag < 9007199254740992) (h : 64 < exp + (Lib.bitLen mag : Int)) : 18446744073709551616 ≤ rU mag (0 - exp) := by
  obtain ⟨b1, b2, b3, b4⟩ := M.bitLen_spec mag (Nat.lt_trans hm (by decide)) h0
  have hb : Lib.bitLen mag ≤ 53 := by
    have e : (2 : Nat) ^ 53 = 9007199254740992 := by decide
    have := (Nat.pow_lt_pow_iff_right (by decide : 1 < 2)).1 (Nat.lt_of_le_of_lt b1 (show mag < 2 ^ 53 by omega))
    omega
  unfold rU
  rw [if_pos (by omega)]
  have e64 : (2 : Nat) ^ 64 = 18446744073709551616 := by decide
  have h1 : 2 ^ (Lib.bitLen mag - 1) * 2 ^ (-(0 - exp)).toNat ≤ mag * 2 ^ (-(0 - exp)).toNat := Nat.mul_le_mul_right _ b1
  rw [← Nat.pow_add] at h1
  have h2 : 2 ^ 64 ≤ 2 ^ (Lib.bitLen mag - 1 + (-(0 - exp)).toNat) := Nat.pow_le_pow_right (by decide) (by omega)
  omega
theorem rU_fit {mag : Nat} {exp : Int} (hm : mag < 9007199254740992) (h : exp + (Lib.bitLen mag : Int) ≤ 64) : rU mag (0 - exp) < 18446744073709551615 := by
  unfold rU
  by_cases h0 : mag = 0
  · subst h0; split <;> simp
  obtain ⟨b1, b2, b3, b4⟩ := M.bitLen_spec mag (Nat.lt_trans hm (by decide)) h0
  have e64 : (2 : Nat) ^ 64 = 18446744073709551616 := by decide
  by_cases hs : 0 - exp ≤ 0
  · rw [if_pos hs]
    by_cases hz : exp = 0
    · subst hz; simp; omega
    · obtain ⟨k, hk⟩ : ∃ k, (-(0 - exp)).toNat = k + 1 := ⟨exp.toNat - 1, by omega⟩
      rw [hk]
      have h1 : mag * 2 ^ (k + 1) < 2 ^ Lib.bitLen mag * 2 ^ (k + 1) := Nat.mul_lt_mul_of_pos_right b2 (Nat.two_pow_pos _)
      rw [← Nat.pow_add] at h1
      have h2 : 2 ^ (Lib.bitLen mag + (k + 1)) ≤ 2 ^ 64 := Nat.pow_le_pow_right (by decide) (by omega)
      have h3 : mag * 2 ^ (k + 1) = 2 * (mag * 2 ^ k) := by rw [Nat.pow_succ, Nat.mul_comm (2 ^ k) 2, ← Nat.mul_assoc, Nat.mul_comm mag 2, Nat.mul_assoc]
      omega
  · rw [if_neg hs]
    have := Nat.div_le_self mag (2 ^ (0 - exp).toNat)
    omega
theorem cmp_mul {a b q : Int} (hq : 0 < q) : compare (a * q) (b * q) = compare a b := by
  have h1 : a * q < b * q ↔ a < b := ⟨fun h => Int.lt_of_mul_lt_mul_right h (by omega), fun h => Int.mul_lt_mul_of_pos_right h hq⟩
  have h2 : a * q = b * q ↔ a = b := ⟨fun h => Int.eq_of_mul_eq_mul_right (by omega) h, fun h => by rw [h]⟩
  show compareOfLessAndEq (a * q) (b * q) = compareOfLessAndEq a b
  unfold compareOfLessAndEq
  simp only [h1, h2]
theorem cmp_le {a b : Int} : (some (compare a b) == some Ordering.lt || some (compare a b) == some Ordering.eq) = decide (a ≤ b) := by
  show (some (compareOfLessAndEq a b) == some Ordering.lt || some (compareOfLessAndEq a b) == some Ordering.eq) = _
  unfold compareOfLessAndEq
  by_cases h1 : a < b
  · rw [if_pos h1, decide_eq_true (by omega)]; rfl
  · rw [if_neg h1]
    by_cases h2 : a = b
    · rw [if_pos h2, decide_eq_true (by omega)]; rfl
    · rw [if_neg h2, decide_eq_false (by omega)]; rfl
theorem cmp_ge {a b : Int} : (some (compare a b) == some Ordering.gt || some (compare a b) == some Ordering.eq) = decide (b ≤ a) := by
  show (some (compareOfLessAndEq a b) == some Ordering.gt || some (compareOfLessAndEq a b) == some Ordering.eq) = _
  unfold compareOfLessAndEq
  by_cases h1 : a < b
  · rw [if_pos h1, decide_eq_false (by omega)]; rfl
  · rw [if_neg h1]
    by_cases h2 : a = b
    · rw [if_pos h2, decide_eq_true (by omega)]; rfl
    · rw [if_neg h2, decide_eq_true (by omega)]; rfl
theorem cmp_eq {a b : Int} : (some (compare a b) == some Ordering.eq) = decide (a = b) := by
  show (some (compareOfLessAndEq a b) == some Ordering.eq) = _
  unfold compareOfLessAndEq
  by_cases h1 : a < b
  · rw [if_pos h1, decide_eq_false (by omega)]; rfl
  · rw [if_neg h1]
    by_cases h2 : a = b
    · rw [if_pos h2, decide_eq_true (by omega)]; rfl
    · rw [if_neg h2, decide_eq_false (by omega)]; rfl
end Go.Proofs.YtcpjdgfnblkfpaaGreatDoor.M
namespace Go.Proofs.YtcpjdgfnblkfpaaGreatDoor
open Go Go.RowKit Go.Proofs.YtcpjdgfnblkfpaaGreatDoor.M Ieee
set_option linter.unusedSimpArgs false
set_option linter.unusedVariables false
theorem order_wd {p q : Int} (hp : rng p) (hq : rng q) (pp : pok p = true) (pq : pok q = true) : Ieee.double.order (wd p) (wd q) = some (compare (patV p) (patV q)) := by
  obtain ⟨m, u, r1, v1⟩ := read_wd hp pp
  obtain ⟨n, v, r2, v2⟩ := read_wd hq pq
  unfold Ieee.Format.order
  rw [r1, r2]
  show some (compare (signed (decide (p < 0)) m (-1074 + (u : Int) - min (-1074 + (u : Int)) (-1074 + (v : Int))).toNat) (signed (decide (q < 0)) n (-1074 + (v : Int) - min (-1074 + (u : Int)) (-1074 + (v : Int))).toNat)) = _
  have hb : -4194304 ≤ min (-1074 + (u : Int)) (-1074 + (v : Int)) := by omega
  have s1 := signed_pw (decide (p < 0)) m (-1074 + (u : Int) - min (-1074 + (u : Int)) (-1074 + (v : Int))).toNat (i := -1074 + (u : Int)) (base := min (-1074 + (u : Int)) (-1074 + (v : Int))) (by omega) hb
  have s2 := signed_pw (decide (q < 0)) n (-1074 + (v : Int) - min (-1074 + (u : Int)) (-1074 + (v : Int))).toNat (i := -1074 + (v : Int)) (base := min (-1074 + (u : Int)) (-1074 + (v : Int))) (by omega) hb
  rw [v1, v2, ← s1, ← s2, cmp_mul (pw_pos _)]
/-- An int that is a float, as Go's floats. -/
theorem int_wd {n : Int} {r : Nat} (h : (n.natAbs : Int) * pw 0 = vS r) (hr : (r : Int) < 9218868437227405312) : FloatKind.f64.nearest n = wd (patS (decide (n < 0)) r) := by
  by_cases h0 : n = 0
  · subst h0
    have hz : vS r = vS 0 := by rw [← h, vS_zero]; simp
    have : r = 0 := by
      rcases Nat.eq_zero_or_pos r with h1 | h1
      · exact h1
      · have := vS_lt h1; omega
    subst this
    rfl
  · have hn : n.natAbs ≠ 0 := by omega
    obtain ⟨r0, left, hR, e⟩ := nearest_rung (decide (n < 0)) hn (place := 0) (by decide)
    have hR2 : Rung (vS r) r 0 := by
      have h1 := vS_lt (show r < r + 1 by omega)
      refine ⟨by omega, by omega, by simp, ?_, ?_, ?_⟩ <;> constructor <;> intro h <;> omega
    rw [h] at hR
    obtain ⟨e1, e2⟩ := hR.unique hR2
    subst e1 e2
    have e3 : rTo 0 (decide (n < 0)) r0 0 = (r0 : Int) := by
      unfold rTo
      rw [if_pos hr, if_neg (fun c => rUp_left c)]
      omega
    rw [e3] at e
    rw [← wd_word (by omega) (by omega), ← e]
    rfl
theorem k_mulS (m k : Nat) (q : Int) : ((m * 2 ^ k : Nat) : Int) * q = (m : Int) * (2 ^ k * q) := by
  rw [Int.natCast_mul, Int.mul_assoc]
  congr 2
theorem small_rung {m : Nat} (h : m < 9007199254740992) : ∃ r : Nat, (m : Int) * pw 0 = vS r ∧ (r : Int) < 9218868437227405312 := by
  by_cases h0 : m = 0
  · exact ⟨0, by rw [h0, vS_zero]; simp, by decide⟩
  obtain ⟨b1, b2, b3, b4⟩ := M.bitLen_spec m (Nat.lt_trans h (by decide)) h0
  have e53 : (2 : Nat) ^ 53 = 9007199254740992 := by decide
  have e52 : (2 : Nat) ^ 52 = 4503599627370496 := by decide
  have hb : Lib.bitLen m ≤ 53 := by
    have := (Nat.pow_lt_pow_iff_right (by decide : 1 < 2)).1 (Nat.lt_of_le_of_lt b1 (show m < 2 ^ 53 by omega))
    omega
  obtain ⟨L, hL⟩ : ∃ L, Lib.bitLen m = L := ⟨_, rfl⟩
  rw [hL] at b1 b2 b3 hb
  obtain ⟨d, hd⟩ : ∃ d, 53 = L + d := ⟨53 - L, by omega⟩
  have n1 : 4503599627370496 ≤ m * 2 ^ d := by
    have := Nat.mul_le_mul_right (2 ^ d) b1
    rw [← Nat.pow_add, show L - 1 + d = 52 by omega, e52] at this
    exact this
  have n2 : m * 2 ^ d < 9007199254740992 := by
    have := Nat.mul_lt_mul_of_pos_right b2 (Nat.two_pow_pos d)
    rw [← Nat.pow_add, ← hd, e53] at this
    exact this
  have hV := V_parts Ieee.double (1074 - d) (m * 2 ^ d) (.inr ⟨by rw [dBin]; exact n1, by rw [dBin]; omega⟩)
  rw [dBin] at hV
  have e : m * 2 ^ d * 2 ^ (1074 - d) = m * 2 ^ 1074 := by
    rw [Nat.mul_assoc, ← Nat.pow_add, show d + (1074 - d) = 1074 by omega]
  rw [e] at hV
  refine ⟨(1074 - d) * 4503599627370496 + m * 2 ^ d, ?_, by omega⟩
  unfold vS
  rw [hV]
  have hp : pw 0 = 2 ^ (0 - (-1074) : Int).toNat * pw (-1074) := pw_sub (by decide) (by decide)
  rw [hp, show (0 - (-1074) : Int).toNat = 1074 by decide]
  exact (k_mulS _ _ _).symm
end Go.Proofs.YtcpjdgfnblkfpaaGreatDoor
