/-
  Plain mathematics: what binary64 answers, by rungs. No Go text in sight.
-/
import Derived.Test.YtcpjdgfnblkfpaaGreatDoorRBin
namespace Go.Proofs.YtcpjdgfnblkfpaaGreatDoor
open Go Go.Proofs.YtcpjdgfnblkfpaaGreatDoor.M
set_option linter.unusedSimpArgs false
set_option linter.unusedVariables false

/-- The value of a rung, in the scale. -/
def vS (r : Nat) : Int := (V Ieee.double r : Int) * pw (-1074)
theorem vS_lt {r s : Nat} (h : r < s) : vS r < vS s := Int.mul_lt_mul_of_pos_right (by have := V_lt Ieee.double h; omega) (pw_pos _)
/-- A size among the rungs: at r0 or above it, and how far to the next one. -/
structure Rung (A : Int) (r0 : Nat) (left : Int) : Prop where
  lo : vS r0 ≤ A
  hi : A < vS (r0 + 1)
  l0 : left = 0 ↔ A = vS r0
  l1 : left = 1 ↔ vS r0 < A ∧ 2 * A < vS r0 + vS (r0 + 1)
  l2 : left = 2 ↔ 2 * A = vS r0 + vS (r0 + 1)
  l3 : left = 3 ↔ vS r0 + vS (r0 + 1) < 2 * A
/-- The rung that it is rounded to. -/
def rTo (way : Int) (ng : Bool) (r0 : Nat) (left : Int) : Int := if (r0 : Int) < 9218868437227405312 then (r0 : Int) + (if rUp way ng (decide (r0 % 2 = 1)) left then 1 else 0) else bRung way ng
theorem rUp_left {way : Int} {ng odd : Bool} (h : rUp way ng odd 0 = true) : False := by
  unfold rUp at h
  split at h
  · simp at h
  · split at h
    · simp at h
    · split at h <;> simp at h
theorem rUp_more {way : Int} {ng odd : Bool} {left : Int} (h : rUp way ng odd left = true) : rUp way ng true 3 = true := by
  unfold rUp at *
  split at h
  · rename_i h1; rw [if_pos h1]; rfl
  · rename_i h1
    rw [if_neg h1]
    split at h
    · rename_i h2; rw [if_pos h2]; simp at h; simp [h.2]
    · rename_i h2
      rw [if_neg h2]
      split at h
      · rename_i h3; rw [if_pos h3]; simp at h; simp [h.2]
      · cases h
theorem left_rung {A : Int} {u a r0 : Nat} {left : Int} (h : M.Left A u (2 ^ a * pw (-1074)) left) (h1 : V Ieee.double r0 = u * 2 ^ a) (h2 : V Ieee.double (r0 + 1) = (u + 1) * 2 ^ a) : Rung A r0 left := by
  obtain ⟨lo, hi, l0, l1, l2, l3⟩ := h
  have e1 : vS r0 = (u : Int) * (2 ^ a * pw (-1074)) := by
    unfold vS
    rw [h1]
    push_cast
    rw [Int.mul_assoc]
  have e2 : vS (r0 + 1) = (u : Int) * (2 ^ a * pw (-1074)) + 2 ^ a * pw (-1074) := by
    unfold vS
    rw [h2]
    push_cast
    rw [Int.add_mul, Int.add_mul, Int.one_mul, Int.mul_assoc]
  generalize (2 : Int) ^ a * pw (-1074) = q at *
  generalize (u : Int) * q = U at *
  exact ⟨by omega, by omega, by rw [e1]; exact l0, by rw [e1, e2, l1]; constructor <;> intro h <;> omega, by rw [e1, e2, l2]; constructor <;> intro h <;> omega, by rw [e1, e2, l3]; constructor <;> intro h <;> omega⟩
theorem r64_spec {way : Int} {ng sd : Bool} {A : Int} {mag : Nat} {exp : Int} {cut : Bool} (hA : Held A mag exp cut) (hm : mag < 2 ^ 64) (h0 : mag ≠ 0) (he : -4194304 ≤ exp) (hc : cut = true → 2 ^ 60 ≤ mag) :
    ∃ (r0 : Nat) (left : Int), Rung A r0 left ∧ r64 way ng sd mag exp cut = (patS (ng && (decide (0 < rTo way ng r0 left) || sd)) (rTo way ng r0 left), decide (left ≠ 0) || decide (9218868437227405312 ≤ (r0 : Int))) := by
  have e64 : (2 : Nat) ^ 64 = 18446744073709551616 := by decide
  obtain ⟨b1, b2, b3, b4⟩ := M.bitLen_spec mag hm h0
  have hbits := rU_bits (size := 53) (low := -1074) (exp := exp) (by decide) hm h0
  have hE1 : -1074 ≤ rE 53 (-1074) mag exp := by unfold rE; omega
  have hcs : cut = true → 0 < rE 53 (-1074) mag exp - exp := fun h => by
    have h1 := hc h
    have h2 : 60 < Lib.bitLen mag := by
      have := (Nat.pow_lt_pow_iff_right (by decide : 1 < 2)).1 (Nat.lt_of_le_of_lt h1 b2)
      exact this
    unfold rE
    omega
  have hL := left_of hA hcs (by omega) he
  obtain ⟨E, hE⟩ : ∃ E, rE 53 (-1074) mag exp = E := ⟨_, rfl⟩
  have HR : r64 way ng sd mag exp cut = (let E := rE 53 (-1074) mag exp
    let u := rU mag (E - exp)
    let left := rL mag cut (E - exp)
    let U := u + (if rUp way ng (decide (u % 2 = 1)) left then 1 else 0)
    let neg := ng && (decide (0 < U) || sd)
    if jk 52 2047 (-1074) U E then (jp neg U E, decide (left ≠ 0)) else (patS neg (bRung way neg), true)) := rfl
  simp only at HR
  rw [hE] at hbits hE1 hL HR
  obtain ⟨u, hu⟩ : ∃ u, rU mag (E - exp) = u := ⟨_, rfl⟩
  obtain ⟨left, hl⟩ : ∃ l, rL mag cut (E - exp) = l := ⟨_, rfl⟩
  rw [hu] at hbits hL HR
  rw [hl] at hL HR
  obtain ⟨a, ha⟩ : ∃ a, (E - -1074).toNat = a := ⟨_, rfl⟩
  have e53 : (2 : Nat) ^ (53 : Int).toNat = 9007199254740992 := by decide
  have e52 : (2 : Nat) ^ ((53 : Int).toNat - 1) = 4503599627370496 := by decide
  rw [e53, e52] at hbits
  have eB : Ieee.double.binade = 4503599627370496 := by decide
  have hV := V_rung Ieee.double a u (by rw [eB]; omega) (fun h => by rw [eB]; exact hbits.2 (by omega))
  rw [eB] at hV
  have hpw : pw E = 2 ^ a * pw (-1074) := by rw [pw_sub (e := E) (low := -1074) (by decide) hE1, ha]
  rw [hpw] at hL
  refine ⟨a * 4503599627370496 + u, left, left_rung hL hV.1 hV.2, ?_⟩
  rw [HR]
  have hodd : decide ((a * 4503599627370496 + u) % 2 = 1) = decide (u % 2 = 1) := by congr 1; apply propext; omega
  unfold rTo
  rw [hodd]
  obtain ⟨R, hR⟩ : ∃ R, rUp way ng (decide (u % 2 = 1)) left = R := ⟨_, rfl⟩
  rw [hR]
  obtain ⟨U, hU⟩ : ∃ U, u + (if R = true then 1 else 0) = U := ⟨_, rfl⟩
  rw [hU]
  have hR1 : R = true → left ≠ 0 := fun h hz => by rw [hz, h] at hR; exact rUp_left hR
  have hR2 : R = true → rUp way ng true 3 = true := fun h => rUp_more (hR.trans h)
  have hUle : U ≤ 9007199254740992 := by rw [← hU]; split <;> omega
  have hcast : ((a * 4503599627370496 + u : Nat) : Int) + (if R = true then 1 else 0) = ((a * 4503599627370496 + U : Nat) : Int) := by
    rw [← hU]
    cases R <;> simp only [if_true, if_false, Bool.false_eq_true] <;> omega
  rw [hcast]
  by_cases hU0 : U = 0
  · have hu0 : u = 0 := by rw [← hU] at hU0; omega
    have ha0 : a = 0 := by
      rcases Nat.eq_zero_or_pos a with h | h
      · exact h
      · have := hbits.2 (by omega); omega
    subst hU0 hu0 ha0
    have hj : jk 52 2047 (-1074) ((0 : Nat) : Int) E = true := rfl
    rw [hj]
    rw [if_pos rfl, if_pos (by decide)]
    have hd : decide (9218868437227405312 ≤ ((0 * 4503599627370496 + 0 : Nat) : Int)) = false := by decide
    rw [hd, Bool.or_false]
    cases ng <;> cases sd <;> rfl
  · have hjr := join_rung Ieee.double 52 (by decide) dB 2047 (-1074) (by decide) U E (by omega) (by rw [show (2 : Nat) ^ (52 + 1) = 9007199254740992 by decide]; exact hUle) hE1 (fun h => by rw [show (2 : Nat) ^ 52 = 4503599627370496 by decide]; have := hbits.2 h; rw [← hU]; omega)
    simp only at hjr
    rw [ha, show (2 : Nat) ^ 52 = 4503599627370496 by decide, show (2047 : Int) * 2 ^ 52 = 9218868437227405312 by decide] at hjr
    obtain ⟨j1, j2⟩ := hjr
    have hpos : decide (0 < U) = true := decide_eq_true (by omega)
    rw [show jk ((52 : Nat) : Int) 2047 (-1074) (U : Int) E = jk 52 2047 (-1074) (U : Int) E from rfl] at j1
    rw [j1, hpos, Bool.true_or, Bool.and_true]
    by_cases hf : ((a * 4503599627370496 + U : Nat) : Int) < 9218868437227405312
    · have huU : u ≤ U := by rw [← hU]; omega
      have hf0 : ((a * 4503599627370496 + u : Nat) : Int) < 9218868437227405312 := by omega
      rw [decide_eq_true hf, if_pos rfl, if_pos hf0, decide_eq_false (p := 9218868437227405312 ≤ ((a * 4503599627370496 + u : Nat) : Int)) (by omega), Bool.or_false]
      have hd : decide (0 < ((a * 4503599627370496 + U : Nat) : Int)) = true := decide_eq_true (by omega)
      rw [hd, Bool.true_or, Bool.and_true]
      congr 1
      have hjk : jk 52 2047 (-1074) (U : Int) E = true := by rw [j1]; exact decide_eq_true hf
      have hjv := j2 hf
      rw [show jv ((52 : Nat) : Int) 2047 (-1074) (U : Int) E = jv 52 2047 (-1074) (U : Int) E from rfl] at hjv
      unfold jp patS
      rw [hjk, hjv, Bool.true_and]
    · rw [decide_eq_false hf, if_neg (by simp)]
      by_cases hf0 : ((a * 4503599627370496 + u : Nat) : Int) < 9218868437227405312
      · have hRt : R = true := by
          cases R
          · exfalso; simp at hU; omega
          · rfl
        have hUe : ((a * 4503599627370496 + U : Nat) : Int) = 9218868437227405312 := by rw [hRt] at hU; simp at hU; omega
        rw [if_pos hf0, hUe, decide_eq_true (hR1 hRt), Bool.true_or]
        congr 1
        have : bRung way ng = 9218868437227405312 := by unfold bRung; rw [hR2 hRt, if_pos rfl]
        rw [this]
        simp
      · rw [if_neg hf0, decide_eq_true (p := 9218868437227405312 ≤ ((a * 4503599627370496 + u : Nat) : Int)) (by omega), Bool.or_true]
        congr 1
        have hd : decide (0 < bRung way ng) = true := by unfold bRung; split <;> decide
        rw [hd, Bool.true_or, Bool.and_true]
end Go.Proofs.YtcpjdgfnblkfpaaGreatDoor
