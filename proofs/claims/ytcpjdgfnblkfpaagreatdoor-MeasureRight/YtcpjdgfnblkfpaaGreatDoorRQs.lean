/-
  Plain mathematics: what binary64 answers, by rungs, where the number is a quotient. No Go text in sight.
-/
import Derived.Test.YtcpjdgfnblkfpaaGreatDoorRMir
import Derived.Test.YtcpjdgfnblkfpaaGreatDoorRQuo3
namespace Go.Proofs.YtcpjdgfnblkfpaaGreatDoor
open Go Go.RowKit Go.Proofs.YtcpjdgfnblkfpaaGreatDoor.M
set_option linter.unusedSimpArgs false
set_option linter.unusedVariables false

/-- What is known of A / S: mag 2^exp, or more by less than 2^exp. -/
def HeldS (S A : Int) (mag : Nat) (exp : Int) (cut : Bool) : Prop := (mag : Int) * (pw exp * S) ≤ A ∧ A < ((mag : Int) + 1) * (pw exp * S) ∧ (cut = false ↔ A = (mag : Int) * (pw exp * S))
/-- A / S among the rungs. -/
structure RungS (S A : Int) (r0 : Nat) (left : Int) : Prop where
  lo : vS r0 * S ≤ A
  hi : A < vS (r0 + 1) * S
  l0 : left = 0 ↔ A = vS r0 * S
  l1 : left = 1 ↔ vS r0 * S < A ∧ 2 * A < vS r0 * S + vS (r0 + 1) * S
  l2 : left = 2 ↔ 2 * A = vS r0 * S + vS (r0 + 1) * S
  l3 : left = 3 ↔ vS r0 * S + vS (r0 + 1) * S < 2 * A
theorem left_ofS {S A : Int} {mag : Nat} {exp e : Int} {cut : Bool} (hS : 0 < S) (h : HeldS S A mag exp cut) (hc : cut = true → 0 < e - exp) (h0 : -4194304 ≤ e) (h1 : -4194304 ≤ exp) : M.Left A (rU mag (e - exp)) (pw e * S) (rL mag cut (e - exp)) := by
  obtain ⟨a1, a2, a3⟩ := h
  have hq : 0 < pw exp * S := Int.mul_pos (pw_pos exp) hS
  have hqe : 0 < pw e * S := Int.mul_pos (pw_pos e) hS
  by_cases hs : e - exp ≤ 0
  · have hcf : cut = false := by cases cut; rfl; have := hc rfl; omega
    have hA := a3.1 hcf
    unfold rU rL
    rw [if_pos hs, if_pos hs]
    have e1 : ((mag * 2 ^ (-(e - exp)).toNat : Nat) : Int) * (pw e * S) = A := by
      rw [hA, pw_sub (e := exp) (low := e) h0 (by omega), show (exp - e).toNat = (-(e - exp)).toNat by omega]
      push_cast
      simp only [Int.mul_assoc]
    exact ⟨by rw [e1]; omega, by rw [e1]; omega, by rw [e1]; simp, by rw [e1]; constructor <;> intro h <;> omega, by rw [e1]; constructor <;> intro h <;> omega, by rw [e1]; constructor <;> intro h <;> omega⟩
  · have hp : pw e * S = 2 ^ (e - exp).toNat * (pw exp * S) := by rw [pw_sub (e := e) (low := exp) h1 (by omega), Int.mul_assoc]
    obtain ⟨s, hsn⟩ : ∃ s, (e - exp).toNat = s := ⟨_, rfl⟩
    have hs0 : 0 < s := by omega
    unfold rU rL
    rw [if_neg hs, if_neg hs, hsn]
    rw [hsn] at hp
    obtain ⟨k, hk, hk0⟩ := two_half s hs0
    have hpn : (2 : Int) ^ s = ((2 ^ s : Nat) : Int) := by simp
    rw [hpn, hk] at hp
    rw [hk]
    have hdm := Nat.div_add_mod mag (2 * k)
    have hml := Nat.mod_lt mag (show 0 < 2 * k by omega)
    generalize mag / (2 * k) = u at *
    generalize mag % (2 * k) = t at *
    generalize hQ : pw exp * S = q at *
    have e1 : (mag : Int) * q = (u : Int) * (((2 * k : Nat) : Int) * q) + (t : Int) * q := by
      rw [← hdm]; push_cast; rw [Int.add_mul]; congr 1; rw [Int.mul_comm (2 * (k : Int)) u, Int.mul_assoc]
    have e2 : ((mag : Int) + 1) * q = (mag : Int) * q + q := by rw [Int.add_mul, Int.one_mul]
    rw [e2, e1] at a2
    rw [e1] at a1 a3
    rw [hp]
    have e3 : ((2 * k : Nat) : Int) * q = 2 * ((k : Int) * q) := by push_cast; rw [Int.mul_assoc]
    have t1 : ∀ x y : Nat, x ≤ y → (x : Int) * q ≤ (y : Int) * q := fun x y h => Int.mul_le_mul_of_nonneg_right (by omega) (by omega)
    have t2 : ∀ x y : Nat, x < y → (x : Int) * q + q ≤ (y : Int) * q := fun x y h => by
      have := t1 (x + 1) y h
      push_cast at this
      rwa [Int.add_mul, Int.one_mul] at this
    have t0 : 0 ≤ (t : Int) * q := Int.mul_nonneg (by omega) (by omega)
    have b1 : (t : Int) * q + q ≤ 2 * ((k : Int) * q) := by rw [← e3]; exact t2 t (2 * k) hml
    rw [e3] at a1 a2 a3 ⊢
    have c1 : t < k → (t : Int) * q + q ≤ (k : Int) * q := t2 t k
    have c2 : t = k → (t : Int) * q = (k : Int) * q := fun h => by rw [h]
    have c3 : k < t → (k : Int) * q + q ≤ (t : Int) * q := t2 k t
    have c4 : t = 0 → (t : Int) * q = 0 := fun h => by rw [h]; simp
    have c5 : 0 < t → q ≤ (t : Int) * q := fun h => by have := t1 1 t h; rwa [Int.natCast_one, Int.one_mul] at this
    clear e1 e2 e3 t1 t2 hp
    obtain ⟨T, hT⟩ : ∃ T, (t : Int) * q = T := ⟨_, rfl⟩
    obtain ⟨K, hK⟩ : ∃ K, (k : Int) * q = K := ⟨_, rfl⟩
    obtain ⟨U, hU⟩ : ∃ U, (u : Int) * (2 * K) = U := ⟨_, rfl⟩
    rw [hT] at c1 c2 c3 c4 c5 t0 b1 a1 a2 a3
    rw [hK] at c1 c2 c3 b1 a1 a2 a3 ⊢
    rw [hU] at a1 a2 a3
    have a3' : cut = true → A ≠ U + T := fun h h2 => by rw [a3.2 h2] at h; cases h
    cases cut
    · have hA := a3.1 rfl
      subst hA
      by_cases z0 : t = 0
      · have := c4 z0
        rw [if_pos ⟨z0, rfl⟩]
        exact M.Left.mk' hU (by omega) (by omega) (by constructor <;> intro h <;> omega) (by constructor <;> intro h <;> omega) (by constructor <;> intro h <;> omega) (by constructor <;> intro h <;> omega)
      · have := c5 (by omega)
        rw [if_neg (fun h => z0 h.1)]
        by_cases z1 : t < k
        · have := c1 z1
          rw [if_pos (by omega)]
          exact M.Left.mk' hU (by omega) (by omega) (by constructor <;> intro h <;> omega) (by constructor <;> intro h <;> omega) (by constructor <;> intro h <;> omega) (by constructor <;> intro h <;> omega)
        · rw [if_neg (by omega)]
          by_cases z2 : t = k
          · have := c2 z2
            rw [if_pos ⟨by omega, rfl⟩]
            exact M.Left.mk' hU (by omega) (by omega) (by constructor <;> intro h <;> omega) (by constructor <;> intro h <;> omega) (by constructor <;> intro h <;> omega) (by constructor <;> intro h <;> omega)
          · have := c3 (by omega)
            rw [if_neg (fun h => z2 (by omega))]
            exact M.Left.mk' hU (by omega) (by omega) (by constructor <;> intro h <;> omega) (by constructor <;> intro h <;> omega) (by constructor <;> intro h <;> omega) (by constructor <;> intro h <;> omega)
    · have hA := a3' rfl
      rw [if_neg (fun h => by cases h.2)]
      by_cases z1 : t < k
      · have := c1 z1
        rw [if_pos (by omega)]
        exact M.Left.mk' hU (by omega) (by omega) (by constructor <;> intro h <;> omega) (by constructor <;> intro h <;> omega) (by constructor <;> intro h <;> omega) (by constructor <;> intro h <;> omega)
      · rw [if_neg (by omega), if_neg (fun h => by cases h.2)]
        have hkt : K ≤ T := by
          by_cases z2 : t = k
          · have := c2 z2; omega
          · have := c3 (by omega); omega
        exact M.Left.mk' hU (by omega) (by omega) (by constructor <;> intro h <;> omega) (by constructor <;> intro h <;> omega) (by constructor <;> intro h <;> omega) (by constructor <;> intro h <;> omega)
theorem left_rungS {S A : Int} {u a r0 : Nat} {left : Int} (h : M.Left A u (2 ^ a * pw (-1074) * S) left) (h1 : V Ieee.double r0 = u * 2 ^ a) (h2 : V Ieee.double (r0 + 1) = (u + 1) * 2 ^ a) : RungS S A r0 left := by
  obtain ⟨lo, hi, l0, l1, l2, l3⟩ := h
  have e1 : vS r0 * S = (u : Int) * (2 ^ a * pw (-1074) * S) := by
    unfold vS
    rw [h1]
    push_cast
    simp only [Int.mul_assoc]
  have e2 : vS (r0 + 1) * S = (u : Int) * (2 ^ a * pw (-1074) * S) + 2 ^ a * pw (-1074) * S := by
    unfold vS
    rw [h2]
    push_cast
    simp only [Int.add_mul, Int.one_mul, Int.mul_assoc]
  generalize (2 : Int) ^ a * pw (-1074) * S = q at *
  generalize (u : Int) * q = U at *
  generalize hX : vS r0 * S = X at *
  generalize hY : vS (r0 + 1) * S = Y at *
  subst e1 e2
  exact ⟨by rw [hX]; omega, by rw [hY]; omega, by rw [hX]; exact l0, by rw [hX, hY, l1]; constructor <;> intro h <;> omega, by rw [hX, hY, l2]; constructor <;> intro h <;> omega, by rw [hX, hY, l3]; constructor <;> intro h <;> omega⟩
theorem r64_specS {way : Int} {ng sd : Bool} {mag : Nat} {exp : Int} {cut : Bool} (hm : mag < 2 ^ 64) (h0 : mag ≠ 0) (he : -4194304 ≤ exp) (hc : cut = true → 2 ^ 60 ≤ mag) :
    ∃ (r0 : Nat) (left : Int), (∀ S A : Int, 0 < S → HeldS S A mag exp cut → RungS S A r0 left) ∧ r64 way ng sd mag exp cut = (patS (ng && (decide (0 < rTo way ng r0 left) || sd)) (rTo way ng r0 left), decide (left ≠ 0) || decide (9218868437227405312 ≤ (r0 : Int))) := by
  have e64 : (2 : Nat) ^ 64 = 18446744073709551616 := by decide
  obtain ⟨b1, b2, b3, b4⟩ := M.bitLen_spec mag hm h0
  have hbits := rU_bits (size := 53) (low := -1074) (exp := exp) (by decide) hm h0
  have hE1 : -1074 ≤ rE 53 (-1074) mag exp := by unfold rE; omega
  have hcs : cut = true → 0 < rE 53 (-1074) mag exp - exp := fun h => by
    have h1 := hc h
    have h2 : 60 < Lib.bitLen mag := by
      have := (Nat.pow_lt_pow_iff_right (by decide : 1 < 2)).1 (Nat.lt_of_le_of_lt h1 b2)
      exact this
    unfold rE
    omega
  have hL := fun (S A : Int) (hS : 0 < S) (hA : HeldS S A mag exp cut) => left_ofS hS hA hcs (e := rE 53 (-1074) mag exp) (by omega) he
  obtain ⟨E, hE⟩ : ∃ E, rE 53 (-1074) mag exp = E := ⟨_, rfl⟩
  have HR : r64 way ng sd mag exp cut = (let E := rE 53 (-1074) mag exp
    let u := rU mag (E - exp)
    let left := rL mag cut (E - exp)
    let U := u + (if rUp way ng (decide (u % 2 = 1)) left then 1 else 0)
    let neg := ng && (decide (0 < U) || sd)
    if jk 52 2047 (-1074) U E then (jp neg U E, decide (left ≠ 0)) else (patS neg (bRung way neg), true)) := rfl
  simp only at HR
  rw [hE] at hbits hE1 hL HR
  obtain ⟨u, hu⟩ : ∃ u, rU mag (E - exp) = u := ⟨_, rfl⟩
  obtain ⟨left, hl⟩ : ∃ l, rL mag cut (E - exp) = l := ⟨_, rfl⟩
  rw [hu] at hbits hL HR
  rw [hl] at hL HR
  obtain ⟨a, ha⟩ : ∃ a, (E - -1074).toNat = a := ⟨_, rfl⟩
  have e53 : (2 : Nat) ^ (53 : Int).toNat = 9007199254740992 := by decide
  have e52 : (2 : Nat) ^ ((53 : Int).toNat - 1) = 4503599627370496 := by decide
  rw [e53, e52] at hbits
  have eB : Ieee.double.binade = 4503599627370496 := by decide
  have hV := V_rung Ieee.double a u (by rw [eB]; omega) (fun h => by rw [eB]; exact hbits.2 (by omega))
  rw [eB] at hV
  have hpw : pw E = 2 ^ a * pw (-1074) := by rw [pw_sub (e := E) (low := -1074) (by decide) hE1, ha]
  rw [hpw] at hL
  refine ⟨a * 4503599627370496 + u, left, fun S A hS hA => left_rungS (hL S A hS hA) hV.1 hV.2, ?_⟩
  rw [HR]
  have hodd : decide ((a * 4503599627370496 + u) % 2 = 1) = decide (u % 2 = 1) := by congr 1; apply propext; omega
  unfold rTo
  rw [hodd]
  obtain ⟨R, hR⟩ : ∃ R, rUp way ng (decide (u % 2 = 1)) left = R := ⟨_, rfl⟩
  rw [hR]
  obtain ⟨U, hU⟩ : ∃ U, u + (if R = true then 1 else 0) = U := ⟨_, rfl⟩
  rw [hU]
  have hR1 : R = true → left ≠ 0 := fun h hz => by rw [hz, h] at hR; exact rUp_left hR
  have hR2 : R = true → rUp way ng true 3 = true := fun h => rUp_more (hR.trans h)
  have hUle : U ≤ 9007199254740992 := by rw [← hU]; split <;> omega
  have hcast : ((a * 4503599627370496 + u : Nat) : Int) + (if R = true then 1 else 0) = ((a * 4503599627370496 + U : Nat) : Int) := by
    rw [← hU]
    cases R <;> simp only [if_true, if_false, Bool.false_eq_true] <;> omega
  rw [hcast]
  by_cases hU0 : U = 0
  · have hu0 : u = 0 := by rw [← hU] at hU0; omega
    have ha0 : a = 0 := by
      rcases Nat.eq_zero_or_pos a with h | h
      · exact h
      · have := hbits.2 (by omega); omega
    subst hU0 hu0 ha0
    have hj : jk 52 2047 (-1074) ((0 : Nat) : Int) E = true := rfl
    rw [hj]
    rw [if_pos rfl, if_pos (by decide)]
    have hd : decide (9218868437227405312 ≤ ((0 * 4503599627370496 + 0 : Nat) : Int)) = false := by decide
    rw [hd, Bool.or_false]
    cases ng <;> cases sd <;> rfl
  · have hjr := join_rung Ieee.double 52 (by decide) dB 2047 (-1074) (by decide) U E (by omega) (by rw [show (2 : Nat) ^ (52 + 1) = 9007199254740992 by decide]; exact hUle) hE1 (fun h => by rw [show (2 : Nat) ^ 52 = 4503599627370496 by decide]; have := hbits.2 h; rw [← hU]; omega)
    simp only at hjr
    rw [ha, show (2 : Nat) ^ 52 = 4503599627370496 by decide, show (2047 : Int) * 2 ^ 52 = 9218868437227405312 by decide] at hjr
    obtain ⟨j1, j2⟩ := hjr
    have hpos : decide (0 < U) = true := decide_eq_true (by omega)
    rw [show jk ((52 : Nat) : Int) 2047 (-1074) (U : Int) E = jk 52 2047 (-1074) (U : Int) E from rfl] at j1
    rw [j1, hpos, Bool.true_or, Bool.and_true]
    by_cases hf : ((a * 4503599627370496 + U : Nat) : Int) < 9218868437227405312
    · have huU : u ≤ U := by rw [← hU]; omega
      have hf0 : ((a * 4503599627370496 + u : Nat) : Int) < 9218868437227405312 := by omega
      rw [decide_eq_true hf, if_pos rfl, if_pos hf0, decide_eq_false (p := 9218868437227405312 ≤ ((a * 4503599627370496 + u : Nat) : Int)) (by omega), Bool.or_false]
      have hd : decide (0 < ((a * 4503599627370496 + U : Nat) : Int)) = true := decide_eq_true (by omega)
      rw [hd, Bool.true_or, Bool.and_true]
      congr 1
      have hjk : jk 52 2047 (-1074) (U : Int) E = true := by rw [j1]; exact decide_eq_true hf
      have hjv := j2 hf
      rw [show jv ((52 : Nat) : Int) 2047 (-1074) (U : Int) E = jv 52 2047 (-1074) (U : Int) E from rfl] at hjv
      unfold jp patS
      rw [hjk, hjv, Bool.true_and]
    · rw [decide_eq_false hf, if_neg (by simp)]
      by_cases hf0 : ((a * 4503599627370496 + u : Nat) : Int) < 9218868437227405312
      · have hRt : R = true := by
          cases R
          · exfalso; simp at hU; omega
          · rfl
        have hUe : ((a * 4503599627370496 + U : Nat) : Int) = 9218868437227405312 := by rw [hRt] at hU; simp at hU; omega
        rw [if_pos hf0, hUe, decide_eq_true (hR1 hRt), Bool.true_or]
        congr 1
        have : bRung way ng = 9218868437227405312 := by unfold bRung; rw [hR2 hRt, if_pos rfl]
        rw [this]
        simp
      · rw [if_neg hf0, decide_eq_true (p := 9218868437227405312 ≤ ((a * 4503599627370496 + u : Nat) : Int)) (by omega), Bool.or_true]
        congr 1
        have hd : decide (0 < bRung way ng) = true := by unfold bRung; split <;> decide
        rw [hd, Bool.true_or, Bool.and_true]
end Go.Proofs.YtcpjdgfnblkfpaaGreatDoor
