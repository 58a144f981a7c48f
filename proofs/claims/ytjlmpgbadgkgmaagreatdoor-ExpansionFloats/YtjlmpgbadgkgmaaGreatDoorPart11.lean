/-
  Parts of the proof, one behind another.
-/
import Derived.Test.YtjlmpgbadgkgmaaGreatDoorPart10
import Derived.Test.YtjlmpgbadgkgmaaGreatDoorPart8
import Derived.Test.YtjlmpgbadgkgmaaGreatDoorPart7
/-
  Plain mathematics: what binary64 answers, by rungs, where the number is a quotient. No Go text in sight.
-/
namespace Go.Proofs.YtjlmpgbadgkgmaaGreatDoor
open Go Go.RowKit Go.Proofs.YtjlmpgbadgkgmaaGreatDoor.M
set_option linter.unusedSimpArgs false
set_option linter.unusedVariables false

/-- What is known of A / S: mag 2^exp, or more by less than 2^exp. -/
def HeldS (S A : Int) (mag : Nat) (exp : Int) (cut : Bool) : Prop := (mag : Int) * (pw exp * S) ≤ A ∧ A < ((mag : Int) + 1) * (pw exp * S) ∧ (cut = false ↔ A = (mag : Int) * (pw exp * S))
/-- A / S among the rungs. -/
structure RungS (S A : Int) (r0 : Nat) (left : Int) : Prop where
  lo : vS r0 * S ≤ A
  hi : A < vS (r0 + 1) * S
  l0 : left = 0 ↔ A = vS r0 * S
  l1 : left = 1 ↔ vS r0 * S < A ∧ 2 * A < vS r0 * S + vS (r0 + 1) * S
  l2 : left = 2 ↔ 2 * A = vS r0 * S + vS (r0 + 1) * S
  l3 : left = 3 ↔ vS r0 * S + vS (r0 + 1) * S < 2 * A
theorem left_ofS {S A : Int} {mag : Nat} {exp e : Int} {cut : Bool} (hS : 0 < S) (h : HeldS S A mag exp cut) (hc : cut = true → 0 < e - exp) (h0 : -4194304 ≤ e) (h1 : -4194304 ≤ exp) : M.Left A (rU mag (e - exp)) (pw e * S) (rL mag cut (e - exp)) := by
  obtain ⟨a1, a2, a3⟩ := h
  have hq : 0 < pw exp * S := Int.mul_pos (pw_pos exp) hS
  have hqe : 0 < pw e * S := Int.mul_pos (pw_pos e) hS
  by_cases hs : e - exp ≤ 0
  · have hcf : cut = false := by cases cut; rfl; have := hc rfl; omega
    have hA := a3.1 hcf
    unfold rU rL
    rw [if_pos hs, if_pos hs]
    have e1 : ((mag * 2 ^ (-(e - exp)).toNat : Nat) : Int) * (pw e * S) = A := by
      rw [hA, pw_sub (e := exp) (low := e) h0 (by omega), show (exp - e).toNat = (-(e - exp)).toNat by omega]
      push_cast
      simp only [Int.mul_assoc]
    exact ⟨by rw [e1]; omega, by rw [e1]; omega, by rw [e1]; simp, by rw [e1]; constructor <;> intro h <;> omega, by rw [e1]; constructor <;> intro h <;> omega, by rw [e1]; constructor <;> intro h <;> omega⟩
  · have hp : pw e * S = 2 ^ (e - exp).toNat * (pw exp * S) := by rw [pw_sub (e := e) (low := exp) h1 (by omega), Int.mul_assoc]
    obtain ⟨s, hsn⟩ : ∃ s, (e - exp).toNat = s := ⟨_, rfl⟩
    have hs0 : 0 < s := by omega
    unfold rU rL
    rw [if_neg hs, if_neg hs, hsn]
    rw [hsn] at hp
    obtain ⟨k, hk, hk0⟩ := two_half s hs0
    have hpn : (2 : Int) ^ s = ((2 ^ s : Nat) : Int) := by simp
    rw [hpn, hk] at hp
    rw [hk]
    have hdm := Nat.div_add_mod mag (2 * k)
    have hml := Nat.mod_lt mag (show 0 < 2 * k by omega)
    generalize mag / (2 * k) = u at *
    generalize mag % (2 * k) = t at *
    generalize hQ : pw exp * S = q at *
    have e1 : (mag : Int) * q = (u : Int) * (((2 * k : Nat) : Int) * q) + (t : Int) * q := by
      rw [← hdm]; push_cast; rw [Int.add_mul]; congr 1; rw [Int.mul_comm (2 * (k : Int)) u, Int.mul_assoc]
    have e2 : ((mag : Int) + 1) * q = (mag : Int) * q + q := by rw [Int.add_mul, Int.one_mul]
    rw [e2, e1] at a2
    rw [e1] at a1 a3
    rw [hp]
    have e3 : ((2 * k : Nat) : Int) * q = 2 * ((k : Int) * q) := by push_cast; rw [Int.mul_assoc]
    have t1 : ∀ x y : Nat, x ≤ y → (x : Int) * q ≤ (y : Int) * q := fun x y h => Int.mul_le_mul_of_nonneg_right (by omega) (by omega)
    have t2 : ∀ x y : Nat, x < y → (x : Int) * q + q ≤ (y : Int) * q := fun x y h => by
      have := t1 (x + 1) y h
      push_cast at this
      rwa [Int.add_mul, Int.one_mul] at this
    have t0 : 0 ≤ (t : Int) * q := Int.mul_nonneg (by omega) (by omega)
    have b1 : (t : Int) * q + q ≤ 2 * ((k : Int) * q) := by rw [← e3]; exact t2 t (2 * k) hml
    rw [e3] at a1 a2 a3 ⊢
    have c1 : t < k → (t : Int) * q + q ≤ (k : Int) * q := t2 t k
    have c2 : t = k → (t : Int) * q = (k : Int) * q := fun h => by rw [h]
    have c3 : k < t → (k : Int) * q + q ≤ (t : Int) * q := t2 k t
    have c4 : t = 0 → (t : Int) * q = 0 := fun h => by rw [h]; simp
    have c5 : 0 < t → q ≤ (t : Int) * q := fun h => by have := t1 1 t h; rwa [Int.natCast_one, Int.one_mul] at this
    clear e1 e2 e3 t1 t2 hp
    obtain ⟨T, hT⟩ : ∃ T, (t : Int) * q = T := ⟨_, rfl⟩
    obtain ⟨K, hK⟩ : ∃ K, (k : Int) * q = K := ⟨_, rfl⟩
    obtain ⟨U, hU⟩ : ∃ U, (u : Int) * (2 * K) = U := ⟨_, rfl⟩
    rw [hT] at c1 c2 c3 c4 c5 t0 b1 a1 a2 a3
    rw [hK] at c1 c2 c3 b1 a1 a2 a3 ⊢
    rw [hU] at a1 a2 a3
    have a3' : cut = true → A ≠ U + T := fun h h2 => by rw [a3.2 h2] at h; cases h
    cases cut
    · have hA := a3.1 rfl
      subst hA
      by_cases z0 : t = 0
      · have := c4 z0
        rw [if_pos ⟨z0, rfl⟩]
        exact M.Left.mk' hU (by omega) (by omega) (by constructor <;> intro h <;> omega) (by constructor <;> intro h <;> omega) (by constructor <;> intro h <;> omega) (by constructor <;> intro h <;> omega)
      · have := c5 (by omega)
        rw [if_neg (fun h => z0 h.1)]
        by_cases z1 : t < k
        · have := c1 z1
          rw [if_pos (by omega)]
          exact M.Left.mk' hU (by omega) (by omega) (by constructor <;> intro h <;> omega) (by constructor <;> intro h <;> omega) (by constructor <;> intro h <;> omega) (by constructor <;> intro h <;> omega)
        · rw [if_neg (by omega)]
          by_cases z2 : t = k
          · have := c2 z2
            rw [if_pos ⟨by omega, rfl⟩]
            exact M.Left.mk' hU (by omega) (by omega) (by constructor <;> intro h <;> omega) (by constructor <;> intro h <;> omega) (by constructor <;> intro h <;> omega) (by constructor <;> intro h <;> omega)
          · have := c3 (by omega)
            rw [if_neg (fun h => z2 (by omega))]
            exact M.Left.mk' hU (by omega) (by omega) (by constructor <;> intro h <;> omega) (by constructor <;> intro h <;> omega) (by constructor <;> intro h <;> omega) (by constructor <;> intro h <;> omega)
    · have hA := a3' rfl
      rw [if_neg (fun h => by cases h.2)]
      by_cases z1 : t < k
      · have := c1 z1
        rw [if_pos (by omega)]
        exact M.Left.mk' hU (by omega) (by omega) (by constructor <;> intro h <;> omega) (by constructor <;> intro h <;> omega) (by constructor <;> intro h <;> omega) (by constructor <;> intro h <;> omega)
      · rw [if_neg (by omega), if_neg (fun h => by cases h.2)]
        have hkt : K ≤ T := by
          by_cases z2 : t = k
          · have := c2 z2; omega
          · have := c3 (by omega); omega
        exact M.Left.mk' hU (by omega) (by omega) (by constructor <;> intro h <;> omega) (by constructor <;> intro h <;> omega) (by constructor <;> intro h <;> omega) (by constructor <;> intro h <;> omega)
theorem left_rungS {S A : Int} {u a r0 : Nat} {left : Int} (h : M.Left A u (2 ^ a * pw (-1074) * S) left) (h1 : V Ieee.double r0 = u * 2 ^ a) (h2 : V Ieee.double (r0 + 1) = (u + 1) * 2 ^ a) : RungS S A r0 left := by
  obtain ⟨lo, hi, l0, l1, l2, l3⟩ := h
  have e1 : vS r0 * S = (u : Int) * (2 ^ a * pw (-1074) * S) := by
    unfold vS
    rw [h1]
    push_cast
    simp only [Int.mul_assoc]
  have e2 : vS (r0 + 1) * S = (u : Int) * (2 ^ a * pw (-1074) * S) + 2 ^ a * pw (-1074) * S := by
    unfold vS
    rw [h2]
    push_cast
    simp only [Int.add_mul, Int.one_mul, Int.mul_assoc]
  generalize (2 : Int) ^ a * pw (-1074) * S = q at *
  generalize (u : Int) * q = U at *
  generalize hX : vS r0 * S = X at *
  generalize hY : vS (r0 + 1) * S = Y at *
  subst e1 e2
  exact ⟨by rw [hX]; omega, by rw [hY]; omega, by rw [hX]; exact l0, by rw [hX, hY, l1]; constructor <;> intro h <;> omega, by rw [hX, hY, l2]; constructor <;> intro h <;> omega, by rw [hX, hY, l3]; constructor <;> intro h <;> omega⟩
theorem r64_specS {way : Int} {ng sd : Bool} {mag : Nat} {exp : Int} {cut : Bool} (hm : mag < 2 ^ 64) (h0 : mag ≠ 0) (he : -4194304 ≤ exp) (hc : cut = true → 2 ^ 60 ≤ mag) :
    ∃ (r0 : Nat) (left : Int), (∀ S A : Int, 0 < S → HeldS S A mag exp cut → RungS S A r0 left) ∧ r64 way ng sd mag exp cut = (patS (ng && (decide (0 < rTo way ng r0 left) || sd)) (rTo way ng r0 left), decide (left ≠ 0) || decide (9218868437227405312 ≤ (r0 : Int))) := by
  have e64 : (2 : Nat) ^ 64 = 18446744073709551616 := by decide
  obtain ⟨b1, b2, b3, b4⟩ := M.bitLen_spec mag hm h0
  have hbits := rU_bits (size := 53) (low := -1074) (exp := exp) (by decide) hm h0
  have hE1 : -1074 ≤ rE 53 (-1074) mag exp := by unfold rE; omega
  have hcs : cut = true → 0 < rE 53 (-1074) mag exp - exp := fun h => by
    have h1 := hc h
    have h2 : 60 < Lib.bitLen mag := by
      have := (Nat.pow_lt_pow_iff_right (by decide : 1 < 2)).1 (Nat.lt_of_le_of_lt h1 b2)
      exact this
    unfold rE
    omega
  have hL := fun (S A : Int) (hS : 0 < S) (hA : HeldS S A mag exp cut) => left_ofS hS hA hcs (e := rE 53 (-1074) mag exp) (by omega) he
  obtain ⟨E, hE⟩ : ∃ E, rE 53 (-1074) mag exp = E := ⟨_, rfl⟩
  have HR : r64 way ng sd mag exp cut = (let E := rE 53 (-1074) mag exp
    let u := rU mag (E - exp)
    let left := rL mag cut (E - exp)
    let U := u + (if rUp way ng (decide (u % 2 = 1)) left then 1 else 0)
    let neg := ng && (decide (0 < U) || sd)
    if jk 52 2047 (-1074) U E then (jp neg U E, decide (left ≠ 0)) else (patS neg (bRung way neg), true)) := rfl
  simp only at HR
  rw [hE] at hbits hE1 hL HR
  obtain ⟨u, hu⟩ : ∃ u, rU mag (E - exp) = u := ⟨_, rfl⟩
  obtain ⟨left, hl⟩ : ∃ l, rL mag cut (E - exp) = l := ⟨_, rfl⟩
  rw [hu] at hbits hL HR
  rw [hl] at hL HR
  obtain ⟨a, ha⟩ : ∃ a, (E - -1074).toNat = a := ⟨_, rfl⟩
  have e53 : (2 : Nat) ^ (53 : Int).toNat = 9007199254740992 := by decide
  have e52 : (2 : Nat) ^ ((53 : Int).toNat - 1) = 4503599627370496 := by decide
  rw [e53, e52] at hbits
  have eB : Ieee.double.binade = 4503599627370496 := by decide
  have hV := V_rung Ieee.double a u (by rw [eB]; omega) (fun h => by rw [eB]; exact hbits.2 (by omega))
  rw [eB] at hV
  have hpw : pw E = 2 ^ a * pw (-1074) := by rw [pw_sub (e := E) (low := -1074) (by decide) hE1, ha]
  rw [hpw] at hL
  refine ⟨a * 4503599627370496 + u, left, fun S A hS hA => left_rungS (hL S A hS hA) hV.1 hV.2, ?_⟩
  rw [HR]
  have hodd : decide ((a * 4503599627370496 + u) % 2 = 1) = decide (u % 2 = 1) := by congr 1; apply propext; omega
  unfold rTo
  rw [hodd]
  obtain ⟨R, hR⟩ : ∃ R, rUp way ng (decide (u % 2 = 1)) left = R := ⟨_, rfl⟩
  rw [hR]
  obtain ⟨U, hU⟩ : ∃ U, u + (if R = true then 1 else 0) = U := ⟨_, rfl⟩
  rw [hU]
  have hR1 : R = true → left ≠ 0 := fun h hz => by rw [hz, h] at hR; exact rUp_left hR
  have hR2 : R = true → rUp way ng true 3 = true := fun h => rUp_more (hR.trans h)
  have hUle : U ≤ 9007199254740992 := by rw [← hU]; split <;> omega
  have hcast : ((a * 4503599627370496 + u : Nat) : Int) + (if R = true then 1 else 0) = ((a * 4503599627370496 + U : Nat) : Int) := by
    rw [← hU]
    cases R <;> simp only [if_true, if_false, Bool.false_eq_true] <;> omega
  rw [hcast]
  by_cases hU0 : U = 0
  · have hu0 : u = 0 := by rw [← hU] at hU0; omega
    have ha0 : a = 0 := by
      rcases Nat.eq_zero_or_pos a with h | h
      · exact h
      · have := hbits.2 (by omega); omega
    subst hU0 hu0 ha0
    have hj : jk 52 2047 (-1074) ((0 : Nat) : Int) E = true := rfl
    rw [hj]
    rw [if_pos rfl, if_pos (by decide)]
    have hd : decide (9218868437227405312 ≤ ((0 * 4503599627370496 + 0 : Nat) : Int)) = false := by decide
    rw [hd, Bool.or_false]
    cases ng <;> cases sd <;> rfl
  · have hjr := join_rung Ieee.double 52 (by decide) dB 2047 (-1074) (by decide) U E (by omega) (by rw [show (2 : Nat) ^ (52 + 1) = 9007199254740992 by decide]; exact hUle) hE1 (fun h => by rw [show (2 : Nat) ^ 52 = 4503599627370496 by decide]; have := hbits.2 h; rw [← hU]; omega)
    simp only at hjr
    rw [ha, show (2 : Nat) ^ 52 = 4503599627370496 by decide, show (2047 : Int) * 2 ^ 52 = 9218868437227405312 by decide] at hjr
    obtain ⟨j1, j2⟩ := hjr
    have hpos : decide (0 < U) = true := decide_eq_true (by omega)
    rw [show jk ((52 : Nat) : Int) 2047 (-1074) (U : Int) E = jk 52 2047 (-1074) (U : Int) E from rfl] at j1
    rw [j1, hpos, Bool.true_or, Bool.and_true]
    by_cases hf : ((a * 4503599627370496 + U : Nat) : Int) < 9218868437227405312
    · have huU : u ≤ U := by rw [← hU]; omega
      have hf0 : ((a * 4503599627370496 + u : Nat) : Int) < 9218868437227405312 := by omega
      rw [decide_eq_true hf, if_pos rfl, if_pos hf0, decide_eq_false (p := 9218868437227405312 ≤ ((a * 4503599627370496 + u : Nat) : Int)) (by omega), Bool.or_false]
      have hd : decide (0 < ((a * 4503599627370496 + U : Nat) : Int)) = true := decide_eq_true (by omega)
      rw [hd, Bool.true_or, Bool.and_true]
      congr 1
      have hjk : jk 52 2047 (-1074) (U : Int) E = true := by rw [j1]; exact decide_eq_true hf
      have hjv := j2 hf
      rw [show jv ((52 : Nat) : Int) 2047 (-1074) (U : Int) E = jv 52 2047 (-1074) (U : Int) E from rfl] at hjv
      unfold jp patS
      rw [hjk, hjv, Bool.true_and]
    · rw [decide_eq_false hf, if_neg (by simp)]
      by_cases hf0 : ((a * 4503599627370496 + u : Nat) : Int) < 9218868437227405312
      · have hRt : R = true := by
          cases R
          · exfalso; simp at hU; omega
          · rfl
        have hUe : ((a * 4503599627370496 + U : Nat) : Int) = 9218868437227405312 := by rw [hRt] at hU; simp at hU; omega
        rw [if_pos hf0, hUe, decide_eq_true (hR1 hRt), Bool.true_or]
        congr 1
        have : bRung way ng = 9218868437227405312 := by unfold bRung; rw [hR2 hRt, if_pos rfl]
        rw [this]
        simp
      · rw [if_neg hf0, decide_eq_true (p := 9218868437227405312 ≤ ((a * 4503599627370496 + u : Nat) : Int)) (by omega), Bool.or_true]
        congr 1
        have hd : decide (0 < bRung way ng) = true := by unfold bRung; split <;> decide
        rw [hd, Bool.true_or, Bool.and_true]
end Go.Proofs.YtjlmpgbadgkgmaaGreatDoor

/-
  Plain mathematics: a quotient's rung, and what RoundQuots asks of it.
-/
namespace Go.Proofs.YtjlmpgbadgkgmaaGreatDoor
open Go Go.RowKit Go.Proofs.YtjlmpgbadgkgmaaGreatDoor.M
set_option linter.unusedSimpArgs false
set_option linter.unusedVariables false

theorem pw_cross {x y u v : Int} {n : Nat} (hx : -4194304 ≤ x) (hy : -4194304 ≤ y) (hu : -4194304 ≤ u) (hv : -4194304 ≤ v) (h : x + y = u + v + n) : pw x * pw y = 2 ^ n * (pw u * pw v) := by
  unfold pw
  rw [← Int.pow_add, ← Int.pow_add, ← Int.pow_add]
  congr 1
  omega
theorem held_core1 {MA MB X Y D N mag rest : Int} (hY : Y = D * X) (hN : MA * D = N) (hd : MB * mag + rest = N) (r0 : 0 ≤ rest) (r1 : rest < MB) (hX : 0 < X) :
    mag * (MB * X) ≤ MA * Y ∧ MA * Y < (mag + 1) * (MB * X) ∧ (rest = 0 ↔ MA * Y = mag * (MB * X)) := by
  have e : MA * Y = mag * (MB * X) + rest * X := by
    rw [hY, ← Int.mul_assoc, hN, ← hd, Int.add_mul, Int.mul_comm MB mag, Int.mul_assoc]
  have e2 : (mag + 1) * (MB * X) = mag * (MB * X) + MB * X := by rw [Int.add_mul, Int.one_mul]
  have t0 : 0 ≤ rest * X := Int.mul_nonneg r0 (Int.le_of_lt hX)
  have t1 : rest * X < MB * X := Int.mul_lt_mul_of_pos_right r1 hX
  rw [e, e2]
  refine ⟨by omega, by omega, ?_⟩
  constructor
  · intro h
    rw [h, Int.zero_mul, Int.add_zero]
  · intro h
    by_cases h0 : rest = 0
    · exact h0
    · have : 0 < rest * X := Int.mul_pos (by omega) hX
      omega
theorem held_core2 {MA MB X Y D N t mag rest : Int} (hX : X = D * Y) (hN : D * N + t = MA) (t0 : 0 ≤ t) (t1 : t < D) (hd : MB * mag + rest = N) (r0 : 0 ≤ rest) (r1 : rest < MB) (hY : 0 < Y) :
    mag * (MB * X) ≤ MA * Y ∧ MA * Y < (mag + 1) * (MB * X) ∧ ((t = 0 ∧ rest = 0) ↔ MA * Y = mag * (MB * X)) := by
  have hD : 0 < D := by omega
  have e : MA * Y = mag * (MB * X) + (D * rest + t) * Y := by
    rw [← hN, ← hd, hX]
    simp only [Int.mul_add, Int.add_mul]
    have : D * (MB * mag) * Y = mag * (MB * (D * Y)) := by
      rw [Int.mul_comm MB mag, ← Int.mul_assoc D, Int.mul_comm D mag, Int.mul_assoc mag D, Int.mul_assoc mag, Int.mul_comm D MB, Int.mul_assoc MB]
    rw [this]
    omega
  have e2 : (mag + 1) * (MB * X) = mag * (MB * X) + MB * X := by rw [Int.add_mul, Int.one_mul]
  have e3 : MB * X = (D * MB) * Y := by rw [hX, ← Int.mul_assoc, Int.mul_comm MB D]
  have q0 : 0 ≤ D * rest := Int.mul_nonneg (Int.le_of_lt hD) r0
  have q1 : D * rest + t < D * MB := by
    have : D * (rest + 1) ≤ D * MB := Int.mul_le_mul_of_nonneg_left (by omega) (Int.le_of_lt hD)
    rw [Int.mul_add, Int.mul_one] at this
    omega
  have t2 : 0 ≤ (D * rest + t) * Y := Int.mul_nonneg (by omega) (Int.le_of_lt hY)
  have t3 : (D * rest + t) * Y < (D * MB) * Y := Int.mul_lt_mul_of_pos_right q1 hY
  rw [e, e2, e3]
  rw [e3] at e2
  refine ⟨by omega, by omega, ?_⟩
  constructor
  · rintro ⟨h, h'⟩
    rw [h, h', Int.mul_zero, Int.add_zero, Int.zero_mul, Int.add_zero]
  · intro h
    by_cases h0 : D * rest + t = 0
    · have h1 : D * rest = 0 := by omega
      rcases Int.mul_eq_zero.1 h1 with h2 | h2
      · omega
      · exact ⟨by omega, h2⟩
    · have : 0 < (D * rest + t) * Y := Int.mul_pos (by omega) hY
      omega
theorem scV_big {A B : Int} (hA : 0 < A) (hB : 0 < B) : 2 ^ 61 ≤ scV A (qK A B) / B := by
  have b1 := blen_pos hA
  have b2 := blen_lt B
  have b3 := blen_pos hB
  rw [Int.le_ediv_iff_mul_le hB]
  have hs : 2 ^ (61 + blen B) ≤ scV A (qK A B) := by
    unfold scV qK
    by_cases h : 0 ≤ 62 + (blen B : Int) - (blen A : Int)
    · rw [if_pos h]
      have e : (2 : Int) ^ (61 + blen B) = 2 ^ (blen A - 1) * 2 ^ (62 + (blen B : Int) - (blen A : Int)).toNat := by rw [← Int.pow_add]; congr 1; omega
      rw [e]
      exact Int.mul_le_mul_of_nonneg_right b1.2 (Int.le_of_lt (two_pos _))
    · rw [if_neg h, Int.le_ediv_iff_mul_le (two_pos _), ← Int.pow_add]
      rw [show 61 + blen B + (-(62 + (blen B : Int) - (blen A : Int))).toNat = blen A - 1 by omega]
      exact b1.2
  refine Int.le_trans ?_ hs
  rw [Int.pow_add]
  exact Int.mul_le_mul_of_nonneg_left (by omega) (by decide)
theorem held_quot {MA MB ea eb : Int} (hA : 0 ≤ MA) (hB : 0 < MB) (a0 : -1100000 ≤ ea) (a1 : ea ≤ 1100000) (b0 : -1100000 ≤ eb) (b1 : eb ≤ 1100000) (lA : blen MA ≤ 150000) (lB : blen MB ≤ 150000) :
    HeldS (MB * pw eb) (MA * (pw ea * pw 0)) (scV MA (qK MA MB) / MB).toNat (ea - eb - qK MA MB) (scC MA (qK MA MB) || decide (scV MA (qK MA MB) % MB ≠ 0)) := by
  have hsm := qK_small hA hB
  have hqk : qK MA MB = 62 + (blen MB : Int) - (blen MA : Int) := rfl
  obtain ⟨k, hk⟩ : ∃ k, qK MA MB = k := ⟨_, rfl⟩
  rw [hk] at hsm hqk ⊢
  obtain ⟨m, hm⟩ : ∃ m, scV MA k / MB = m := ⟨_, rfl⟩
  obtain ⟨r, hr⟩ : ∃ r, scV MA k % MB = r := ⟨_, rfl⟩
  have hd := Int.mul_ediv_add_emod (scV MA k) MB
  have r0 := Int.emod_nonneg (scV MA k) (show MB ≠ 0 by omega)
  have r1 := Int.emod_lt_of_pos (scV MA k) hB
  rw [hm] at hsm hd ⊢
  rw [hr] at hd r0 r1 ⊢
  obtain ⟨X, hX⟩ : ∃ X, pw (ea - eb - k) * pw eb = X := ⟨_, rfl⟩
  obtain ⟨Y, hY⟩ : ∃ Y, pw ea * pw 0 = Y := ⟨_, rfl⟩
  have hX0 : 0 < X := by rw [← hX]; exact Int.mul_pos (pw_pos _) (pw_pos _)
  have hY0 : 0 < Y := by rw [← hY]; exact Int.mul_pos (pw_pos _) (pw_pos _)
  have e1 : pw (ea - eb - k) * (MB * pw eb) = MB * X := by rw [← hX, Int.mul_comm MB, ← Int.mul_assoc, Int.mul_comm]
  unfold HeldS
  rw [e1, hY, Int.toNat_of_nonneg hsm.2.2.1]
  by_cases h : 0 ≤ k
  · have hc : Y = 2 ^ k.toNat * X := by
      rw [← hX, ← hY]
      exact pw_cross (by omega) (by decide) (by omega) (by omega) (by omega)
    have hsv : scV MA k = MA * 2 ^ k.toNat := by unfold scV; rw [if_pos h]
    have hsc : scC MA k = false := by unfold scC; rw [if_pos h]
    rw [hsc, Bool.false_or]
    obtain ⟨q1, q2, q3⟩ := held_core1 hc hsv.symm hd r0 r1 hX0
    exact ⟨q1, q2, by rw [← q3, decide_eq_false_iff_not]; constructor <;> intro h <;> omega⟩
  · have hc : X = 2 ^ (-k).toNat * Y := by
      rw [← hX, ← hY]
      exact pw_cross (by omega) (by omega) (by omega) (by decide) (by omega)
    have hsv : scV MA k = MA / 2 ^ (-k).toNat := by unfold scV; rw [if_neg h]
    have hsc : scC MA k = decide (MA % 2 ^ (-k).toNat ≠ 0) := by unfold scC; rw [if_neg h]
    have hp := two_pos (-k).toNat
    have hdd := Int.mul_ediv_add_emod MA (2 ^ (-k).toNat)
    have t0 := Int.emod_nonneg MA (show (2 : Int) ^ (-k).toNat ≠ 0 by omega)
    have t1 := Int.emod_lt_of_pos MA hp
    rw [← hsv] at hdd
    rw [hsc]
    obtain ⟨q1, q2, q3⟩ := held_core2 hc hdd t0 t1 hd r0 r1 hY0
    refine ⟨q1, q2, ?_⟩
    rw [← q3, Bool.or_eq_false_iff, decide_eq_false_iff_not, decide_eq_false_iff_not]
    constructor <;> intro h <;> omega
end Go.Proofs.YtjlmpgbadgkgmaaGreatDoor

/-
  Plain mathematics: what Quot answers by Down, and its neighbour above.
-/
namespace Go.Proofs.YtjlmpgbadgkgmaaGreatDoor
open Go Go.RowKit Go.Proofs.YtjlmpgbadgkgmaaGreatDoor.M
set_option linter.unusedSimpArgs false
set_option linter.unusedVariables false

theorem r64_zero (way e : Int) : r64 way false false 0 e false = (0, false) := by
  have HR : r64 way false false 0 e false = (let E := rE 53 (-1074) 0 e
    let u := rU 0 (E - e)
    let left := rL 0 false (E - e)
    let U := u + (if rUp way false (decide (u % 2 = 1)) left then 1 else 0)
    let neg := false && (decide (0 < U) || false)
    if jk 52 2047 (-1074) U E then (jp neg U E, decide (left ≠ 0)) else (patS neg (bRung way neg), true)) := rfl
  rw [HR]
  generalize rE 53 (-1074) 0 e = E
  have hu : rU 0 (E - e) = 0 := by unfold rU; split <;> simp
  have hl : rL 0 false (E - e) = 0 := by unfold rL; split <;> simp
  simp only [hu, hl]
  have hr : rUp way false (decide (0 % 2 = 1)) 0 = false := by
    cases h : rUp way false (decide (0 % 2 = 1)) 0
    · rfl
    · exact absurd h (fun q => rUp_left q)
  rw [hr]
  rfl
theorem rungS_zero_aux {a b : Int} (h0 : a = 0) (h1 : 0 < b) : a ≤ 0 ∧ (0 : Int) < b ∧ (((0 : Int) = 0 ↔ (0 : Int) = a) ∧ ((0 : Int) = 1 ↔ a < 0 ∧ 2 * 0 < a + b) ∧ ((0 : Int) = 2 ↔ 2 * 0 = a + b) ∧ ((0 : Int) = 3 ↔ a + b < 2 * 0)) := by
  subst h0
  exact ⟨Int.le_refl _, h1, by omega, by omega, by omega, by omega⟩
theorem rungS_zero {S : Int} (hS : 0 < S) : RungS S 0 0 0 := by
  have h1 := vS_lt (show 0 < 0 + 1 by decide)
  have h0 : vS 0 * S = 0 := by rw [vS_zero, Int.zero_mul]
  rw [vS_zero] at h1
  obtain ⟨p, q, a, b, c, d⟩ := rungS_zero_aux h0 (Int.mul_pos h1 hS)
  exact ⟨p, q, a, b, c, d⟩
/-- What Quot answers, by the quotient's rung. -/
theorem quot_rung {way : Int} {a b : NumR} (oa : okR a = true) (ob : okR b = true) (hb0 : 0 < b.n) (hbg : b.ng = false) :
    ∃ (r0 : Nat) (left : Int), RungS (val b.d b.n * pw b.e) (val a.d a.n * (pw a.e * pw 0)) r0 left ∧ qR64 way a b = (patS (a.ng && decide (0 < rTo way a.ng r0 left)) (rTo way a.ng r0 left), decide (left ≠ 0) || decide (9218868437227405312 ≤ (r0 : Int))) := by
  obtain ⟨na, hn, ea0, ea1⟩ := okR_sane oa
  obtain ⟨nb, hm, eb0, eb1⟩ := okR_sane ob
  have hB := val_pos nb hb0
  have hS : 0 < val b.d b.n * pw b.e := Int.mul_pos hB (pw_pos _)
  have hng : (a.ng != b.ng) = a.ng := by rw [hbg]; cases a.ng <;> rfl
  by_cases h0 : a.n = 0
  · have hv : val a.d a.n = 0 := by rw [h0]; rfl
    have hz : a.ng = false := by
      have := of_decide_eq_true oa
      rcases this with ⟨_, q, _⟩ | ⟨q, _⟩
      · exact q
      · omega
    refine ⟨0, 0, ?_, ?_⟩
    · rw [hv, Int.zero_mul]; exact rungS_zero hS
    · unfold qR64
      rw [hng, hz, hv]
      have e1 : (scV 0 (qK 0 (val b.d b.n)) / val b.d b.n).toNat = 0 := by
        have : scV 0 (qK 0 (val b.d b.n)) = 0 := by unfold scV; split <;> simp
        rw [this]; simp
      have e2 : (scC 0 (qK 0 (val b.d b.n)) || decide (scV 0 (qK 0 (val b.d b.n)) % val b.d b.n ≠ 0)) = false := by
        have : scV 0 (qK 0 (val b.d b.n)) = 0 := by unfold scV; split <;> simp
        rw [this]
        unfold scC; split <;> simp
      rw [e1, e2, r64_zero, rTo_zero]
      rfl
  · have hA := val_pos na (by omega)
    have hAl := blen_nrm na
    have hBl := blen_nrm nb
    have hh := held_quot (Int.le_of_lt hA) hB ea0 ea1 eb0 eb1 (by omega) (by omega)
    have hsm := qK_small (Int.le_of_lt hA) hB
    have hbig := scV_big hA hB
    have hqk : qK (val a.d a.n) (val b.d b.n) = 62 + (blen (val b.d b.n) : Int) - (blen (val a.d a.n) : Int) := rfl
    have e61 : (2 : Int) ^ 61 = 2305843009213693952 := by decide
    have e64 : (2 : Nat) ^ 64 = 18446744073709551616 := by decide
    have e60 : (2 : Nat) ^ 60 = 1152921504606846976 := by decide
    rw [e61] at hbig
    obtain ⟨r0, left, hR, hE⟩ := r64_specS (way := way) (ng := a.ng) (sd := false) (mag := (scV (val a.d a.n) (qK (val a.d a.n) (val b.d b.n)) / val b.d b.n).toNat) (exp := a.e - b.e - qK (val a.d a.n) (val b.d b.n)) (cut := scC (val a.d a.n) (qK (val a.d a.n) (val b.d b.n)) || decide (scV (val a.d a.n) (qK (val a.d a.n) (val b.d b.n)) % val b.d b.n ≠ 0)) (by omega) (by omega) (by omega) (fun _ => by omega)
    refine ⟨r0, left, hR _ _ hS hh, ?_⟩
    unfold qR64
    rw [hng, hE, Bool.or_false]
/-- What RoundQuots asks of an answer by Down: U / S is the quotient. -/
structure Quo (U S d : Int) (o : Bool) : Prop where
  rg : rng d
  fin : pok d = true → patV d * S ≤ U ∧ (patV d * S = U ↔ o = false)
  nxt : pok (next d) = true → U < patV (next d) * S
  neg : pok d = false → d < 0
theorem next_pos {r : Int} (h0 : 0 ≤ r) (h1 : r < 9218868437227405312) : next (patS false r) = patS false (r + 1) := by
  have hc := cls_pat (s := false) (r := r) h0 (by omega) (fun h => by cases h)
  unfold next
  rw [if_neg hc]
  show (if r = 9218868437227405312 then r else if r = -9223372036854775808 then 1 else if r < 0 then r - 1 else r + 1) = r + 1
  rw [if_neg (by omega), if_neg (by omega), if_neg (by omega)]
theorem next_neg {r : Int} (h0 : 0 < r) (h1 : r ≤ 9218868437227405312) : next (patS true r) = patS true (r - 1) := by
  have hc := cls_pat (s := true) (r := r) (by omega) h1 (fun _ => h0)
  unfold next
  rw [if_neg hc]
  show (if r - 9223372036854775808 = 9218868437227405312 then r - 9223372036854775808 else if r - 9223372036854775808 = -9223372036854775808 then 1 else if r - 9223372036854775808 < 0 then r - 9223372036854775808 - 1 else r - 9223372036854775808 + 1) = r - 1 - 9223372036854775808
  rw [if_neg (by omega), if_neg (by omega), if_pos (by omega)]
  omega
theorem pmag_nz : pmag (-9223372036854775808) = 0 := by decide
theorem patV_neg {r : Nat} (h : (r : Int) < 9218868437227405312) : patV (patS true (r : Int)) = sg true (vS r) := by
  by_cases h0 : r = 0
  · subst h0
    rw [vS_zero]
    show patV (-9223372036854775808) = sg true 0
    unfold patV
    rw [pmag_nz, sg_zero, sg_zero, Int.zero_mul]
  · exact patV_patS h (fun _ => by omega)
theorem pok_pos {r : Int} (h0 : 0 ≤ r) (h1 : r ≤ 9218868437227405312) (h : pok (patS false r) = true) : r < 9218868437227405312 := by
  rw [patS_pok h0 h1 (fun q => by cases q)] at h
  exact of_decide_eq_true h
/-- The cases of an answer by Down. -/
theorem Quo.pos {S A : Int} {r : Nat} {o : Bool} (hr : (r : Int) < 9218868437227405312) (lo : vS r * S ≤ A) (eq : vS r * S = A ↔ o = false) (hi : ((r + 1 : Nat) : Int) < 9218868437227405312 → A < vS (r + 1) * S) : Quo A S (patS false (r : Int)) o := by
  have hv : patV (patS false (r : Int)) = vS r := by
    have := patV_patS (ng := false) hr (fun h => by cases h)
    rw [this]
    unfold sg
    rw [if_neg (by decide)]
  have hnx : next (patS false (r : Int)) = patS false ((r + 1 : Nat) : Int) := by
    rw [next_pos (by omega) hr]; rfl
  refine ⟨(patS_facts (by omega) (by omega) (fun h => by cases h)).1, fun _ => ?_, fun h => ?_, fun h => ?_⟩
  · rw [hv]; exact ⟨lo, eq⟩
  · rw [hnx] at h ⊢
    have h1 := pok_pos (by omega) (by omega) h
    have := patV_patS (ng := false) h1 (fun h => by cases h)
    rw [this]
    unfold sg
    rw [if_neg (by decide)]
    exact hi h1
  · exfalso
    rw [patS_pok (by omega) (by omega) (fun h => by cases h)] at h
    exact absurd hr (of_decide_eq_false h)
theorem neg_le_aux {p A : Int} (h : A ≤ p) : -p ≤ -A := by omega
theorem sgT_mul (v S : Int) : sg true v * S = -(v * S) := by
  unfold sg
  rw [if_pos rfl, Int.neg_mul]
theorem neg_eq_iff {a b : Int} : -a = -b ↔ a = b := by omega
theorem Quo.neg' {S A : Int} {r : Nat} {o : Bool} (h0 : 0 < r) (hr : (r : Int) ≤ 9218868437227405312) (lo : (r : Int) < 9218868437227405312 → A ≤ vS r * S ∧ (vS r * S = A ↔ o = false)) (hi : vS (r - 1) * S < A) : Quo (-A) S (patS true (r : Int)) o := by
  have hnx : next (patS true (r : Int)) = patS true ((r - 1 : Nat) : Int) := by
    rw [next_neg (by omega) hr]; congr 1; omega
  refine ⟨(patS_facts (by omega) hr (fun _ => by omega)).1, fun h => ?_, fun h => ?_, fun h => ?_⟩
  · rw [patS_pok (by omega) hr (fun _ => by omega)] at h
    have h1 := of_decide_eq_true h
    obtain ⟨l1, l2⟩ := lo h1
    rw [patV_neg h1, sgT_mul]
    exact ⟨neg_le_aux l1, neg_eq_iff.trans l2⟩
  · rw [hnx, patV_neg (by omega), sgT_mul]
    exact Int.neg_lt_neg hi
  · exact ((patS_facts (by omega) hr (fun _ => by omega)).2.2).2 rfl
theorem k_cast {k : Nat} (hk2 : (k : Int) + 1 = 9218868437227405312) : (9218868437227405312 : Int) = ((k + 1 : Nat) : Int) ∧ ¬ ((k + 1 : Nat) : Int) < 9218868437227405312 ∧ ((k + 1 : Nat) : Int) ≤ 9218868437227405312 := by omega
theorem k_low {r : Nat} (h : 0 < r) : (0 : Int) < (r : Int) ∧ r - 1 < r := by omega
theorem quo_of {S A : Int} {r0 : Nat} {left : Int} {ng : Bool} (hS : 0 < S) (R : RungS S A r0 left) (zA : ng = true → 0 < A) : Quo (sg ng A) S (patS (ng && decide (0 < rTo 1 ng r0 left)) (rTo 1 ng r0 left)) (decide (left ≠ 0) || decide (9218868437227405312 ≤ (r0 : Int))) := by
  obtain ⟨lo, hi, l0, _, _, _⟩ := R
  obtain ⟨k, hk⟩ := k_ex
  obtain ⟨hk1, hk2, hk3⟩ := k_fin hk
  by_cases hr : (r0 : Int) < 9218868437227405312
  · obtain ⟨t1, _, _, _⟩ := rTo_fin (ng := ng) (left := left) hr
    have ho : (decide (left ≠ 0) || decide (9218868437227405312 ≤ (r0 : Int))) = decide (left ≠ 0) := by rw [decide_eq_false (p := 9218868437227405312 ≤ (r0 : Int)) (Int.not_le.2 hr), Bool.or_false]
    rw [ho]
    cases ng
    · have e1 : rTo 1 false r0 left = (r0 : Int) := by rw [t1, if_neg (fun h => by cases h.2)]
      rw [e1, Bool.false_and]
      refine Quo.pos hr lo ?_ (fun _ => hi)
      rw [decide_eq_false_iff_not, Classical.not_not, l0]
      exact ⟨Eq.symm, Eq.symm⟩
    · have hA := zA rfl
      by_cases hl : left = 0
      · have e1 : rTo 1 true r0 left = (r0 : Int) := by rw [t1, if_neg (fun h => h.1 hl)]
        have hAe := l0.1 hl
        have h0 : 0 < r0 := by
          rcases Nat.eq_zero_or_pos r0 with h | h
          · rw [h, vS_zero, Int.zero_mul] at hAe; omega
          · exact h
        rw [e1, Bool.true_and, decide_eq_true (p := (0 : Int) < (r0 : Int)) (k_low h0).1, decide_eq_false (p := left ≠ 0) (fun h => h hl)]
        refine Quo.neg' h0 (Int.le_of_lt hr) (fun _ => ⟨Int.le_of_eq hAe, ⟨fun _ => rfl, fun _ => hAe.symm⟩⟩) ?_
        rw [hAe]
        exact Int.mul_lt_mul_of_pos_right (vS_lt (k_low h0).2) hS
      · have e1 : rTo 1 true r0 left = ((r0 + 1 : Nat) : Int) := by rw [t1, if_pos ⟨hl, rfl⟩]
        rw [e1, Bool.true_and, decide_eq_true (p := (0 : Int) < ((r0 + 1 : Nat) : Int)) (k_pos r0), decide_eq_true (p := left ≠ 0) hl]
        refine Quo.neg' (Nat.succ_pos _) (k_le hr) (fun _ => ⟨Int.le_of_lt hi, ⟨fun h => ?_, fun h => by cases h⟩⟩) ?_
        · rw [h] at hi; exact absurd hi (Int.lt_irrefl _)
        · show vS r0 * S < A
          rcases Int.lt_or_eq_of_le lo with h | h
          · exact h
          · exact absurd (l0.2 h.symm) hl
  · obtain ⟨t1, _, _, _⟩ := rTo_inf (ng := ng) (left := left) hr
    have ho : (decide (left ≠ 0) || decide (9218868437227405312 ≤ (r0 : Int))) = true := by rw [decide_eq_true (p := 9218868437227405312 ≤ (r0 : Int)) (Int.not_lt.1 hr), Bool.or_true]
    rw [ho]
    have hAl : vS k * S < A := Int.lt_of_lt_of_le (Int.mul_lt_mul_of_pos_right (vS_lt (k_lt hk hr)) hS) lo
    cases ng
    · rw [if_neg (by decide), hk] at t1
      rw [t1, Bool.false_and]
      refine Quo.pos hk1 (Int.le_of_lt hAl) ⟨fun h => ?_, fun h => by cases h⟩ (fun h => ?_)
      · rw [h] at hAl; exact absurd hAl (Int.lt_irrefl _)
      · exact absurd h (k_cast hk2).2.1
    · rw [if_pos rfl] at t1
      have e2 := (k_cast hk2).1
      rw [t1, Bool.true_and, decide_eq_true (p := (0 : Int) < 9218868437227405312) (by decide), e2]
      exact Quo.neg' (Nat.succ_pos _) (k_cast hk2).2.2 (fun h => absurd h (k_cast hk2).2.1) hAl
end Go.Proofs.YtjlmpgbadgkgmaaGreatDoor

/-
  Plain mathematics: a square root's rung. No Go text in sight.
-/
namespace Go.Proofs.YtjlmpgbadgkgmaaGreatDoor
open Go Go.RowKit Go.Proofs.YtjlmpgbadgkgmaaGreatDoor.M
set_option linter.unusedSimpArgs false
set_option linter.unusedVariables false

/-- X's square root among the rungs. -/
structure RungR (X : Int) (r0 : Nat) (left : Int) : Prop where
  lo : vS r0 * vS r0 ≤ X
  hi : X < vS (r0 + 1) * vS (r0 + 1)
  l0 : left = 0 ↔ X = vS r0 * vS r0
theorem sq_le {a b : Int} (h0 : 0 ≤ a) (h : a ≤ b) : a * a ≤ b * b := Int.mul_le_mul h h h0 (Int.le_trans h0 h)
theorem sq_lt {a b : Int} (h0 : 0 ≤ a) (h : a < b) : a * a < b * b :=
  Int.lt_of_le_of_lt (Int.mul_le_mul_of_nonneg_left (Int.le_of_lt h) h0) (Int.mul_lt_mul_of_pos_right h (Int.lt_of_le_of_lt h0 h))
theorem sq_inj {a b : Int} (h0 : 0 ≤ a) (h1 : 0 ≤ b) (h : a * a = b * b) : a = b := by
  rcases Int.lt_trichotomy a b with q | q | q
  · exact absurd h (Int.ne_of_lt (sq_lt h0 q))
  · exact q
  · exact absurd h.symm (Int.ne_of_lt (sq_lt h1 q))
theorem cut_aux1 {v x : Int} (h : v * 2 ≤ x * 2 + 1) : v ≤ x := by omega
theorem cut_aux2 {v y : Int} (h : y - 1 < v) : y ≤ v := by omega
/-- Where something was cut off, the whole step lies between the rungs. -/
theorem rung_cut {mag : Nat} {exp : Int} {r0 : Nat} {left : Int} (hR : ∀ S A : Int, 0 < S → HeldS S A mag exp true → RungS S A r0 left) : vS r0 ≤ (mag : Int) * pw exp ∧ ((mag : Int) + 1) * pw exp ≤ vS (r0 + 1) ∧ left ≠ 0 := by
  have hq := pw_pos exp
  have e2 : ((mag : Int) + 1) * pw exp = (mag : Int) * pw exp + pw exp := by rw [Int.add_mul, Int.one_mul]
  have A1 : HeldS 2 ((mag : Int) * pw exp * 2 + 1) mag exp true := by
    unfold HeldS
    have e3 : (mag : Int) * (pw exp * 2) = (mag : Int) * pw exp * 2 := by rw [Int.mul_assoc]
    have e4 : ((mag : Int) + 1) * (pw exp * 2) = (mag : Int) * pw exp * 2 + pw exp * 2 := by rw [Int.add_mul, Int.one_mul, e3]
    rw [e3, e4]
    generalize (mag : Int) * pw exp = X
    generalize pw exp = q at hq ⊢
    exact ⟨by omega, by omega, ⟨(fun h => by cases h), fun h => by omega⟩⟩
  have R1 := hR _ _ (by decide) A1
  have h1 := cut_aux1 R1.lo
  have hn : left ≠ 0 := fun h => by
    have := R1.l0.1 h
    generalize vS r0 = v at this
    generalize (mag : Int) * pw exp = X at this
    omega
  refine ⟨h1, ?_, hn⟩
  by_cases hb : 2 ≤ pw exp
  · have A2 : HeldS 1 (((mag : Int) + 1) * pw exp - 1) mag exp true := by
      unfold HeldS
      rw [Int.mul_one, e2]
      generalize (mag : Int) * pw exp = X
      generalize pw exp = q at hq hb ⊢
      exact ⟨by omega, by omega, ⟨(fun h => by cases h), fun h => by omega⟩⟩
    have R2 := hR _ _ (by decide) A2
    have := R2.hi
    rw [Int.mul_one] at this
    exact cut_aux2 this
  · have hp1 : pw exp = 1 := by generalize pw exp = q at *; omega
    have A2 : HeldS 2 (((mag : Int) + 1) * pw exp * 2 - 1) mag exp true := by
      unfold HeldS
      rw [hp1]
      simp only [Int.mul_one, Int.one_mul]
      exact ⟨by omega, by omega, ⟨(fun h => by cases h), fun h => by omega⟩⟩
    have R2 := (hR _ _ (by decide) A2).hi
    generalize ((mag : Int) + 1) * pw exp = Y at *
    generalize vS (r0 + 1) = v at *
    omega
theorem rung_root {mag : Nat} {exp : Int} {cut : Bool} {r0 : Nat} {left X : Int} (hR : ∀ S A : Int, 0 < S → HeldS S A mag exp cut → RungS S A r0 left)
    (lo : (mag : Int) * pw exp * ((mag : Int) * pw exp) ≤ X) (hi : X < ((mag : Int) + 1) * pw exp * (((mag : Int) + 1) * pw exp)) (eq : cut = false ↔ X = (mag : Int) * pw exp * ((mag : Int) * pw exp)) : RungR X r0 left := by
  have hq := pw_pos exp
  have hm : 0 ≤ (mag : Int) * pw exp := Int.mul_nonneg (by omega) (Int.le_of_lt hq)
  have hv := vS_nonneg r0
  cases cut
  · have hX := eq.1 rfl
    have e2 : ((mag : Int) + 1) * pw exp = (mag : Int) * pw exp + pw exp := by rw [Int.add_mul, Int.one_mul]
    have A1 : HeldS 1 ((mag : Int) * pw exp) mag exp false := by
      unfold HeldS
      rw [Int.mul_one, e2]
      generalize (mag : Int) * pw exp = Y
      generalize pw exp = q at hq ⊢
      exact ⟨by omega, by omega, ⟨fun _ => rfl, fun _ => rfl⟩⟩
    obtain ⟨q1, q2, q3, _, _, _⟩ := hR _ _ (by decide) A1
    rw [Int.mul_one] at q1 q2 q3
    rw [hX]
    exact ⟨sq_le hv q1, sq_lt hm q2, q3.trans ⟨fun h => by rw [h], fun h => sq_inj hm hv h⟩⟩
  · obtain ⟨q1, q2, q3⟩ := rung_cut hR
    have hX : X ≠ (mag : Int) * pw exp * ((mag : Int) * pw exp) := fun h => by have := eq.2 h; cases this
    have hlt : (mag : Int) * pw exp * ((mag : Int) * pw exp) < X := by
      rcases Int.lt_or_eq_of_le lo with h | h
      · exact h
      · exact absurd h.symm hX
    have h1 := sq_le hv q1
    refine ⟨Int.le_trans h1 lo, Int.lt_of_lt_of_le hi (sq_le (Int.mul_nonneg (by omega) (Int.le_of_lt hq)) q2), ⟨fun h => absurd h q3, fun h => ?_⟩⟩
    rw [h] at hlt
    exact absurd (Int.lt_of_lt_of_le hlt h1) (Int.lt_irrefl _)
theorem RungR.unique {X : Int} {r s : Nat} {l k : Int} (h : RungR X r l) (g : RungR X s k) : r = s := by
  have key : ∀ {r s : Nat} {l k : Int}, RungR X r l → RungR X s k → ¬ r < s := fun {r s l k} h g q => by
    have e : vS (r + 1) ≤ vS s := by
      rcases Nat.lt_or_eq_of_le (show r + 1 ≤ s from q) with q2 | q2
      · exact Int.le_of_lt (vS_lt q2)
      · rw [q2]; exact Int.le_refl _
    exact absurd (Int.lt_of_lt_of_le h.hi (Int.le_trans (sq_le (vS_nonneg _) e) g.lo)) (Int.lt_irrefl _)
  rcases Nat.lt_trichotomy r s with q | q | q
  · exact absurd q (key h g)
  · exact q
  · exact absurd q (key g h)
theorem rungR_sq (r : Nat) : RungR (vS r * vS r) r 0 := ⟨Int.le_refl _, sq_lt (vS_nonneg r) (vS_lt (Nat.lt_succ_self r)), ⟨fun _ => rfl, fun _ => rfl⟩⟩
/-- The bits that a root's number is brought to. -/
def tK (M e : Int) : Int := 124 - (blen M : Int) - (e - (124 - (blen M : Int))) % 2
theorem root_sq1 {M s D X Y N' : Int} (hN : M * D = N') (h1 : s * s ≤ N') (h2 : N' < (s + 1) * (s + 1)) (hX : X = D * Y) (hY : 0 < Y) : s * s * Y ≤ M * X ∧ M * X < (s + 1) * (s + 1) * Y ∧ (N' - s * s = 0 ↔ M * X = s * s * Y) := by
  have e : M * X = N' * Y := by rw [hX, ← Int.mul_assoc, hN]
  rw [e]
  refine ⟨Int.mul_le_mul_of_nonneg_right h1 (Int.le_of_lt hY), Int.mul_lt_mul_of_pos_right h2 hY, ⟨fun h => ?_, fun h => ?_⟩⟩
  · rw [show N' = s * s by omega]
  · have := Int.eq_of_mul_eq_mul_right (Int.ne_of_gt hY) h
    omega
theorem root_sq2 {M s D N t X Y : Int} (hN : D * N + t = M) (t0 : 0 ≤ t) (t1 : t < D) (h1 : s * s ≤ N) (h2 : N < (s + 1) * (s + 1)) (hY : Y = D * X) (hX : 0 < X) : s * s * Y ≤ M * X ∧ M * X < (s + 1) * (s + 1) * Y ∧ ((t = 0 ∧ N - s * s = 0) ↔ M * X = s * s * Y) := by
  have hD : 0 < D := by omega
  have e1 : s * s * Y = (D * (s * s)) * X := by rw [hY, ← Int.mul_assoc, Int.mul_comm (s * s) D]
  have e2 : (s + 1) * (s + 1) * Y = (D * ((s + 1) * (s + 1))) * X := by rw [hY, ← Int.mul_assoc, Int.mul_comm ((s + 1) * (s + 1)) D]
  rw [e1, e2]
  generalize s * s = a at *
  generalize (s + 1) * (s + 1) = b at *
  have q1 : D * a ≤ M := by have := Int.mul_le_mul_of_nonneg_left h1 (Int.le_of_lt hD); omega
  have q2 : M < D * b := by
    have := Int.mul_le_mul_of_nonneg_left (show N + 1 ≤ b from h2) (Int.le_of_lt hD)
    rw [Int.mul_add, Int.mul_one] at this
    omega
  refine ⟨Int.mul_le_mul_of_nonneg_right q1 (Int.le_of_lt hX), Int.mul_lt_mul_of_pos_right q2 hX, ⟨fun h => ?_, fun h => ?_⟩⟩
  · rw [← hN, h.1, show N = a by omega, Int.add_zero]
  · have h3 := Int.eq_of_mul_eq_mul_right (Int.ne_of_gt hX) h
    by_cases h4 : N = a
    · rw [h4] at hN; omega
    · have := Int.mul_le_mul_of_nonneg_left (show a + 1 ≤ N by omega) (Int.le_of_lt hD)
      rw [Int.mul_add, Int.mul_one] at this
      omega
end Go.Proofs.YtjlmpgbadgkgmaaGreatDoor

/-
  Plain mathematics: what Root answers, by the root's rung. No Go text in sight.
-/
namespace Go.Proofs.YtjlmpgbadgkgmaaGreatDoor
open Go Go.RowKit Go.Proofs.YtjlmpgbadgkgmaaGreatDoor.M
set_option linter.unusedSimpArgs false
set_option linter.unusedVariables false

theorem isRoot_ex (n : Nat) : ∃ s : Int, IsRoot (n : Int) s := by
  induction n with
  | zero => exact ⟨0, by decide, by decide, by decide⟩
  | succ n ih =>
    obtain ⟨s, h0, h1, h2⟩ := ih
    by_cases h : ((n + 1 : Nat) : Int) < (s + 1) * (s + 1)
    · exact ⟨s, h0, by omega, h⟩
    · refine ⟨s + 1, by omega, by omega, ?_⟩
      have e : (s + 1 + 1) * (s + 1 + 1) = (s + 1) * (s + 1) + (s + 1) + (s + 1) + 1 := by
        rw [Int.mul_add (s + 1 + 1), Int.add_mul (s + 1) 1, Int.mul_one, Int.one_mul]; omega
      omega
theorem isRoot_unique {A s t : Int} (h : IsRoot A s) (g : IsRoot A t) : s = t := by
  obtain ⟨a0, a1, a2⟩ := h
  obtain ⟨b0, b1, b2⟩ := g
  rcases Int.lt_trichotomy s t with q | q | q
  · have := sq_le (show 0 ≤ s + 1 by omega) (show s + 1 ≤ t by omega); omega
  · exact q
  · have := sq_le (show 0 ≤ t + 1 by omega) (show t + 1 ≤ s by omega); omega
theorem tK_in {M e : Int} : 122 < tK M e + (blen M : Int) ∧ tK M e + (blen M : Int) ≤ 124 ∧ (e - tK M e) % 2 = 0 := by
  unfold tK
  omega
theorem scV_low {M k : Int} (hM : 0 < M) {n : Nat} (h : (n : Int) < k + (blen M : Int)) : 2 ^ n ≤ scV M k := by
  have b1 := blen_pos hM
  unfold scV
  by_cases hk : 0 ≤ k
  · rw [if_pos hk]
    have e : (2 : Int) ^ (blen M - 1) * 2 ^ k.toNat ≤ M * 2 ^ k.toNat := Int.mul_le_mul_of_nonneg_right b1.2 (Int.le_of_lt (two_pos _))
    refine Int.le_trans ?_ e
    rw [← Int.pow_add]
    exact two_le (by omega)
  · rw [if_neg hk, Int.le_ediv_iff_mul_le (two_pos _), ← Int.pow_add]
    exact Int.le_trans (two_le (by omega)) b1.2
theorem scV_high {M k : Int} (hM : 0 ≤ M) {n : Nat} (h : k + (blen M : Int) ≤ (n : Int)) : 0 ≤ scV M k ∧ scV M k < 2 ^ n := by
  have b1 := blen_lt M
  unfold scV
  by_cases hk : 0 ≤ k
  · rw [if_pos hk]
    have hp := two_pos k.toNat
    refine ⟨Int.mul_nonneg hM (Int.le_of_lt hp), ?_⟩
    have e : M * 2 ^ k.toNat < 2 ^ blen M * 2 ^ k.toNat := Int.mul_lt_mul_of_pos_right b1 hp
    rw [← Int.pow_add] at e
    exact Int.lt_of_lt_of_le e (two_le (by omega))
  · rw [if_neg hk]
    have hp := two_pos (-k).toNat
    refine ⟨Int.ediv_nonneg hM (Int.le_of_lt hp), ?_⟩
    rw [Int.ediv_lt_iff_lt_mul hp, ← Int.pow_add]
    exact Int.lt_of_lt_of_le b1 (two_le (by omega))
theorem root_small {N s : Int} (h : IsRoot N s) (hN : N < 2 ^ 124) : s < 4611686018427387904 := by
  obtain ⟨a0, a1, a2⟩ := h
  rcases Int.lt_or_le s 4611686018427387904 with q | q
  · exact q
  · have := sq_le (by decide) q
    have e : (2 : Int) ^ 124 = 4611686018427387904 * 4611686018427387904 := by decide
    omega
theorem root_big {N s : Int} (h : IsRoot N s) (hN : 2 ^ 122 ≤ N) : 2305843009213693952 ≤ s := by
  obtain ⟨a0, a1, a2⟩ := h
  rcases Int.lt_or_le s 2305843009213693952 with q | q
  · have := sq_le (show 0 ≤ s + 1 by omega) (show s + 1 ≤ 2305843009213693952 by omega)
    have e : (2 : Int) ^ 122 = 2305843009213693952 * 2305843009213693952 := by decide
    omega
  · exact q
theorem sq_prod (s p : Int) : s * p * (s * p) = s * s * (p * p) := by
  rw [Int.mul_assoc, Int.mul_comm p (s * p), Int.mul_assoc s p p, ← Int.mul_assoc]
theorem held_root {M e s : Int} (hM : 0 ≤ M) (a0 : -1100000 ≤ e) (a1 : e ≤ 1100000) (lM : blen M ≤ 150000) (hs : IsRoot (scV M (tK M e)) s) :
    s * pw ((e - tK M e) / 2) * (s * pw ((e - tK M e) / 2)) ≤ M * (pw e * pw 0) ∧ M * (pw e * pw 0) < (s + 1) * pw ((e - tK M e) / 2) * ((s + 1) * pw ((e - tK M e) / 2)) ∧ ((scC M (tK M e) || decide (scV M (tK M e) - s * s ≠ 0)) = false ↔ M * (pw e * pw 0) = s * pw ((e - tK M e) / 2) * (s * pw ((e - tK M e) / 2))) := by
  obtain ⟨k1, k2, k3⟩ := tK_in (M := M) (e := e)
  obtain ⟨k, hk⟩ : ∃ k, tK M e = k := ⟨_, rfl⟩
  rw [hk] at hs k1 k2 k3 ⊢
  obtain ⟨E, hE⟩ : ∃ E, (e - k) / 2 = E := ⟨_, rfl⟩
  have hEE : e + 0 = E + E + k := by omega
  rw [hE]
  obtain ⟨s0, s1, s2⟩ := hs
  rw [sq_prod, sq_prod]
  have hP : 0 < pw E * pw E := Int.mul_pos (pw_pos _) (pw_pos _)
  have hQ : 0 < pw e * pw 0 := Int.mul_pos (pw_pos _) (pw_pos _)
  by_cases h : 0 ≤ k
  · have hc : pw e * pw 0 = 2 ^ k.toNat * (pw E * pw E) := pw_cross (by omega) (by decide) (by omega) (by omega) (by omega)
    have hsv : scV M k = M * 2 ^ k.toNat := by unfold scV; rw [if_pos h]
    have hsc : scC M k = false := by unfold scC; rw [if_pos h]
    rw [hsc, Bool.false_or]
    obtain ⟨q1, q2, q3⟩ := root_sq1 hsv.symm s1 s2 hc hP
    exact ⟨q1, q2, by rw [← q3, decide_eq_false_iff_not]; constructor <;> intro h <;> omega⟩
  · have hc : pw E * pw E = 2 ^ (-k).toNat * (pw e * pw 0) := pw_cross (by omega) (by omega) (by omega) (by decide) (by omega)
    have hsv : scV M k = M / 2 ^ (-k).toNat := by unfold scV; rw [if_neg h]
    have hsc : scC M k = decide (M % 2 ^ (-k).toNat ≠ 0) := by unfold scC; rw [if_neg h]
    have hp := two_pos (-k).toNat
    have hdd := Int.mul_ediv_add_emod M (2 ^ (-k).toNat)
    have t0 := Int.emod_nonneg M (show (2 : Int) ^ (-k).toNat ≠ 0 by omega)
    have t1 := Int.emod_lt_of_pos M hp
    rw [← hsv] at hdd
    rw [hsc]
    obtain ⟨q1, q2, q3⟩ := root_sq2 hdd t0 t1 s1 s2 hc hQ
    refine ⟨q1, q2, ?_⟩
    rw [← q3, Bool.or_eq_false_iff, decide_eq_false_iff_not, decide_eq_false_iff_not]
    constructor <;> intro h <;> omega
/-- What Root answers at a number that is not below 0. -/
def tR64 (way : Int) (x : NumR) (s : Int) : Int × Bool := r64 way false false s.toNat ((x.e - tK (val x.d x.n) x.e) / 2) (scC (val x.d x.n) (tK (val x.d x.n) x.e) || decide (scV (val x.d x.n) (tK (val x.d x.n) x.e) - s * s ≠ 0))
theorem root_rung {way : Int} {x : NumR} {s : Int} (ok : okR x = true) (hs : IsRoot (scV (val x.d x.n) (tK (val x.d x.n) x.e)) s) :
    ∃ (r0 : Nat) (left : Int), RungR (val x.d x.n * (pw x.e * pw 0)) r0 left ∧ tR64 way x s = (patS false (rTo way false r0 left), decide (left ≠ 0) || decide (9218868437227405312 ≤ (r0 : Int))) := by
  obtain ⟨na, hn, ea0, ea1⟩ := okR_sane ok
  by_cases h0 : x.n = 0
  · have hv : val x.d x.n = 0 := by rw [h0]; rfl
    have hsv : scV 0 (tK 0 x.e) = 0 := by unfold scV; split <;> simp
    have hsc : scC 0 (tK 0 x.e) = false := by unfold scC; split <;> simp
    rw [hv, hsv] at hs
    have hs0 : s = 0 := isRoot_unique hs ⟨by decide, by decide, by decide⟩
    refine ⟨0, 0, ?_, ?_⟩
    · rw [hv, Int.zero_mul]
      have := rungR_sq 0
      rwa [vS_zero, Int.zero_mul] at this
    · unfold tR64
      rw [hv, hsv, hsc, hs0, rTo_zero]
      exact r64_zero _ _
  · have hM := val_pos na (by omega)
    have hl := blen_nrm na
    obtain ⟨k1, k2, k3⟩ := tK_in (M := val x.d x.n) (e := x.e)
    have hlow := scV_low hM (n := 122) (k := tK (val x.d x.n) x.e) (by omega)
    have hhigh := scV_high (Int.le_of_lt hM) (n := 124) (k := tK (val x.d x.n) x.e) (by omega)
    have hsm := root_small hs hhigh.2
    have hbg := root_big hs hlow
    obtain ⟨q1, q2, q3⟩ := held_root (Int.le_of_lt hM) ea0 ea1 (by omega) hs
    have e64 : (2 : Nat) ^ 64 = 18446744073709551616 := by decide
    have e60 : (2 : Nat) ^ 60 = 1152921504606846976 := by decide
    have hcast : ((s.toNat : Nat) : Int) = s := Int.toNat_of_nonneg hs.1
    obtain ⟨r0, left, hR, hE⟩ := r64_specS (way := way) (ng := false) (sd := false) (mag := s.toNat) (exp := (x.e - tK (val x.d x.n) x.e) / 2) (cut := scC (val x.d x.n) (tK (val x.d x.n) x.e) || decide (scV (val x.d x.n) (tK (val x.d x.n) x.e) - s * s ≠ 0)) (by omega) (by omega) (by omega) (fun _ => by omega)
    refine ⟨r0, left, ?_, ?_⟩
    · exact rung_root hR (by rw [hcast]; exact q1) (by rw [hcast]; exact q2) (by rw [hcast]; exact q3)
    · unfold tR64
      rw [hE, Bool.false_and]
end Go.Proofs.YtjlmpgbadgkgmaaGreatDoor

/-
  Package round: Quot by 0.
-/
namespace Go.Proofs.YtjlmpgbadgkgmaaGreatDoor
open Go Go.RowKit Go.Proofs.YtjlmpgbadgkgmaaGreatDoor.M
set_option linter.unusedSimpArgs false
set_option linter.unusedVariables false

end Go.Proofs.YtjlmpgbadgkgmaaGreatDoor

/-
  Package round: Quot by 0: rounded and Quot.
-/
namespace Go.Proofs.YtjlmpgbadgkgmaaGreatDoor
open Go Go.RowKit Go.Proofs.YtjlmpgbadgkgmaaGreatDoor.M
set_option linter.unusedSimpArgs false
set_option linter.unusedVariables false

end Go.Proofs.YtjlmpgbadgkgmaaGreatDoor

/-
  What RoundQuots asks of the calls: Quot on numbers told by their worth.
-/
namespace Go.Proofs.YtjlmpgbadgkgmaaGreatDoor
open Go Go.RowKit Go.Proofs.YtjlmpgbadgkgmaaGreatDoor.M
set_option linter.unusedSimpArgs false
set_option linter.unusedVariables false

theorem pw_nil : pw 0 = 2 ^ 4194304 := by
  unfold pw
  rw [show ((0 : Int) + 4194304).toNat = 4194304 by omega]
theorem okR_abs {g : Bool} {o : Option Addr} {n c : Nat} {d : Nat → Int} {e : Int} (h : okR ⟨g, o, n, c, d, e⟩ = true) : okR ⟨false, o, n, c, d, e⟩ = true := by
  refine decide_eq_true ?_
  rcases of_decide_eq_true h with ⟨h1, h2, h3⟩ | h1
  · exact .inl ⟨h1, rfl, h3⟩
  · exact .inr h1
theorem Bd.sg {B : Nat} {V : Int} (g : Bool) (h : Bd B V) : Bd B (M.sg g V) := by
  cases g
  · exact h
  · exact h.neg
theorem sg_sg (g : Bool) (m q : Int) : sg g (sg g m * q) = sg false m * q := by
  cases g
  · rfl
  · show -(-m * q) = m * q
    rw [Int.neg_mul, Int.neg_neg]
theorem sg_scale (g : Bool) (m p q : Int) : sg g (m * (p * q)) = sg g m * p * q := by
  rw [sg_prod, sg_prod, Int.mul_assoc]
theorem ord_up {m a p U Z S : Int} (hZ : 0 < Z) (h : m * Z = p * S) (hU : U = a * Z) : ord m a = ord (p * S) U := by
  rw [hU, ← h, ord_scale hZ]
theorem ord_le0 {a b : Int} (h : a ≤ b) : ord a b ≤ 0 := by
  rcases Int.lt_or_eq_of_le h with q | q
  · rw [ord_lt q]; decide
  · rw [ord_eq q]; decide
end Go.Proofs.YtjlmpgbadgkgmaaGreatDoor

/-
  Plain mathematics: what RoundRoots asks of Root's answers.
-/
namespace Go.Proofs.YtjlmpgbadgkgmaaGreatDoor
open Go Go.RowKit Go.Proofs.YtjlmpgbadgkgmaaGreatDoor.M
set_option linter.unusedSimpArgs false
set_option linter.unusedVariables false

theorem p52 {B : Nat} (h : B = 2 ^ 52) (n : Nat) : ((B * 2 ^ n : Nat) : Int) = 2 ^ (52 + n) := by
  subst h
  rw [← Nat.pow_add, Int.natCast_pow]
  rfl
theorem vS_bin {B : Nat} (hB : B = 4503599627370496) (a : Nat) : vS (a * B + B) = pw (-1074 + ((52 + a : Nat) : Int)) := by
  have eB : Ieee.double.binade = B := by rw [hB]; decide
  have h := (V_rung Ieee.double a B (by rw [eB]; omega) (fun _ => by rw [eB]; exact Nat.le_refl _)).1
  rw [eB] at h
  unfold vS
  rw [h, p52 (by rw [hB]), pw_add (by decide), Int.mul_comm]
theorem vS_inf : vS 9218868437227405312 = pw 1024 := by
  have h := vS_bin (B := 4503599627370496) rfl 2046
  have e : 2046 * 4503599627370496 + 4503599627370496 = 9218868437227405312 := by decide
  have e1 : (-1074 : Int) + ((52 + 2046 : Nat) : Int) = 1024 := by decide
  rw [e, e1] at h
  exact h
structure Roo (X d : Int) (o : Bool) : Prop where
  rg : rng d
  pk : pok d = true
  lo : patV d * patV d ≤ X
  eq : patV d * patV d = X ↔ o = false
  nxt : pok (next d) = true → X < patV (next d) * patV (next d)
theorem sgF (v : Int) : sg false v = v := rfl
theorem roo_of {X : Int} {r0 : Nat} {left : Int} (R : RungR X r0 left) (hX : X < pw 1024 * pw 1024) : Roo X (patS false (rTo 1 false r0 left)) (decide (left ≠ 0) || decide (9218868437227405312 ≤ (r0 : Int))) := by
  have hr : (r0 : Int) < 9218868437227405312 := by
    rcases Int.lt_or_le (r0 : Int) 9218868437227405312 with h | h
    · exact h
    · exfalso
      have h1 : vS 9218868437227405312 ≤ vS r0 := by
        rcases Nat.lt_or_eq_of_le (show 9218868437227405312 ≤ r0 by omega) with q | q
        · exact Int.le_of_lt (vS_lt q)
        · rw [← q]; exact Int.le_refl _
      rw [vS_inf] at h1
      exact absurd (Int.lt_of_lt_of_le hX (Int.le_trans (sq_le (Int.le_of_lt (pw_pos _)) h1) R.lo)) (Int.lt_irrefl _)
  obtain ⟨t1, _, _, _⟩ := rTo_fin (ng := false) (left := left) hr
  have e1 : rTo 1 false r0 left = (r0 : Int) := by rw [t1, if_neg (fun h => by cases h.2)]
  have ho : (decide (left ≠ 0) || decide (9218868437227405312 ≤ (r0 : Int))) = decide (left ≠ 0) := by rw [decide_eq_false (p := 9218868437227405312 ≤ (r0 : Int)) (Int.not_le.2 hr), Bool.or_false]
  rw [e1, ho]
  have hv : patV (patS false (r0 : Int)) = vS r0 := (patV_patS (ng := false) hr (fun h => by cases h)).trans (sgF _)
  have hnx : next (patS false (r0 : Int)) = patS false ((r0 + 1 : Nat) : Int) := by
    rw [next_pos (by omega) hr]; rfl
  obtain ⟨lo, hi, l0⟩ := R
  refine ⟨(patS_facts (by omega) (by omega) (fun h => by cases h)).1, ?_, by rw [hv]; exact lo, ?_, fun h => ?_⟩
  · rw [patS_pok (by omega) (by omega) (fun h => by cases h)]; exact decide_eq_true hr
  · rw [hv, decide_eq_false_iff_not, Classical.not_not, l0]
    exact ⟨Eq.symm, Eq.symm⟩
  · rw [hnx] at h ⊢
    have h1 := pok_pos (by omega) (k_le hr) h
    rw [(patV_patS (ng := false) h1 (fun h => by cases h)).trans (sgF _)]
    exact hi
theorem patV_rg {b : Int} (hb : rng b) (hp : pok b = true) : ∃ (ng : Bool) (r : Nat), (r : Int) = rg b ∧ (r : Int) < 9218868437227405312 ∧ patV b = sg ng (vS r) := by
  obtain ⟨r0, r1⟩ := rg_parts hb
  have hlt : rg b < 9218868437227405312 := by
    have hne := pparts hp
    have hf : 0 ≤ frc b ∧ frc b < 4503599627370496 := by unfold frc; omega
    have hg : 0 ≤ fld b ∧ fld b < 2048 := by unfold fld; omega
    omega
  obtain ⟨r, hr⟩ : ∃ r : Nat, (r : Int) = rg b := ⟨(rg b).toNat, Int.toNat_of_nonneg r0⟩
  have hs : b = patS (decide (b < 0)) (r : Int) := by
    rw [hr]
    unfold patS rg
    by_cases h : b < 0
    · rw [decide_eq_true h, if_pos rfl, if_pos h]; omega
    · rw [decide_eq_false h, if_neg (by decide), if_neg h]
  refine ⟨decide (b < 0), r, hr, by rw [hr]; exact hlt, ?_⟩
  rw [← hr] at hlt
  cases hd : decide (b < 0)
  · rw [hd] at hs
    rw [hs]
    exact patV_patS hlt (fun h => by cases h)
  · rw [hd] at hs
    rw [hs]
    exact patV_neg hlt
theorem canon_abs {b : Int} (hb : rng b) (hp : pok b = true) : canon (abs b) = rg b := by
  obtain ⟨_, _, hr, hlt, _⟩ := patV_rg hb hp
  rw [hr] at hlt
  have hc : cls b ≠ 4 := fun h => by have := (cls_rg hb).1.1 h; omega
  have ha : abs b = rg b := by unfold abs rg; rw [if_neg hc]
  obtain ⟨r0, _⟩ := rg_parts hb
  have hrr : rng (rg b) := by unfold rng; omega
  have hrg : rg (rg b) = rg b := by
    have h2 : rg (rg b) = if rg b < 0 then rg b + 9223372036854775808 else rg b := rfl
    rw [h2, if_neg (by omega)]
  rw [ha]
  unfold canon
  rw [if_neg (fun h => by have := (cls_rg hrr).1.1 h; rw [hrg] at this; omega)]
  by_cases h0 : cls (rg b) = 0
  · rw [if_pos h0]
    have := (cls_rg hrr).2.1 h0
    rw [hrg] at this
    omega
  · rw [if_neg h0]
theorem sg_sq (g : Bool) (a : Int) : sg g a * sg g a = a * a := by
  cases g
  · rfl
  · show -a * -a = a * a
    rw [Int.neg_mul_neg]
/-- The root of a float's square is the float's size. -/
theorem root_back {x : NumR} {s b : Int} (ok : okR x = true) (hs : IsRoot (scV (val x.d x.n) (tK (val x.d x.n) x.e)) s) (hb : rng b) (hp : pok b = true) (h : val x.d x.n * (pw x.e * pw 0) = patV b * patV b) : tR64 0 x s = (canon (abs b), false) := by
  obtain ⟨r0, left, hR, hE⟩ := root_rung (way := 0) ok hs
  obtain ⟨ng, r, hr, hlt, hv⟩ := patV_rg hb hp
  rw [h, hv, sg_sq] at hR
  have e := hR.unique (rungR_sq r)
  subst e
  have hl := hR.l0.2 rfl
  subst hl
  have hz : rTo 0 false r0 0 = (r0 : Int) := by
    unfold rTo
    rw [if_pos hlt]
    cases hu : rUp 0 false (decide (r0 % 2 = 1)) 0
    · simp
    · exact (rUp_left hu).elim
  rw [hE, hz, canon_abs hb hp, ← hr]
  rw [decide_eq_false (p := (0 : Int) ≠ 0) (fun h => h rfl), decide_eq_false (p := 9218868437227405312 ≤ (r0 : Int)) (Int.not_le.2 hlt)]
  rfl
end Go.Proofs.YtjlmpgbadgkgmaaGreatDoor
