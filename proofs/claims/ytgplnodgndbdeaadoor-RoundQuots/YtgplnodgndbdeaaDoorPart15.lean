/-
  Parts of the proof, one behind another.
-/
import Derived.Test.YtgplnodgndbdeaaDoorPart14
import Derived.Test.YtgplnodgndbdeaaDoorPart11
/-
  Plain mathematics: what binary64 answers, by rungs, where the number is a quotient. No Go text in sight.
-/
namespace Go.Proofs.YtgplnodgndbdeaaDoor
open Go Go.RowKit Go.Proofs.YtgplnodgndbdeaaDoor.M
set_option linter.unusedSimpArgs false
set_option linter.unusedVariables false

/-- What is known of A / S: mag 2^exp, or more by less than 2^exp. -/
def HeldS (S A : Int) (mag : Nat) (exp : Int) (cut : Bool) : Prop := (mag : Int) * (pw exp * S) ≤ A ∧ A < ((mag : Int) + 1) * (pw exp * S) ∧ (cut = false ↔ A = (mag : Int) * (pw exp * S))
/-- A / S among the rungs. -/
structure RungS (S A : Int) (r0 : Nat) (left : Int) : Prop where
  lo : vS r0 * S ≤ A
  hi : A < vS (r0 + 1) * S
  l0 : left = 0 ↔ A = vS r0 * S
  l1 : left = 1 ↔ vS r0 * S < A ∧ 2 * A < vS r0 * S + vS (r0 + 1) * S
  l2 : left = 2 ↔ 2 * A = vS r0 * S + vS (r0 + 1) * S
  l3 : left = 3 ↔ vS r0 * S + vS (r0 + 1) * S < 2 * A
theorem left_ofS {S A : Int} {mag : Nat} {exp e : Int} {cut : Bool} (hS : 0 < S) (h : HeldS S A mag exp cut) (hc : cut = true → 0 < e - exp) (h0 : -4194304 ≤ e) (h1 : -4194304 ≤ exp) : M.Left A (rU mag (e - exp)) (pw e * S) (rL mag cut (e - exp)) := by
  obtain ⟨a1, a2, a3⟩ := h
  have hq : 0 < pw exp * S := Int.mul_pos (pw_pos exp) hS
  have hqe : 0 < pw e * S := Int.mul_pos (pw_pos e) hS
  by_cases hs : e - exp ≤ 0
  · have hcf : cut = false := by cases cut; rfl; have := hc rfl; omega
    have hA := a3.1 hcf
    unfold rU rL
    rw [if_pos hs, if_pos hs]
    have e1 : ((mag * 2 ^ (-(e - exp)).toNat : Nat) : Int) * (pw e * S) = A := by
      rw [hA, pw_sub (e := exp) (low := e) h0 (by omega), show (exp - e).toNat = (-(e - exp)).toNat by omega]
      push_cast
      simp only [Int.mul_assoc]
    exact ⟨by rw [e1]; omega, by rw [e1]; omega, by rw [e1]; simp, by rw [e1]; constructor <;> intro h <;> omega, by rw [e1]; constructor <;> intro h <;> omega, by rw [e1]; constructor <;> intro h <;> omega⟩
  · have hp : pw e * S = 2 ^ (e - exp).toNat * (pw exp * S) := by rw [pw_sub (e := e) (low := exp) h1 (by omega), Int.mul_assoc]
    obtain ⟨s, hsn⟩ : ∃ s, (e - exp).toNat = s := ⟨_, rfl⟩
    have hs0 : 0 < s := by omega
    unfold rU rL
    rw [if_neg hs, if_neg hs, hsn]
    rw [hsn] at hp
    obtain ⟨k, hk, hk0⟩ := two_half s hs0
    have hpn : (2 : Int) ^ s = ((2 ^ s : Nat) : Int) := by simp
    rw [hpn, hk] at hp
    rw [hk]
    have hdm := Nat.div_add_mod mag (2 * k)
    have hml := Nat.mod_lt mag (show 0 < 2 * k by omega)
    generalize mag / (2 * k) = u at *
    generalize mag % (2 * k) = t at *
    generalize hQ : pw exp * S = q at *
    have e1 : (mag : Int) * q = (u : Int) * (((2 * k : Nat) : Int) * q) + (t : Int) * q := by
      rw [← hdm]; push_cast; rw [Int.add_mul]; congr 1; rw [Int.mul_comm (2 * (k : Int)) u, Int.mul_assoc]
    have e2 : ((mag : Int) + 1) * q = (mag : Int) * q + q := by rw [Int.add_mul, Int.one_mul]
    rw [e2, e1] at a2
    rw [e1] at a1 a3
    rw [hp]
    have e3 : ((2 * k : Nat) : Int) * q = 2 * ((k : Int) * q) := by push_cast; rw [Int.mul_assoc]
    have t1 : ∀ x y : Nat, x ≤ y → (x : Int) * q ≤ (y : Int) * q := fun x y h => Int.mul_le_mul_of_nonneg_right (by omega) (by omega)
    have t2 : ∀ x y : Nat, x < y → (x : Int) * q + q ≤ (y : Int) * q := fun x y h => by
      have := t1 (x + 1) y h
      push_cast at this
      rwa [Int.add_mul, Int.one_mul] at this
    have t0 : 0 ≤ (t : Int) * q := Int.mul_nonneg (by omega) (by omega)
    have b1 : (t : Int) * q + q ≤ 2 * ((k : Int) * q) := by rw [← e3]; exact t2 t (2 * k) hml
    rw [e3] at a1 a2 a3 ⊢
    have c1 : t < k → (t : Int) * q + q ≤ (k : Int) * q := t2 t k
    have c2 : t = k → (t : Int) * q = (k : Int) * q := fun h => by rw [h]
    have c3 : k < t → (k : Int) * q + q ≤ (t : Int) * q := t2 k t
    have c4 : t = 0 → (t : Int) * q = 0 := fun h => by rw [h]; simp
    have c5 : 0 < t → q ≤ (t : Int) * q := fun h => by have := t1 1 t h; rwa [Int.natCast_one, Int.one_mul] at this
    clear e1 e2 e3 t1 t2 hp
    obtain ⟨T, hT⟩ : ∃ T, (t : Int) * q = T := ⟨_, rfl⟩
    obtain ⟨K, hK⟩ : ∃ K, (k : Int) * q = K := ⟨_, rfl⟩
    obtain ⟨U, hU⟩ : ∃ U, (u : Int) * (2 * K) = U := ⟨_, rfl⟩
    rw [hT] at c1 c2 c3 c4 c5 t0 b1 a1 a2 a3
    rw [hK] at c1 c2 c3 b1 a1 a2 a3 ⊢
    rw [hU] at a1 a2 a3
    have a3' : cut = true → A ≠ U + T := fun h h2 => by rw [a3.2 h2] at h; cases h
    cases cut
    · have hA := a3.1 rfl
      subst hA
      by_cases z0 : t = 0
      · have := c4 z0
        rw [if_pos ⟨z0, rfl⟩]
        exact M.Left.mk' hU (by omega) (by omega) (by constructor <;> intro h <;> omega) (by constructor <;> intro h <;> omega) (by constructor <;> intro h <;> omega) (by constructor <;> intro h <;> omega)
      · have := c5 (by omega)
        rw [if_neg (fun h => z0 h.1)]
        by_cases z1 : t < k
        · have := c1 z1
          rw [if_pos (by omega)]
          exact M.Left.mk' hU (by omega) (by omega) (by constructor <;> intro h <;> omega) (by constructor <;> intro h <;> omega) (by constructor <;> intro h <;> omega) (by constructor <;> intro h <;> omega)
        · rw [if_neg (by omega)]
          by_cases z2 : t = k
          · have := c2 z2
            rw [if_pos ⟨by omega, rfl⟩]
            exact M.Left.mk' hU (by omega) (by omega) (by constructor <;> intro h <;> omega) (by constructor <;> intro h <;> omega) (by constructor <;> intro h <;> omega) (by constructor <;> intro h <;> omega)
          · have := c3 (by omega)
            rw [if_neg (fun h => z2 (by omega))]
            exact M.Left.mk' hU (by omega) (by omega) (by constructor <;> intro h <;> omega) (by constructor <;> intro h <;> omega) (by constructor <;> intro h <;> omega) (by constructor <;> intro h <;> omega)
    · have hA := a3' rfl
      rw [if_neg (fun h => by cases h.2)]
      by_cases z1 : t < k
      · have := c1 z1
        rw [if_pos (by omega)]
        exact M.Left.mk' hU (by omega) (by omega) (by constructor <;> intro h <;> omega) (by constructor <;> intro h <;> omega) (by constructor <;> intro h <;> omega) (by constructor <;> intro h <;> omega)
      · rw [if_neg (by omega), if_neg (fun h => by cases h.2)]
        have hkt : K ≤ T := by
          by_cases z2 : t = k
          · have := c2 z2; omega
          · have := c3 (by omega); omega
        exact M.Left.mk' hU (by omega) (by omega) (by constructor <;> intro h <;> omega) (by constructor <;> intro h <;> omega) (by constructor <;> intro h <;> omega) (by constructor <;> intro h <;> omega)
theorem left_rungS {S A : Int} {u a r0 : Nat} {left : Int} (h : M.Left A u (2 ^ a * pw (-1074) * S) left) (h1 : V Ieee.double r0 = u * 2 ^ a) (h2 : V Ieee.double (r0 + 1) = (u + 1) * 2 ^ a) : RungS S A r0 left := by
  obtain ⟨lo, hi, l0, l1, l2, l3⟩ := h
  have e1 : vS r0 * S = (u : Int) * (2 ^ a * pw (-1074) * S) := by
    unfold vS
    rw [h1]
    push_cast
    simp only [Int.mul_assoc]
  have e2 : vS (r0 + 1) * S = (u : Int) * (2 ^ a * pw (-1074) * S) + 2 ^ a * pw (-1074) * S := by
    unfold vS
    rw [h2]
    push_cast
    simp only [Int.add_mul, Int.one_mul, Int.mul_assoc]
  generalize (2 : Int) ^ a * pw (-1074) * S = q at *
  generalize (u : Int) * q = U at *
  generalize hX : vS r0 * S = X at *
  generalize hY : vS (r0 + 1) * S = Y at *
  subst e1 e2
  exact ⟨by rw [hX]; omega, by rw [hY]; omega, by rw [hX]; exact l0, by rw [hX, hY, l1]; constructor <;> intro h <;> omega, by rw [hX, hY, l2]; constructor <;> intro h <;> omega, by rw [hX, hY, l3]; constructor <;> intro h <;> omega⟩
theorem r64_specS {way : Int} {ng sd : Bool} {mag : Nat} {exp : Int} {cut : Bool} (hm : mag < 2 ^ 64) (h0 : mag ≠ 0) (he : -4194304 ≤ exp) (hc : cut = true → 2 ^ 60 ≤ mag) :
    ∃ (r0 : Nat) (left : Int), (∀ S A : Int, 0 < S → HeldS S A mag exp cut → RungS S A r0 left) ∧ r64 way ng sd mag exp cut = (patS (ng && (decide (0 < rTo way ng r0 left) || sd)) (rTo way ng r0 left), decide (left ≠ 0) || decide (9218868437227405312 ≤ (r0 : Int))) := by
  have e64 : (2 : Nat) ^ 64 = 18446744073709551616 := by decide
  obtain ⟨b1, b2, b3, b4⟩ := M.bitLen_spec mag hm h0
  have hbits := rU_bits (size := 53) (low := -1074) (exp := exp) (by decide) hm h0
  have hE1 : -1074 ≤ rE 53 (-1074) mag exp := by unfold rE; omega
  have hcs : cut = true → 0 < rE 53 (-1074) mag exp - exp := fun h => by
    have h1 := hc h
    have h2 : 60 < Lib.bitLen mag := by
      have := (Nat.pow_lt_pow_iff_right (by decide : 1 < 2)).1 (Nat.lt_of_le_of_lt h1 b2)
      exact this
    unfold rE
    omega
  have hL := fun (S A : Int) (hS : 0 < S) (hA : HeldS S A mag exp cut) => left_ofS hS hA hcs (e := rE 53 (-1074) mag exp) (by omega) he
  obtain ⟨E, hE⟩ : ∃ E, rE 53 (-1074) mag exp = E := ⟨_, rfl⟩
  have HR : r64 way ng sd mag exp cut = (let E := rE 53 (-1074) mag exp
    let u := rU mag (E - exp)
    let left := rL mag cut (E - exp)
    let U := u + (if rUp way ng (decide (u % 2 = 1)) left then 1 else 0)
    let neg := ng && (decide (0 < U) || sd)
    if jk 52 2047 (-1074) U E then (jp neg U E, decide (left ≠ 0)) else (patS neg (bRung way neg), true)) := rfl
  simp only at HR
  rw [hE] at hbits hE1 hL HR
  obtain ⟨u, hu⟩ : ∃ u, rU mag (E - exp) = u := ⟨_, rfl⟩
  obtain ⟨left, hl⟩ : ∃ l, rL mag cut (E - exp) = l := ⟨_, rfl⟩
  rw [hu] at hbits hL HR
  rw [hl] at hL HR
  obtain ⟨a, ha⟩ : ∃ a, (E - -1074).toNat = a := ⟨_, rfl⟩
  have e53 : (2 : Nat) ^ (53 : Int).toNat = 9007199254740992 := by decide
  have e52 : (2 : Nat) ^ ((53 : Int).toNat - 1) = 4503599627370496 := by decide
  rw [e53, e52] at hbits
  have eB : Ieee.double.binade = 4503599627370496 := by decide
  have hV := V_rung Ieee.double a u (by rw [eB]; omega) (fun h => by rw [eB]; exact hbits.2 (by omega))
  rw [eB] at hV
  have hpw : pw E = 2 ^ a * pw (-1074) := by rw [pw_sub (e := E) (low := -1074) (by decide) hE1, ha]
  rw [hpw] at hL
  refine ⟨a * 4503599627370496 + u, left, fun S A hS hA => left_rungS (hL S A hS hA) hV.1 hV.2, ?_⟩
  rw [HR]
  have hodd : decide ((a * 4503599627370496 + u) % 2 = 1) = decide (u % 2 = 1) := by congr 1; apply propext; omega
  unfold rTo
  rw [hodd]
  obtain ⟨R, hR⟩ : ∃ R, rUp way ng (decide (u % 2 = 1)) left = R := ⟨_, rfl⟩
  rw [hR]
  obtain ⟨U, hU⟩ : ∃ U, u + (if R = true then 1 else 0) = U := ⟨_, rfl⟩
  rw [hU]
  have hR1 : R = true → left ≠ 0 := fun h hz => by rw [hz, h] at hR; exact rUp_left hR
  have hR2 : R = true → rUp way ng true 3 = true := fun h => rUp_more (hR.trans h)
  have hUle : U ≤ 9007199254740992 := by rw [← hU]; split <;> omega
  have hcast : ((a * 4503599627370496 + u : Nat) : Int) + (if R = true then 1 else 0) = ((a * 4503599627370496 + U : Nat) : Int) := by
    rw [← hU]
    cases R <;> simp only [if_true, if_false, Bool.false_eq_true] <;> omega
  rw [hcast]
  by_cases hU0 : U = 0
  · have hu0 : u = 0 := by rw [← hU] at hU0; omega
    have ha0 : a = 0 := by
      rcases Nat.eq_zero_or_pos a with h | h
      · exact h
      · have := hbits.2 (by omega); omega
    subst hU0 hu0 ha0
    have hj : jk 52 2047 (-1074) ((0 : Nat) : Int) E = true := rfl
    rw [hj]
    rw [if_pos rfl, if_pos (by decide)]
    have hd : decide (9218868437227405312 ≤ ((0 * 4503599627370496 + 0 : Nat) : Int)) = false := by decide
    rw [hd, Bool.or_false]
    cases ng <;> cases sd <;> rfl
  · have hjr := join_rung Ieee.double 52 (by decide) dB 2047 (-1074) (by decide) U E (by omega) (by rw [show (2 : Nat) ^ (52 + 1) = 9007199254740992 by decide]; exact hUle) hE1 (fun h => by rw [show (2 : Nat) ^ 52 = 4503599627370496 by decide]; have := hbits.2 h; rw [← hU]; omega)
    simp only at hjr
    rw [ha, show (2 : Nat) ^ 52 = 4503599627370496 by decide, show (2047 : Int) * 2 ^ 52 = 9218868437227405312 by decide] at hjr
    obtain ⟨j1, j2⟩ := hjr
    have hpos : decide (0 < U) = true := decide_eq_true (by omega)
    rw [show jk ((52 : Nat) : Int) 2047 (-1074) (U : Int) E = jk 52 2047 (-1074) (U : Int) E from rfl] at j1
    rw [j1, hpos, Bool.true_or, Bool.and_true]
    by_cases hf : ((a * 4503599627370496 + U : Nat) : Int) < 9218868437227405312
    · have huU : u ≤ U := by rw [← hU]; omega
      have hf0 : ((a * 4503599627370496 + u : Nat) : Int) < 9218868437227405312 := by omega
      rw [decide_eq_true hf, if_pos rfl, if_pos hf0, decide_eq_false (p := 9218868437227405312 ≤ ((a * 4503599627370496 + u : Nat) : Int)) (by omega), Bool.or_false]
      have hd : decide (0 < ((a * 4503599627370496 + U : Nat) : Int)) = true := decide_eq_true (by omega)
      rw [hd, Bool.true_or, Bool.and_true]
      congr 1
      have hjk : jk 52 2047 (-1074) (U : Int) E = true := by rw [j1]; exact decide_eq_true hf
      have hjv := j2 hf
      rw [show jv ((52 : Nat) : Int) 2047 (-1074) (U : Int) E = jv 52 2047 (-1074) (U : Int) E from rfl] at hjv
      unfold jp patS
      rw [hjk, hjv, Bool.true_and]
    · rw [decide_eq_false hf, if_neg (by simp)]
      by_cases hf0 : ((a * 4503599627370496 + u : Nat) : Int) < 9218868437227405312
      · have hRt : R = true := by
          cases R
          · exfalso; simp at hU; omega
          · rfl
        have hUe : ((a * 4503599627370496 + U : Nat) : Int) = 9218868437227405312 := by rw [hRt] at hU; simp at hU; omega
        rw [if_pos hf0, hUe, decide_eq_true (hR1 hRt), Bool.true_or]
        congr 1
        have : bRung way ng = 9218868437227405312 := by unfold bRung; rw [hR2 hRt, if_pos rfl]
        rw [this]
        simp
      · rw [if_neg hf0, decide_eq_true (p := 9218868437227405312 ≤ ((a * 4503599627370496 + u : Nat) : Int)) (by omega), Bool.or_true]
        congr 1
        have hd : decide (0 < bRung way ng) = true := by unfold bRung; split <;> decide
        rw [hd, Bool.true_or, Bool.and_true]
end Go.Proofs.YtgplnodgndbdeaaDoor

/-
  Plain mathematics: a quotient's rung, and what RoundQuots asks of it.
-/
namespace Go.Proofs.YtgplnodgndbdeaaDoor
open Go Go.RowKit Go.Proofs.YtgplnodgndbdeaaDoor.M
set_option linter.unusedSimpArgs false
set_option linter.unusedVariables false

theorem pw_cross {x y u v : Int} {n : Nat} (hx : -4194304 ≤ x) (hy : -4194304 ≤ y) (hu : -4194304 ≤ u) (hv : -4194304 ≤ v) (h : x + y = u + v + n) : pw x * pw y = 2 ^ n * (pw u * pw v) := by
  unfold pw
  rw [← Int.pow_add, ← Int.pow_add, ← Int.pow_add]
  congr 1
  omega
theorem held_core1 {MA MB X Y D N mag rest : Int} (hY : Y = D * X) (hN : MA * D = N) (hd : MB * mag + rest = N) (r0 : 0 ≤ rest) (r1 : rest < MB) (hX : 0 < X) :
    mag * (MB * X) ≤ MA * Y ∧ MA * Y < (mag + 1) * (MB * X) ∧ (rest = 0 ↔ MA * Y = mag * (MB * X)) := by
  have e : MA * Y = mag * (MB * X) + rest * X := by
    rw [hY, ← Int.mul_assoc, hN, ← hd, Int.add_mul, Int.mul_comm MB mag, Int.mul_assoc]
  have e2 : (mag + 1) * (MB * X) = mag * (MB * X) + MB * X := by rw [Int.add_mul, Int.one_mul]
  have t0 : 0 ≤ rest * X := Int.mul_nonneg r0 (Int.le_of_lt hX)
  have t1 : rest * X < MB * X := Int.mul_lt_mul_of_pos_right r1 hX
  rw [e, e2]
  refine ⟨by omega, by omega, ?_⟩
  constructor
  · intro h
    rw [h, Int.zero_mul, Int.add_zero]
  · intro h
    by_cases h0 : rest = 0
    · exact h0
    · have : 0 < rest * X := Int.mul_pos (by omega) hX
      omega
theorem held_core2 {MA MB X Y D N t mag rest : Int} (hX : X = D * Y) (hN : D * N + t = MA) (t0 : 0 ≤ t) (t1 : t < D) (hd : MB * mag + rest = N) (r0 : 0 ≤ rest) (r1 : rest < MB) (hY : 0 < Y) :
    mag * (MB * X) ≤ MA * Y ∧ MA * Y < (mag + 1) * (MB * X) ∧ ((t = 0 ∧ rest = 0) ↔ MA * Y = mag * (MB * X)) := by
  have hD : 0 < D := by omega
  have e : MA * Y = mag * (MB * X) + (D * rest + t) * Y := by
    rw [← hN, ← hd, hX]
    simp only [Int.mul_add, Int.add_mul]
    have : D * (MB * mag) * Y = mag * (MB * (D * Y)) := by
      rw [Int.mul_comm MB mag, ← Int.mul_assoc D, Int.mul_comm D mag, Int.mul_assoc mag D, Int.mul_assoc mag, Int.mul_comm D MB, Int.mul_assoc MB]
    rw [this]
    omega
  have e2 : (mag + 1) * (MB * X) = mag * (MB * X) + MB * X := by rw [Int.add_mul, Int.one_mul]
  have e3 : MB * X = (D * MB) * Y := by rw [hX, ← Int.mul_assoc, Int.mul_comm MB D]
  have q0 : 0 ≤ D * rest := Int.mul_nonneg (Int.le_of_lt hD) r0
  have q1 : D * rest + t < D * MB := by
    have : D * (rest + 1) ≤ D * MB := Int.mul_le_mul_of_nonneg_left (by omega) (Int.le_of_lt hD)
    rw [Int.mul_add, Int.mul_one] at this
    omega
  have t2 : 0 ≤ (D * rest + t) * Y := Int.mul_nonneg (by omega) (Int.le_of_lt hY)
  have t3 : (D * rest + t) * Y < (D * MB) * Y := Int.mul_lt_mul_of_pos_right q1 hY
  rw [e, e2, e3]
  rw [e3] at e2
  refine ⟨by omega, by omega, ?_⟩
  constructor
  · rintro ⟨h, h'⟩
    rw [h, h', Int.mul_zero, Int.add_zero, Int.zero_mul, Int.add_zero]
  · intro h
    by_cases h0 : D * rest + t = 0
    · have h1 : D * rest = 0 := by omega
      rcases Int.mul_eq_zero.1 h1 with h2 | h2
      · omega
      · exact ⟨by omega, h2⟩
    · have : 0 < (D * rest + t) * Y := Int.mul_pos (by omega) hY
      omega
theorem scV_big {A B : Int} (hA : 0 < A) (hB : 0 < B) : 2 ^ 61 ≤ scV A (qK A B) / B := by
  have b1 := blen_pos hA
  have b2 := blen_lt B
  have b3 := blen_pos hB
  rw [Int.le_ediv_iff_mul_le hB]
  have hs : 2 ^ (61 + blen B) ≤ scV A (qK A B) := by
    unfold scV qK
    by_cases h : 0 ≤ 62 + (blen B : Int) - (blen A : Int)
    · rw [if_pos h]
      have e : (2 : Int) ^ (61 + blen B) = 2 ^ (blen A - 1) * 2 ^ (62 + (blen B : Int) - (blen A : Int)).toNat := by rw [← Int.pow_add]; congr 1; omega
      rw [e]
      exact Int.mul_le_mul_of_nonneg_right b1.2 (Int.le_of_lt (two_pos _))
    · rw [if_neg h, Int.le_ediv_iff_mul_le (two_pos _), ← Int.pow_add]
      rw [show 61 + blen B + (-(62 + (blen B : Int) - (blen A : Int))).toNat = blen A - 1 by omega]
      exact b1.2
  refine Int.le_trans ?_ hs
  rw [Int.pow_add]
  exact Int.mul_le_mul_of_nonneg_left (by omega) (by decide)
theorem held_quot {MA MB ea eb : Int} (hA : 0 ≤ MA) (hB : 0 < MB) (a0 : -1100000 ≤ ea) (a1 : ea ≤ 1100000) (b0 : -1100000 ≤ eb) (b1 : eb ≤ 1100000) (lA : blen MA ≤ 150000) (lB : blen MB ≤ 150000) :
    HeldS (MB * pw eb) (MA * (pw ea * pw 0)) (scV MA (qK MA MB) / MB).toNat (ea - eb - qK MA MB) (scC MA (qK MA MB) || decide (scV MA (qK MA MB) % MB ≠ 0)) := by
  have hsm := qK_small hA hB
  have hqk : qK MA MB = 62 + (blen MB : Int) - (blen MA : Int) := rfl
  obtain ⟨k, hk⟩ : ∃ k, qK MA MB = k := ⟨_, rfl⟩
  rw [hk] at hsm hqk ⊢
  obtain ⟨m, hm⟩ : ∃ m, scV MA k / MB = m := ⟨_, rfl⟩
  obtain ⟨r, hr⟩ : ∃ r, scV MA k % MB = r := ⟨_, rfl⟩
  have hd := Int.mul_ediv_add_emod (scV MA k) MB
  have r0 := Int.emod_nonneg (scV MA k) (show MB ≠ 0 by omega)
  have r1 := Int.emod_lt_of_pos (scV MA k) hB
  rw [hm] at hsm hd ⊢
  rw [hr] at hd r0 r1 ⊢
  obtain ⟨X, hX⟩ : ∃ X, pw (ea - eb - k) * pw eb = X := ⟨_, rfl⟩
  obtain ⟨Y, hY⟩ : ∃ Y, pw ea * pw 0 = Y := ⟨_, rfl⟩
  have hX0 : 0 < X := by rw [← hX]; exact Int.mul_pos (pw_pos _) (pw_pos _)
  have hY0 : 0 < Y := by rw [← hY]; exact Int.mul_pos (pw_pos _) (pw_pos _)
  have e1 : pw (ea - eb - k) * (MB * pw eb) = MB * X := by rw [← hX, Int.mul_comm MB, ← Int.mul_assoc, Int.mul_comm]
  unfold HeldS
  rw [e1, hY, Int.toNat_of_nonneg hsm.2.2.1]
  by_cases h : 0 ≤ k
  · have hc : Y = 2 ^ k.toNat * X := by
      rw [← hX, ← hY]
      exact pw_cross (by omega) (by decide) (by omega) (by omega) (by omega)
    have hsv : scV MA k = MA * 2 ^ k.toNat := by unfold scV; rw [if_pos h]
    have hsc : scC MA k = false := by unfold scC; rw [if_pos h]
    rw [hsc, Bool.false_or]
    obtain ⟨q1, q2, q3⟩ := held_core1 hc hsv.symm hd r0 r1 hX0
    exact ⟨q1, q2, by rw [← q3, decide_eq_false_iff_not]; constructor <;> intro h <;> omega⟩
  · have hc : X = 2 ^ (-k).toNat * Y := by
      rw [← hX, ← hY]
      exact pw_cross (by omega) (by omega) (by omega) (by decide) (by omega)
    have hsv : scV MA k = MA / 2 ^ (-k).toNat := by unfold scV; rw [if_neg h]
    have hsc : scC MA k = decide (MA % 2 ^ (-k).toNat ≠ 0) := by unfold scC; rw [if_neg h]
    have hp := two_pos (-k).toNat
    have hdd := Int.mul_ediv_add_emod MA (2 ^ (-k).toNat)
    have t0 := Int.emod_nonneg MA (show (2 : Int) ^ (-k).toNat ≠ 0 by omega)
    have t1 := Int.emod_lt_of_pos MA hp
    rw [← hsv] at hdd
    rw [hsc]
    obtain ⟨q1, q2, q3⟩ := held_core2 hc hdd t0 t1 hd r0 r1 hY0
    refine ⟨q1, q2, ?_⟩
    rw [← q3, Bool.or_eq_false_iff, decide_eq_false_iff_not, decide_eq_false_iff_not]
    constructor <;> intro h <;> omega
end Go.Proofs.YtgplnodgndbdeaaDoor

/-
  Plain mathematics: what Quot answers by Down, and its neighbour above.
-/
namespace Go.Proofs.YtgplnodgndbdeaaDoor
open Go Go.RowKit Go.Proofs.YtgplnodgndbdeaaDoor.M
set_option linter.unusedSimpArgs false
set_option linter.unusedVariables false

theorem r64_zero (way e : Int) : r64 way false false 0 e false = (0, false) := by
  have HR : r64 way false false 0 e false = (let E := rE 53 (-1074) 0 e
    let u := rU 0 (E - e)
    let left := rL 0 false (E - e)
    let U := u + (if rUp way false (decide (u % 2 = 1)) left then 1 else 0)
    let neg := false && (decide (0 < U) || false)
    if jk 52 2047 (-1074) U E then (jp neg U E, decide (left ≠ 0)) else (patS neg (bRung way neg), true)) := rfl
  rw [HR]
  generalize rE 53 (-1074) 0 e = E
  have hu : rU 0 (E - e) = 0 := by unfold rU; split <;> simp
  have hl : rL 0 false (E - e) = 0 := by unfold rL; split <;> simp
  simp only [hu, hl]
  have hr : rUp way false (decide (0 % 2 = 1)) 0 = false := by
    cases h : rUp way false (decide (0 % 2 = 1)) 0
    · rfl
    · exact absurd h (fun q => rUp_left q)
  rw [hr]
  rfl
theorem rungS_zero_aux {a b : Int} (h0 : a = 0) (h1 : 0 < b) : a ≤ 0 ∧ (0 : Int) < b ∧ (((0 : Int) = 0 ↔ (0 : Int) = a) ∧ ((0 : Int) = 1 ↔ a < 0 ∧ 2 * 0 < a + b) ∧ ((0 : Int) = 2 ↔ 2 * 0 = a + b) ∧ ((0 : Int) = 3 ↔ a + b < 2 * 0)) := by
  subst h0
  exact ⟨Int.le_refl _, h1, by omega, by omega, by omega, by omega⟩
theorem rungS_zero {S : Int} (hS : 0 < S) : RungS S 0 0 0 := by
  have h1 := vS_lt (show 0 < 0 + 1 by decide)
  have h0 : vS 0 * S = 0 := by rw [vS_zero, Int.zero_mul]
  rw [vS_zero] at h1
  obtain ⟨p, q, a, b, c, d⟩ := rungS_zero_aux h0 (Int.mul_pos h1 hS)
  exact ⟨p, q, a, b, c, d⟩
/-- What Quot answers, by the quotient's rung. -/
theorem quot_rung {way : Int} {a b : NumR} (oa : okR a = true) (ob : okR b = true) (hb0 : 0 < b.n) (hbg : b.ng = false) :
    ∃ (r0 : Nat) (left : Int), RungS (val b.d b.n * pw b.e) (val a.d a.n * (pw a.e * pw 0)) r0 left ∧ qR64 way a b = (patS (a.ng && decide (0 < rTo way a.ng r0 left)) (rTo way a.ng r0 left), decide (left ≠ 0) || decide (9218868437227405312 ≤ (r0 : Int))) := by
  obtain ⟨na, hn, ea0, ea1⟩ := okR_sane oa
  obtain ⟨nb, hm, eb0, eb1⟩ := okR_sane ob
  have hB := val_pos nb hb0
  have hS : 0 < val b.d b.n * pw b.e := Int.mul_pos hB (pw_pos _)
  have hng : (a.ng != b.ng) = a.ng := by rw [hbg]; cases a.ng <;> rfl
  by_cases h0 : a.n = 0
  · have hv : val a.d a.n = 0 := by rw [h0]; rfl
    have hz : a.ng = false := by
      have := of_decide_eq_true oa
      rcases this with ⟨_, q, _⟩ | ⟨q, _⟩
      · exact q
      · omega
    refine ⟨0, 0, ?_, ?_⟩
    · rw [hv, Int.zero_mul]; exact rungS_zero hS
    · unfold qR64
      rw [hng, hz, hv]
      have e1 : (scV 0 (qK 0 (val b.d b.n)) / val b.d b.n).toNat = 0 := by
        have : scV 0 (qK 0 (val b.d b.n)) = 0 := by unfold scV; split <;> simp
        rw [this]; simp
      have e2 : (scC 0 (qK 0 (val b.d b.n)) || decide (scV 0 (qK 0 (val b.d b.n)) % val b.d b.n ≠ 0)) = false := by
        have : scV 0 (qK 0 (val b.d b.n)) = 0 := by unfold scV; split <;> simp
        rw [this]
        unfold scC; split <;> simp
      rw [e1, e2, r64_zero, rTo_zero]
      rfl
  · have hA := val_pos na (by omega)
    have hAl := blen_nrm na
    have hBl := blen_nrm nb
    have hh := held_quot (Int.le_of_lt hA) hB ea0 ea1 eb0 eb1 (by omega) (by omega)
    have hsm := qK_small (Int.le_of_lt hA) hB
    have hbig := scV_big hA hB
    have hqk : qK (val a.d a.n) (val b.d b.n) = 62 + (blen (val b.d b.n) : Int) - (blen (val a.d a.n) : Int) := rfl
    have e61 : (2 : Int) ^ 61 = 2305843009213693952 := by decide
    have e64 : (2 : Nat) ^ 64 = 18446744073709551616 := by decide
    have e60 : (2 : Nat) ^ 60 = 1152921504606846976 := by decide
    rw [e61] at hbig
    obtain ⟨r0, left, hR, hE⟩ := r64_specS (way := way) (ng := a.ng) (sd := false) (mag := (scV (val a.d a.n) (qK (val a.d a.n) (val b.d b.n)) / val b.d b.n).toNat) (exp := a.e - b.e - qK (val a.d a.n) (val b.d b.n)) (cut := scC (val a.d a.n) (qK (val a.d a.n) (val b.d b.n)) || decide (scV (val a.d a.n) (qK (val a.d a.n) (val b.d b.n)) % val b.d b.n ≠ 0)) (by omega) (by omega) (by omega) (fun _ => by omega)
    refine ⟨r0, left, hR _ _ hS hh, ?_⟩
    unfold qR64
    rw [hng, hE, Bool.or_false]
/-- What RoundQuots asks of an answer by Down: U / S is the quotient. -/
structure Quo (U S d : Int) (o : Bool) : Prop where
  rg : rng d
  fin : pok d = true → patV d * S ≤ U ∧ (patV d * S = U ↔ o = false)
  nxt : pok (next d) = true → U < patV (next d) * S
  neg : pok d = false → d < 0
theorem next_pos {r : Int} (h0 : 0 ≤ r) (h1 : r < 9218868437227405312) : next (patS false r) = patS false (r + 1) := by
  have hc := cls_pat (s := false) (r := r) h0 (by omega) (fun h => by cases h)
  unfold next
  rw [if_neg hc]
  show (if r = 9218868437227405312 then r else if r = -9223372036854775808 then 1 else if r < 0 then r - 1 else r + 1) = r + 1
  rw [if_neg (by omega), if_neg (by omega), if_neg (by omega)]
theorem next_neg {r : Int} (h0 : 0 < r) (h1 : r ≤ 9218868437227405312) : next (patS true r) = patS true (r - 1) := by
  have hc := cls_pat (s := true) (r := r) (by omega) h1 (fun _ => h0)
  unfold next
  rw [if_neg hc]
  show (if r - 9223372036854775808 = 9218868437227405312 then r - 9223372036854775808 else if r - 9223372036854775808 = -9223372036854775808 then 1 else if r - 9223372036854775808 < 0 then r - 9223372036854775808 - 1 else r - 9223372036854775808 + 1) = r - 1 - 9223372036854775808
  rw [if_neg (by omega), if_neg (by omega), if_pos (by omega)]
  omega
theorem pmag_nz : pmag (-9223372036854775808) = 0 := by decide
theorem patV_neg {r : Nat} (h : (r : Int) < 9218868437227405312) : patV (patS true (r : Int)) = sg true (vS r) := by
  by_cases h0 : r = 0
  · subst h0
    rw [vS_zero]
    show patV (-9223372036854775808) = sg true 0
    unfold patV
    rw [pmag_nz, sg_zero, sg_zero, Int.zero_mul]
  · exact patV_patS h (fun _ => by omega)
theorem pok_pos {r : Int} (h0 : 0 ≤ r) (h1 : r ≤ 9218868437227405312) (h : pok (patS false r) = true) : r < 9218868437227405312 := by
  rw [patS_pok h0 h1 (fun q => by cases q)] at h
  exact of_decide_eq_true h
/-- The cases of an answer by Down. -/
theorem Quo.pos {S A : Int} {r : Nat} {o : Bool} (hr : (r : Int) < 9218868437227405312) (lo : vS r * S ≤ A) (eq : vS r * S = A ↔ o = false) (hi : ((r + 1 : Nat) : Int) < 9218868437227405312 → A < vS (r + 1) * S) : Quo A S (patS false (r : Int)) o := by
  have hv : patV (patS false (r : Int)) = vS r := by
    have := patV_patS (ng := false) hr (fun h => by cases h)
    rw [this]
    unfold sg
    rw [if_neg (by decide)]
  have hnx : next (patS false (r : Int)) = patS false ((r + 1 : Nat) : Int) := by
    rw [next_pos (by omega) hr]; rfl
  refine ⟨(patS_facts (by omega) (by omega) (fun h => by cases h)).1, fun _ => ?_, fun h => ?_, fun h => ?_⟩
  · rw [hv]; exact ⟨lo, eq⟩
  · rw [hnx] at h ⊢
    have h1 := pok_pos (by omega) (by omega) h
    have := patV_patS (ng := false) h1 (fun h => by cases h)
    rw [this]
    unfold sg
    rw [if_neg (by decide)]
    exact hi h1
  · exfalso
    rw [patS_pok (by omega) (by omega) (fun h => by cases h)] at h
    exact absurd hr (of_decide_eq_false h)
theorem neg_le_aux {p A : Int} (h : A ≤ p) : -p ≤ -A := by omega
theorem sgT_mul (v S : Int) : sg true v * S = -(v * S) := by
  unfold sg
  rw [if_pos rfl, Int.neg_mul]
theorem neg_eq_iff {a b : Int} : -a = -b ↔ a = b := by omega
theorem Quo.neg' {S A : Int} {r : Nat} {o : Bool} (h0 : 0 < r) (hr : (r : Int) ≤ 9218868437227405312) (lo : (r : Int) < 9218868437227405312 → A ≤ vS r * S ∧ (vS r * S = A ↔ o = false)) (hi : vS (r - 1) * S < A) : Quo (-A) S (patS true (r : Int)) o := by
  have hnx : next (patS true (r : Int)) = patS true ((r - 1 : Nat) : Int) := by
    rw [next_neg (by omega) hr]; congr 1; omega
  refine ⟨(patS_facts (by omega) hr (fun _ => by omega)).1, fun h => ?_, fun h => ?_, fun h => ?_⟩
  · rw [patS_pok (by omega) hr (fun _ => by omega)] at h
    have h1 := of_decide_eq_true h
    obtain ⟨l1, l2⟩ := lo h1
    rw [patV_neg h1, sgT_mul]
    exact ⟨neg_le_aux l1, neg_eq_iff.trans l2⟩
  · rw [hnx, patV_neg (by omega), sgT_mul]
    exact Int.neg_lt_neg hi
  · exact ((patS_facts (by omega) hr (fun _ => by omega)).2.2).2 rfl
theorem k_cast {k : Nat} (hk2 : (k : Int) + 1 = 9218868437227405312) : (9218868437227405312 : Int) = ((k + 1 : Nat) : Int) ∧ ¬ ((k + 1 : Nat) : Int) < 9218868437227405312 ∧ ((k + 1 : Nat) : Int) ≤ 9218868437227405312 := by omega
theorem k_low {r : Nat} (h : 0 < r) : (0 : Int) < (r : Int) ∧ r - 1 < r := by omega
theorem quo_of {S A : Int} {r0 : Nat} {left : Int} {ng : Bool} (hS : 0 < S) (R : RungS S A r0 left) (zA : ng = true → 0 < A) : Quo (sg ng A) S (patS (ng && decide (0 < rTo 1 ng r0 left)) (rTo 1 ng r0 left)) (decide (left ≠ 0) || decide (9218868437227405312 ≤ (r0 : Int))) := by
  obtain ⟨lo, hi, l0, _, _, _⟩ := R
  obtain ⟨k, hk⟩ := k_ex
  obtain ⟨hk1, hk2, hk3⟩ := k_fin hk
  by_cases hr : (r0 : Int) < 9218868437227405312
  · obtain ⟨t1, _, _, _⟩ := rTo_fin (ng := ng) (left := left) hr
    have ho : (decide (left ≠ 0) || decide (9218868437227405312 ≤ (r0 : Int))) = decide (left ≠ 0) := by rw [decide_eq_false (p := 9218868437227405312 ≤ (r0 : Int)) (Int.not_le.2 hr), Bool.or_false]
    rw [ho]
    cases ng
    · have e1 : rTo 1 false r0 left = (r0 : Int) := by rw [t1, if_neg (fun h => by cases h.2)]
      rw [e1, Bool.false_and]
      refine Quo.pos hr lo ?_ (fun _ => hi)
      rw [decide_eq_false_iff_not, Classical.not_not, l0]
      exact ⟨Eq.symm, Eq.symm⟩
    · have hA := zA rfl
      by_cases hl : left = 0
      · have e1 : rTo 1 true r0 left = (r0 : Int) := by rw [t1, if_neg (fun h => h.1 hl)]
        have hAe := l0.1 hl
        have h0 : 0 < r0 := by
          rcases Nat.eq_zero_or_pos r0 with h | h
          · rw [h, vS_zero, Int.zero_mul] at hAe; omega
          · exact h
        rw [e1, Bool.true_and, decide_eq_true (p := (0 : Int) < (r0 : Int)) (k_low h0).1, decide_eq_false (p := left ≠ 0) (fun h => h hl)]
        refine Quo.neg' h0 (Int.le_of_lt hr) (fun _ => ⟨Int.le_of_eq hAe, ⟨fun _ => rfl, fun _ => hAe.symm⟩⟩) ?_
        rw [hAe]
        exact Int.mul_lt_mul_of_pos_right (vS_lt (k_low h0).2) hS
      · have e1 : rTo 1 true r0 left = ((r0 + 1 : Nat) : Int) := by rw [t1, if_pos ⟨hl, rfl⟩]
        rw [e1, Bool.true_and, decide_eq_true (p := (0 : Int) < ((r0 + 1 : Nat) : Int)) (k_pos r0), decide_eq_true (p := left ≠ 0) hl]
        refine Quo.neg' (Nat.succ_pos _) (k_le hr) (fun _ => ⟨Int.le_of_lt hi, ⟨fun h => ?_, fun h => by cases h⟩⟩) ?_
        · rw [h] at hi; exact absurd hi (Int.lt_irrefl _)
        · show vS r0 * S < A
          rcases Int.lt_or_eq_of_le lo with h | h
          · exact h
          · exact absurd (l0.2 h.symm) hl
  · obtain ⟨t1, _, _, _⟩ := rTo_inf (ng := ng) (left := left) hr
    have ho : (decide (left ≠ 0) || decide (9218868437227405312 ≤ (r0 : Int))) = true := by rw [decide_eq_true (p := 9218868437227405312 ≤ (r0 : Int)) (Int.not_lt.1 hr), Bool.or_true]
    rw [ho]
    have hAl : vS k * S < A := Int.lt_of_lt_of_le (Int.mul_lt_mul_of_pos_right (vS_lt (k_lt hk hr)) hS) lo
    cases ng
    · rw [if_neg (by decide), hk] at t1
      rw [t1, Bool.false_and]
      refine Quo.pos hk1 (Int.le_of_lt hAl) ⟨fun h => ?_, fun h => by cases h⟩ (fun h => ?_)
      · rw [h] at hAl; exact absurd hAl (Int.lt_irrefl _)
      · exact absurd h (k_cast hk2).2.1
    · rw [if_pos rfl] at t1
      have e2 := (k_cast hk2).1
      rw [t1, Bool.true_and, decide_eq_true (p := (0 : Int) < 9218868437227405312) (by decide), e2]
      exact Quo.neg' (Nat.succ_pos _) (k_cast hk2).2.2 (fun h => absurd h (k_cast hk2).2.1) hAl
end Go.Proofs.YtgplnodgndbdeaaDoor

/-
  Package round: Quot by 0.
-/
namespace Go.Proofs.YtgplnodgndbdeaaDoor
open Go Go.RowKit Go.Proofs.YtgplnodgndbdeaaDoor.M
set_option linter.unusedSimpArgs false
set_option linter.unusedVariables false

set_option maxRecDepth 100000 in
set_option maxHeartbeats 1000000 in
theorem quotient_no (p : Nat) (a b : NumR) (w : World) (hg : w.heap[p]? = some (.cells #[.bool a.ng, .slice a.ao a.n a.cap, .int .i64 a.e, .bool b.ng, .slice b.ao b.n b.cap, .int .i64 b.e] 24 (0, 0))) (hb0 : b.n = 0) :
    Calls Tryd.prog 39 #[.slice (some ⟨p, 0, none⟩) 2 2] w fun r w' => r = .returned (.tuple #[.agg #[.bool false, .int .u64 0, .int .i64 0, .bool false, .bool false], .int .i64 12]) ∧ Below w.heap.size w w' := by
  obtain ⟨a_g, a_o, a_n, a_c, a_d, a_e⟩ := a
  obtain ⟨b_g, b_o, b_n, b_c, b_d, b_e⟩ := b
  simp only at *
  subst hb0
  have k0 := blkC hg 0 rfl
  have k1 := blkC hg 1 rfl
  have k2 := blkC hg 2 rfl
  have k3 := blkC hg 3 rfl
  have k4 := blkC hg 4 rfl
  have k5 := blkC hg 5 rfl
  go_enter Tryd.func39, Tryd.ntmps39
  go_wp2_with fail
  have q0 := heap_alloc_new w (.cells #[.bool false, .int .u64 0, .int .i64 0, .bool false, .bool false] 49)
  have hb1 := bel_alloc w (.cells #[.bool false, .int .u64 0, .int .i64 0, .bool false, .bool false] 49)
  have l0 := cell_keeps k0 hb1
  have l1 := cell_keeps k1 hb1
  have l2 := cell_keeps k2 hb1
  have l3 := cell_keeps k3 hb1
  have l4 := cell_keeps k4 hb1
  have l5 := cell_keeps k5 hb1
  have hsz : w.heap.size < (w.alloc (.cells #[.bool false, .int .u64 0, .int .i64 0, .bool false, .bool false] 49)).heap.size := by simp
  generalize w.alloc (.cells #[.bool false, .int .u64 0, .int .i64 0, .bool false, .bool false] 49) = w1 at hsz q0 hb1 l0 l1 l2 l3 l4 l5 ⊢
  have hp1 : p < w1.heap.size := Nat.lt_of_lt_of_le (Array.getElem?_eq_some_iff.1 hg).1 hb1.size
  have hc : p < w1.heap.size ∧ w1.heap.size ≤ w1.drew.heap.size ∧ w1.drew.cell? ⟨p, 0, none⟩ = some (.bool a_g) ∧ w1.drew.cell? ⟨p, 1, none⟩ = some (.slice a_o a_n a_c) ∧ w1.drew.cell? ⟨p, 2, none⟩ = some (.int .i64 a_e) ∧ w1.drew.cell? ⟨p, 3, none⟩ = some (.bool b_g) ∧ w1.drew.cell? ⟨p, 4, none⟩ = some (.slice b_o 0 b_c) ∧ w1.drew.cell? ⟨p, 5, none⟩ = some (.int .i64 b_e) := ⟨hp1, Nat.le_refl _, l0, l1, l2, l3, l4, l5⟩
  go_region_held3 (fun W => p < w1.heap.size ∧ w1.heap.size ≤ W.heap.size ∧ W.cell? ⟨p, 0, none⟩ = some (.bool a_g) ∧ W.cell? ⟨p, 1, none⟩ = some (.slice a_o a_n a_c) ∧ W.cell? ⟨p, 2, none⟩ = some (.int .i64 a_e) ∧ W.cell? ⟨p, 3, none⟩ = some (.bool b_g) ∧ W.cell? ⟨p, 4, none⟩ = some (.slice b_o 0 b_c) ∧ W.cell? ⟨p, 5, none⟩ = some (.int .i64 b_e))
    (first | assumption | (repeat (first | exact hc | refine cells6_alloc _ ?_ | refine cells6_set (by first | omega | (simp; omega)) ?_)))
    (fail)
  · have A_K : ((w1.alloc (.cells #[.bool a_g, .slice a_o a_n a_c, .int .i64 a_e] 24)).alloc (.cells #[.bool b_g, .slice b_o 0 b_c, .int .i64 b_e] 24)).drew.heap[w1.heap.size]? = some (.cells #[.bool a_g, .slice a_o a_n a_c, .int .i64 a_e] 24 (0, 0)) := heap_a2 w1 (.cells #[.bool a_g, .slice a_o a_n a_c, .int .i64 a_e] 24) (.cells #[.bool b_g, .slice b_o 0 b_c, .int .i64 b_e] 24)
    have B_K : ((w1.alloc (.cells #[.bool a_g, .slice a_o a_n a_c, .int .i64 a_e] 24)).alloc (.cells #[.bool b_g, .slice b_o 0 b_c, .int .i64 b_e] 24)).drew.heap[w1.heap.size + 1]? = some (.cells #[.bool b_g, .slice b_o 0 b_c, .int .i64 b_e] 24 (0, 0)) := heap_b2 w1 (.cells #[.bool a_g, .slice a_o a_n a_c, .int .i64 a_e] 24) (.cells #[.bool b_g, .slice b_o 0 b_c, .int .i64 b_e] 24)
    have hb2 : Below w1.heap.size w1 ((w1.alloc (.cells #[.bool a_g, .slice a_o a_n a_c, .int .i64 a_e] 24)).alloc (.cells #[.bool b_g, .slice b_o 0 b_c, .int .i64 b_e] 24)).drew := (bel_alloc2 w1 _ _).drew
    have R_K := (hb2.block _ (Array.getElem?_eq_some_iff.1 q0).1).trans q0
    have hbw := bel_trans hb1 hb2
    generalize ((w1.alloc (.cells #[.bool a_g, .slice a_o a_n a_c, .int .i64 a_e] 24)).alloc (.cells #[.bool b_g, .slice b_o 0 b_c, .int .i64 b_e] 24)).drew = w2 at A_K B_K hb2 R_K hbw ⊢
    clear q0 hb1 hb2 l0 l1 l2 l3 l4 l5 hc hp1 k0 k1 k2 k3 k4 k5
    have a1 := blkC A_K 1 rfl
    have s0 := blkC B_K 1 rfl
    have x0 := blkC R_K 0 rfl
    have x1 := blkC R_K 1 rfl
    have x2 := blkC R_K 2 rfl
    have x3 := blkC R_K 3 rfl
    have x4 := blkC R_K 4 rfl
    have z0 := blkF R_K 0
    have z1 := blkF R_K 1
    have z2 := blkF R_K 2
    have z3 := blkF R_K 3
    have z4 := blkF R_K 4
    go_wp2
    all_goals refine bodyPost_ret (v := .tuple #[.agg #[.bool false, .int .u64 0, .int .i64 0, .bool false, .bool false], .int .i64 12]) (by simp [results, Tryd.results39, go_sem, x0, x1, x2, x3, x4]) rfl ⟨rfl, ?_⟩
    all_goals exact (wr5 w2 w.heap.size _ _ _ _ _).below hbw hbw.size (Nat.le_refl _)
  · have A_K : ((w1.alloc (.cells #[.bool b_g, .slice b_o 0 b_c, .int .i64 b_e] 24)).alloc (.cells #[.bool a_g, .slice a_o a_n a_c, .int .i64 a_e] 24)).drew.heap[w1.heap.size + 1]? = some (.cells #[.bool a_g, .slice a_o a_n a_c, .int .i64 a_e] 24 (0, 0)) := heap_b2 w1 (.cells #[.bool b_g, .slice b_o 0 b_c, .int .i64 b_e] 24) (.cells #[.bool a_g, .slice a_o a_n a_c, .int .i64 a_e] 24)
    have B_K : ((w1.alloc (.cells #[.bool b_g, .slice b_o 0 b_c, .int .i64 b_e] 24)).alloc (.cells #[.bool a_g, .slice a_o a_n a_c, .int .i64 a_e] 24)).drew.heap[w1.heap.size]? = some (.cells #[.bool b_g, .slice b_o 0 b_c, .int .i64 b_e] 24 (0, 0)) := heap_a2 w1 (.cells #[.bool b_g, .slice b_o 0 b_c, .int .i64 b_e] 24) (.cells #[.bool a_g, .slice a_o a_n a_c, .int .i64 a_e] 24)
    have hb2 : Below w1.heap.size w1 ((w1.alloc (.cells #[.bool b_g, .slice b_o 0 b_c, .int .i64 b_e] 24)).alloc (.cells #[.bool a_g, .slice a_o a_n a_c, .int .i64 a_e] 24)).drew := (bel_alloc2 w1 _ _).drew
    have R_K := (hb2.block _ (Array.getElem?_eq_some_iff.1 q0).1).trans q0
    have hbw := bel_trans hb1 hb2
    generalize ((w1.alloc (.cells #[.bool b_g, .slice b_o 0 b_c, .int .i64 b_e] 24)).alloc (.cells #[.bool a_g, .slice a_o a_n a_c, .int .i64 a_e] 24)).drew = w2 at A_K B_K hb2 R_K hbw ⊢
    clear q0 hb1 hb2 l0 l1 l2 l3 l4 l5 hc hp1 k0 k1 k2 k3 k4 k5
    have a1 := blkC A_K 1 rfl
    have s0 := blkC B_K 1 rfl
    have x0 := blkC R_K 0 rfl
    have x1 := blkC R_K 1 rfl
    have x2 := blkC R_K 2 rfl
    have x3 := blkC R_K 3 rfl
    have x4 := blkC R_K 4 rfl
    have z0 := blkF R_K 0
    have z1 := blkF R_K 1
    have z2 := blkF R_K 2
    have z3 := blkF R_K 3
    have z4 := blkF R_K 4
    go_wp2
    all_goals refine bodyPost_ret (v := .tuple #[.agg #[.bool false, .int .u64 0, .int .i64 0, .bool false, .bool false], .int .i64 12]) (by simp [results, Tryd.results39, go_sem, x0, x1, x2, x3, x4]) rfl ⟨rfl, ?_⟩
    all_goals exact (wr5 w2 w.heap.size _ _ _ _ _).below hbw hbw.size (Nat.le_refl _)
end Go.Proofs.YtgplnodgndbdeaaDoor

/-
  Package round: Quot by 0: rounded and Quot.
-/
namespace Go.Proofs.YtgplnodgndbdeaaDoor
open Go Go.RowKit Go.Proofs.YtgplnodgndbdeaaDoor.M
set_option linter.unusedSimpArgs false
set_option linter.unusedVariables false

set_option maxRecDepth 100000 in
set_option maxHeartbeats 1000000 in
theorem rounded_no (way : Int) (hw : 0 ≤ way ∧ way ≤ 3) (F G : Nat) (lo : Option Addr) (ln lc : Nat) (r : Nat → NumR) (w : World) (hl : Nums w lo ln lc r) (ok : ∀ i, i < ln → okR (r i) = true) 
    (hEG : ∀ (cap : Array Value) (w : World), (callFunc G cap).run Tryd.prog w = .ok (.enter G cap) w)
    (hG : ∀ W, Below w.heap.size w W → Calls Tryd.prog G #[.slice lo ln lc] W fun e w' => e = .returned (.tuple #[.agg #[.bool false, .int .u64 0, .int .i64 0, .bool false, .bool false], .int .i64 12]) ∧ Below W.heap.size W w') :
    Calls Tryd.prog 23 #[.int .i64 way, .func (.func F) #[] #[], .func (.func G) #[] #[], .slice lo ln lc] w fun e w' => e = .returned (.tuple #[.int .i64 0, .bool false, .int .i64 12]) ∧ Below w.heap.size w w' := by
  have hst : ∀ (p : Addr) (F : Nat) (m : Mode) (w : World), (store p (.func (.func F) #[] #[]) m).run Tryd.prog w = stored Tryd.prog w p (.func (.func F) #[] #[]) m := fun p F m w => run_store _ w p _ m rfl
  have hle := hl.le
  have hma := hl.max
  have CW := wayOf_any way w
  rw [if_pos hw, decide_eq_true hw] at CW
  unfold wayV at CW
  generalize wayF way = K at *
  go_enter Tryd.func23, Tryd.ntmps23
  go_wp2_with fail
  refine CW.mono ?_
  rintro _ w1 ⟨rfl, hb1⟩
  have q1 := heap_alloc_new w1 (.cells #[.nilFunc] 69)
  have y0 := blkC q1 0 rfl
  have y1 := blkF q1 0
  go_wp2_with fail
  have q2 := heap_alloc_new w1 (.cells #[.func (.func K) #[] #[]] 69)
  have hb2 := bel_trans hb1 (bel_alloc w1 (.cells #[.func (.func K) #[] #[]] 69))
  generalize w1.alloc (.cells #[.func (.func K) #[] #[]] 69) = w2 at q2 hb2 ⊢
  clear q1 y0 y1 CW
  go_loopw [28] (fun iv wr => ∃ k : Nat, iv = .int .i64 k ∧ k ≤ ln ∧ Hid (wr.heap[w1.heap.size]? = some (.cells #[.func (.func K) #[] #[]] 69 (0, 0))) ∧ Below w.heap.size w wr) (fun iv _ => ln - (intOf iv).toNat)
  case atStart => exact ⟨0, rfl, Nat.zero_le _, q2, hb2⟩
  case round =>
    clear q2 hb2
    obtain ⟨k, rfl, hk, HQ, hbw⟩ := hrel
    by_cases hlt : k < ln
    · obtain ⟨ba, oa, rfl, hba, hca⟩ := hl.spot (by omega)
      obtain ⟨c0, c1, c2, hR⟩ := (hca k hlt).keeps hbw hba
      have hok := ok k hlt
      have CV := fun W (hb : Below wr.heap.size wr W) => dvalid_any (r k).ng (r k).ao (r k).n (r k).cap (r k).d (r k).e W (hR.keeps hb)
      unfold okR at hok
      rw [hok] at CV
      clear hok hR hca
      generalize r k = x at c0 c1 c2 CV
      obtain ⟨x_g, x_o, x_n, x_c, x_d, x_e⟩ := x
      simp only at c0 c1 c2 CV
      have hb3 := bel_alloc wr (.cells #[.bool x_g, .slice x_o x_n x_c, .int .i64 x_e] 24)
      have HQ3 : Hid ((wr.alloc (.cells #[.bool x_g, .slice x_o x_n x_c, .int .i64 x_e] 24)).heap[w1.heap.size]? = some (.cells #[.func (.func K) #[] #[]] 69 (0, 0))) := (hb3.block _ (Array.getElem?_eq_some_iff.1 HQ.out).1).trans HQ.out
      go_wp2_with fail
      refine (CV _ hb3).mono ?_
      rintro _ w4 ⟨rfl, hb4⟩
      have HQ4 : Hid (w4.heap[w1.heap.size]? = some (.cells #[.func (.func K) #[] #[]] 69 (0, 0))) := (hb4.block _ (Array.getElem?_eq_some_iff.1 HQ3.out).1).trans HQ3.out
      have hbw4 := hbw.trans ((bel_trans hb3 hb4).mono hbw.size)
      clear CV HQ3 hb3 hb4 c0 c1 c2
      go_wp2
      go_roundw
      case rel => exact ⟨k + 1, by go_num, by omega, HQ4.out, hbw4⟩
      case measure => simp [intOf]; omega
    · obtain rfl : k = ln := by omega
      go_wp2_with fail
      refine (hG _ hbw).mono ?_
      rintro _ w4 ⟨rfl, hb4⟩
      have p4 := (hb4.block _ (Array.getElem?_eq_some_iff.1 HQ.out).1).trans HQ.out
      have hbw4 := hbw.trans (hb4.mono hbw.size)
      have hb5 := bel_alloc w4 (.cells #[.bool false, .int .u64 0, .int .i64 0, .bool false, .bool false] 49)
      have hbw5 := hbw4.trans (hb5.mono hbw4.size)
      clear hG hb4 p4
      go_wp2
      all_goals refine bodyPost_ret (v := .tuple #[.int .i64 0, .bool false, .int .i64 12]) (by simp [results, Tryd.results23, go_sem]) rfl ⟨rfl, hbw5⟩
set_option maxRecDepth 100000 in
set_option maxHeartbeats 1000000 in
theorem quot_no (way : Int) (hw : 0 ≤ way ∧ way ≤ 3) (a b : NumR) (w : World) (ra : Row w a.ao a.n a.cap a.d) (rb : Row w b.ao b.n b.cap b.d) (oa : okR a = true) (ob : okR b = true) (hb0 : b.n = 0) (Ev : Env w) (hT : Tab w) :
    Calls Tryd.prog 20 #[a.v, b.v, .int .i64 way] w fun e w' => e = .returned (.tuple #[.int .i64 0, .bool false, .int .i64 12]) ∧ Below w.heap.size w w' := by
  have hEF : ∀ (cap : Array Value) (w : World), (callFunc 24 cap).run Tryd.prog w = .ok (.enter 24 cap) w := by
    intro cap w
    simp [go_sem]
  have hEG : ∀ (cap : Array Value) (w : World), (callFunc 39 cap).run Tryd.prog w = .ok (.enter 39 cap) w := by
    intro cap w
    simp [go_sem]
  have hmf : ∀ (fn : Fn) (first cap : Array Value) (w : World), (Instr.makeFunc fn first cap).run Tryd.prog w = .ok (.func fn first cap) w := fun _ _ _ _ => rfl
  have CR := fun W (hb : Below w.heap.size w W) (g : Nat) (hg : W.heap[g]? = some (.cells #[.bool a.ng, .slice a.ao a.n a.cap, .int .i64 a.e, .bool b.ng, .slice b.ao b.n b.cap, .int .i64 b.e] 24 (0, 0))) => rounded_no way hw 24 39 (some ⟨g, 0, none⟩) 2 2 (pair2 a b) W (nums2 hg (ra.keeps hb) (rb.keeps hb))
    (fun i hi => by
      have hi2 : i = 0 ∨ i = 1 := by omega
      rcases hi2 with rfl | rfl
      · exact oa
      · exact ob) hEG
    (fun W2 hb2 => quotient_no g a b W2 ((hb2.block _ (Array.getElem?_eq_some_iff.1 hg).1).trans hg) hb0)
  clear oa ob ra rb hb0
  unfold NumR.v
  obtain ⟨a_g, a_o, a_n, a_c, a_d, a_e⟩ := a
  obtain ⟨b_g, b_o, b_n, b_c, b_d, b_e⟩ := b
  simp only at *
  go_enter Tryd.func20, Tryd.ntmps20
  go_wp2_with fail
  refine (CR _ ?_ _ ?_).mono ?_
  rotate_left
  rotate_left
  · rintro _ w2 ⟨rfl, hb3⟩
    go_wp2
    all_goals refine bodyPost_ret (v := .tuple #[.int .i64 0, .bool false, .int .i64 12]) (by simp [results, Tryd.results20, go_sem]) rfl ⟨rfl, bel_trans (bel_a3 _ _ _ _) hb3⟩
  · exact bel_a3 _ _ _ _
  · exact h3_2 _ _ _ _
end Go.Proofs.YtgplnodgndbdeaaDoor

/-
  What RoundQuots asks of the calls: Quot on numbers told by their worth.
-/
namespace Go.Proofs.YtgplnodgndbdeaaDoor
open Go Go.RowKit Go.Proofs.YtgplnodgndbdeaaDoor.M
set_option linter.unusedSimpArgs false
set_option linter.unusedVariables false

theorem pw_nil : pw 0 = 2 ^ 4194304 := by
  unfold pw
  rw [show ((0 : Int) + 4194304).toNat = 4194304 by omega]
theorem okR_abs {g : Bool} {o : Option Addr} {n c : Nat} {d : Nat → Int} {e : Int} (h : okR ⟨g, o, n, c, d, e⟩ = true) : okR ⟨false, o, n, c, d, e⟩ = true := by
  refine decide_eq_true ?_
  rcases of_decide_eq_true h with ⟨h1, h2, h3⟩ | h1
  · exact .inl ⟨h1, rfl, h3⟩
  · exact .inr h1
theorem Bd.sg {B : Nat} {V : Int} (g : Bool) (h : Bd B V) : Bd B (M.sg g V) := by
  cases g
  · exact h
  · exact h.neg
theorem sg_sg (g : Bool) (m q : Int) : sg g (sg g m * q) = sg false m * q := by
  cases g
  · rfl
  · show -(-m * q) = m * q
    rw [Int.neg_mul, Int.neg_neg]
theorem sg_scale (g : Bool) (m p q : Int) : sg g (m * (p * q)) = sg g m * p * q := by
  rw [sg_prod, sg_prod, Int.mul_assoc]
/-- Quot by Down, at a divisor whose sign is taken off. -/
theorem quo_D {w : World} {ag bg : Bool} {ao bo : Option Addr} {an ac bn bc : Nat} {ae be a_V b_V : Int} (ha : DNum w (.agg #[.bool ag, .slice ao an ac, .int .i64 ae]) a_V) (hb : DNum w (.agg #[.bool bg, .slice bo bn bc, .int .i64 be]) b_V) (okA : Dok a_V) (okB : Dok b_V) (H : Hold4 w) :
    DNum w (.agg #[.bool false, .slice bo bn bc, .int .i64 be]) (sg bg b_V) ∧
    (bn = 0 → ∀ W, Below w.heap.size w W → Calls Tryd.prog 20 #[.agg #[.bool ag, .slice ao an ac, .int .i64 ae], .agg #[.bool false, .slice bo bn bc, .int .i64 be], .int .i64 0] W fun e w' => e = .returned (.tuple #[.int .i64 0, .bool false, .int .i64 12]) ∧ Below W.heap.size W w') ∧
    (0 < bn → ∃ d o, Quo (a_V * 2 ^ 4194304) (sg bg b_V) d o ∧ ∀ W, Below w.heap.size w W → Calls Tryd.prog 20 #[.agg #[.bool ag, .slice ao an ac, .int .i64 ae], .agg #[.bool false, .slice bo bn bc, .int .i64 be], .int .i64 1] W fun e w' => e = .returned (.tuple #[.int .i64 d, .bool o, .int .i64 0]) ∧ Below W.heap.size W w') := by
  obtain ⟨da, ra, oa, rfl⟩ := ha.open2 okA
  obtain ⟨db, rb, ob, rfl⟩ := hb.open2 okB
  have ob' := okR_abs ob
  have hBe : sg bg (NumR.V ⟨bg, bo, bn, bc, db, be⟩) = (⟨false, bo, bn, bc, db, be⟩ : NumR).V := sg_sg bg _ _
  have hdy := okR_dy ob'
  have hN : DNum w (.agg #[.bool false, .slice bo bn bc, .int .i64 be]) (NumR.V ⟨false, bo, bn, bc, db, be⟩) := by
    obtain ⟨nb, _, _, _⟩ := okR_sane ob'
    exact ⟨false, .slice bo bn bc, _, be, rfl, hdy.1, bo, bn, bc, db, rfl, rb, nb, rfl⟩
  rw [hBe]
  refine ⟨hN, fun h0 W hW => ?_, fun h0 => ?_⟩
  · exact quot_no 0 (by decide) ⟨ag, ao, an, ac, da, ae⟩ ⟨false, bo, bn, bc, db, be⟩ W (ra.keeps hW) (rb.keeps hW) oa ob' h0 (H.env.keeps hW) (H.tab.keeps hW)
  · obtain ⟨r0, left, hR, hE⟩ := quot_rung (way := 1) (a := ⟨ag, ao, an, ac, da, ae⟩) (b := ⟨false, bo, bn, bc, db, be⟩) oa ob' h0 rfl
    obtain ⟨nb, _, _, _⟩ := okR_sane ob'
    obtain ⟨na, _, _, _⟩ := okR_sane oa
    have hS : 0 < val db bn * pw be := Int.mul_pos (val_pos nb h0) (pw_pos _)
    have hz : ag = true → 0 < val da an * (pw ae * pw 0) := fun hg => by
      have hn : 0 < an := by
        rcases of_decide_eq_true oa with ⟨_, h2, _⟩ | h1
        · simp only at h2; rw [h2] at hg; cases hg
        · exact h1.1
      exact Int.mul_pos (val_pos na hn) (Int.mul_pos (pw_pos _) (pw_pos _))
    have hQ := quo_of hS hR hz
    refine ⟨_, _, ?_, fun W hW => quot_ok 1 (by decide) ⟨ag, ao, an, ac, da, ae⟩ ⟨false, bo, bn, bc, db, be⟩ W (ra.keeps hW) (rb.keeps hW) oa ob' h0 (H.env.keeps hW) (H.tab.keeps hW)⟩
    have e1 : sg ag (val da an * (pw ae * pw 0)) = (⟨ag, ao, an, ac, da, ae⟩ : NumR).V * 2 ^ 4194304 := by
      rw [sg_scale, pw_nil]
      rfl
    have e2 : val db bn * pw be = (⟨false, bo, bn, bc, db, be⟩ : NumR).V := rfl
    rw [← e1, ← e2, hE]
    exact hQ
theorem ord_up {m a p U Z S : Int} (hZ : 0 < Z) (h : m * Z = p * S) (hU : U = a * Z) : ord m a = ord (p * S) U := by
  rw [hU, ← h, ord_scale hZ]
theorem ord_le0 {a b : Int} (h : a ≤ b) : ord a b ≤ 0 := by
  rcases Int.lt_or_eq_of_le h with q | q
  · rw [ord_lt q]; decide
  · rw [ord_eq q]; decide
theorem next_B {b : Int} {w : World} (hb : rng b) (H : Hold4 w) : Calls Tryd.prog 12 #[.int .i64 b] w fun e w' => e = .returned (.int .i64 (next b)) ∧ Below w.heap.size w w' := by
  refine (bitsNext b w H.env.lays hb).mono ?_
  rintro e w' ⟨h, g⟩
  exact ⟨h, g.be⟩
end Go.Proofs.YtgplnodgndbdeaaDoor
