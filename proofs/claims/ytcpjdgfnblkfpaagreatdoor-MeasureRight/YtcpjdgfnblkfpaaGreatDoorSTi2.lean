/-
  Plain mathematics: what dyadic.Float tells of a number, held against the least interval around it. No Go text in sight.
-/
import Derived.Test.YtcpjdgfnblkfpaaGreatDoorSTi
import Derived.Test.YtcpjdgfnblkfpaaGreatDoorRRt3
namespace Go.Proofs.YtcpjdgfnblkfpaaGreatDoor
open Go Go.RowKit Go.Proofs.YtcpjdgfnblkfpaaGreatDoor.M
set_option linter.unusedSimpArgs false
set_option linter.unusedVariables false

/-- Does dyadic.Float tell a float? -/
def flOk (m e : Int) : Bool := decide (blen m ≤ 63) && jk 52 2047 (-1074) m e
theorem rung_at (r : Nat) : Rung (vS r) r 0 := by
  have h := vS_lt (show r < r + 1 by omega)
  refine ⟨Int.le_refl _, h, ⟨fun _ => rfl, fun _ => rfl⟩, ⟨fun q => by omega, fun q => by omega⟩, ⟨fun q => by omega, fun q => by omega⟩, ⟨fun q => by omega, fun q => by omega⟩⟩
theorem rTo_at (way : Int) (g : Bool) {r : Nat} (h : (r : Int) < 9218868437227405312) : rTo way g r 0 = (r : Int) := by
  rw [rTo_low way h, (rUp_dn (decide (r % 2 = 1)) 0).2.2.2.2 way g rfl]
  simp
/-- A float's value: both ends are the float. -/
theorem c_at {g : Bool} {r : Nat} (h : (r : Int) < 9218868437227405312) (h0 : 0 < r) : cLo (sg g (vS r)) = patS g (r : Int) ∧ cHi (sg g (vS r)) = patS g (r : Int) := by
  have hp : 0 < vS r := by
    have := vS_lt h0
    have hz : vS 0 = 0 := by unfold vS; rw [V_zero]; exact Int.zero_mul _
    omega
  have hn : sg g (vS r) ≠ 0 := fun q => by
    generalize vS r = y at *
    cases g
    · rw [sgFF] at q; omega
    · rw [sgTT] at q; omega
  obtain ⟨g', A, r0, left, e, hA, hR, c1, c2⟩ := c_rung hn
  have s1 : decide (sg g (vS r) < 0) = g := sg_lt hp
  have s2 : decide (sg g (vS r) < 0) = g' := by rw [e]; exact sg_lt hA
  have hg : g = g' := s1.symm.trans s2
  subst hg
  have hAB := sg_inj e
  rw [← hAB] at hR
  obtain ⟨u1, u2⟩ := hR.unique (rung_at r)
  subst u1 u2
  rw [c1, c2, rTo_at 1 g h, rTo_at 2 g h, decide_eq_true (show (0 : Int) < (r0 : Int) by omega), Bool.and_true]
  exact ⟨rfl, rfl⟩
/-- Where Float tells a float, it is both ends. -/
theorem tight_yes {V : Int} {ng : Bool} {m e : Int} (hy : Dy V ng m e) (h : flOk m e = true) : cLo V = canon (jp ng m e) ∧ cHi V = cLo V := by
  unfold flOk at h
  simp only [Bool.and_eq_true, decide_eq_true_eq] at h
  obtain ⟨h63, hk⟩ := h
  rcases hy.form with ⟨f1, f2, f3⟩ | ⟨f1, f2⟩
  · have hV := hy.eq_zero.2 f1
    subst f1 f2 f3
    rw [hV]
    unfold cLo cHi
    rw [if_pos rfl, if_pos rfl]
    exact ⟨by decide, rfl⟩
  · have hm63 : m < 9223372036854775808 := by
      have h1 := blen_lt m
      have h2 : (2 : Int) ^ blen m ≤ 2 ^ 63 := two_le h63
      rw [show (2 : Int) ^ 63 = 9223372036854775808 by decide] at h2
      omega
    have he : -1074 ≤ e := by
      rcases Int.lt_or_le e (-1074) with q | q
      · rw [j_low f1 hm63 f2 q] at hk; cases hk
      · exact q
    have hg : jgood 52 2047 (-1074) m e = true := by
      unfold jk at hk
      rw [if_neg (by omega), if_neg (by omega)] at hk
      exact hk
    have hj := V_join Ieee.double 52 dB 2047 (-1074) m e f1 hm63 hg he
    have hl := jv_le (mag := m) (exp := e) (by unfold rng; omega)
    have hj' : M.V Ieee.double (jv 52 2047 (-1074) m e).toNat = m.toNat * 2 ^ (e - -1074).toNat := hj
    obtain ⟨r, hr⟩ : ∃ r : Nat, (jv 52 2047 (-1074) m e).toNat = r := ⟨_, rfl⟩
    have hv : jv 52 2047 (-1074) m e = (r : Int) := by omega
    rw [hr] at hj'
    have hr1 : (r : Int) < 9218868437227405312 := by omega
    have hj2 : jp ng m e = patS ng (r : Int) := by
      unfold jp patS
      rw [hk, hv]
      cases ng <;> rfl
    have hV : V = sg ng (vS r) := by
      have ep := pw_add (e := -1074) (by omega) (e - -1074).toNat
      rw [show (-1074 : Int) + ((e - -1074).toNat : Int) = e by omega] at ep
      rw [hy.val, ep]
      unfold vS
      rw [hj']
      push_cast
      rw [show ((m.toNat : Nat) : Int) = m by omega]
      generalize pw (-1074) = z
      generalize (2 : Int) ^ (e - -1074).toNat = y
      cases ng
      · show m * (z * y) = m * y * z
        grind
      · show -m * (z * y) = -(m * y * z)
        grind
    have h0 : 0 < r := by
      rcases Nat.eq_zero_or_pos r with q | q
      · rw [q, V_zero] at hj'
        have h2 := Nat.two_pow_pos (e - -1074).toNat
        have h3 : 0 < m.toNat * 2 ^ (e - -1074).toNat := Nat.mul_pos (by omega) h2
        omega
      · exact q
    obtain ⟨c1, c2⟩ := c_at (g := ng) hr1 h0
    rw [hV, c1, c2, hj2, canon_patS (by omega) (by omega), decide_eq_true (show (0 : Int) < (r : Int) by omega), Bool.and_true]
    exact ⟨rfl, rfl⟩
/-- Where it tells none, the ends are neighbours. -/
theorem tight_no {V : Int} {ng : Bool} {m e : Int} (hy : Dy V ng m e) (h : flOk m e = false) : canon (next (cLo V)) = cHi V := by
  have h0 : V ≠ 0 := fun q => by
    rw [q] at hy
    obtain ⟨e1, e2, e3⟩ := hy.unique Dy.zero
    subst e1 e2 e3
    revert h
    decide
  obtain ⟨g, A, r0, left, eV, hA, hR, c1, c2⟩ := c_rung h0
  rw [c1, c2]
  by_cases hr0 : (r0 : Int) < 9218868437227405312
  · have hl : left ≠ 0 := fun q => by
      have ha := hR.l0.1 q
      have hp := patS_parts (ng := g) (r := (r0 : Int)) (by omega) (by omega)
      have hpk : pok (patS g (r0 : Int)) = true := by rw [patS_fin (by omega) (by omega)]; exact decide_eq_true hr0
      have hv : patV (patS g (r0 : Int)) = V := by
        rw [eV, ha]
        cases g
        · exact patV_patS hr0 (fun q => by cases q)
        · exact patV_neg hr0
      rw [← hv] at hy
      obtain ⟨f1, _, _, _, f5, _⟩ := float_form hp.1 hpk hy
      unfold flOk at h
      rw [decide_eq_true f1, f5] at h
      cases h
    obtain ⟨u1, u2, u3, u4, _⟩ := rUp_dn (decide (r0 % 2 = 1)) left
    rw [rTo_low 1 hr0, rTo_low 2 hr0]
    cases g
    · rw [u1, u4 hl]
      simp only [Bool.false_eq_true, if_false, if_true, Int.add_zero, Bool.false_and]
      rw [nextS_pos (by omega) hr0, canon_patS (by omega) (by omega), Bool.false_and]
    · rw [u2 hl, u3]
      simp only [Bool.false_eq_true, if_false, if_true, Int.add_zero, Bool.true_and]
      rw [decide_eq_true (show (0 : Int) < (r0 : Int) + 1 by omega), nextS_neg (by omega) hr0, canon_patS (by omega) (by omega), Bool.true_and]
  · have b1 : rTo 1 g r0 left = if g then 9218868437227405312 else 9218868437227405311 := by
      unfold rTo bRung
      rw [if_neg hr0]
      cases g <;> decide
    have b2 : rTo 2 g r0 left = if g then 9218868437227405311 else 9218868437227405312 := by
      unfold rTo bRung
      rw [if_neg hr0]
      cases g <;> decide
    rw [b1, b2]
    cases g <;> decide
end Go.Proofs.YtcpjdgfnblkfpaaGreatDoor
