/-
  Plain mathematics: the least interval around a number, and what is told of it. No Go text in sight.
-/
import Derived.Test.YtcpjdgfnblkfpaaGreatDoorSPr
import Derived.Test.YtcpjdgfnblkfpaaGreatDoorDFl
import Derived.Test.YtcpjdgfnblkfpaaGreatDoorRBet3
import Derived.Test.YtcpjdgfnblkfpaaGreatDoorRNear
namespace Go.Proofs.YtcpjdgfnblkfpaaGreatDoor
open Go Go.RowKit Go.Proofs.YtcpjdgfnblkfpaaGreatDoor.M
set_option linter.unusedSimpArgs false
set_option linter.unusedVariables false

/-- The ends of the least interval around a number. -/
def cLo (V : Int) : Int := if V = 0 then 0 else canon (rdP 1 V)
def cHi (V : Int) : Int := if V = 0 then 0 else canon (rdP 2 V)
theorem canon_patS {g : Bool} {r : Int} (h0 : 0 ≤ r) (h1 : r ≤ 9218868437227405312) : canon (patS g r) = patS (g && decide (0 < r)) r := by
  obtain ⟨a, b, c⟩ := patS_parts (ng := g) h0 h1
  obtain ⟨d1, d2⟩ := cls_rg a
  rw [b] at d1 d2
  unfold canon
  have n4 : ¬ cls (patS g r) = 4 := fun q => by have := d1.1 q; omega
  rw [if_neg n4]
  by_cases hr : r = 0
  · rw [if_pos (d2.2 hr), hr]
    cases g <;> decide
  · rw [if_neg (fun q => hr (d2.1 q)), decide_eq_true (show 0 < r by omega), Bool.and_true]
/-- What the three ways tell of a number, by its rung. -/
theorem c_rung {V : Int} (h0 : V ≠ 0) : ∃ (g : Bool) (A : Int) (r0 : Nat) (left : Int), V = sg g A ∧ 0 < A ∧ Rung A r0 left ∧ cLo V = patS (g && decide (0 < rTo 1 g r0 left)) (rTo 1 g r0 left) ∧ cHi V = patS (g && decide (0 < rTo 2 g r0 left)) (rTo 2 g r0 left) := by
  obtain ⟨g, A, r0, left, e, hA, hR, _, e1, e2⟩ := dir_cases h0
  have r1 := rTo_range 1 g r0 left
  have r2 := rTo_range 2 g r0 left
  refine ⟨g, A, r0, left, e, hA, hR, ?_, ?_⟩
  · unfold cLo; rw [if_neg h0, e1, canon_patS r1.1 r1.2]
  · unfold cHi; rw [if_neg h0, e2, canon_patS r2.1 r2.2]
theorem around_c {V : Int} {ng : Bool} {f : Int → Int × Bool} (h : RdOf V ng f) : (f 1).1 = cLo V ∧ (f 2).1 = cHi V := by
  obtain ⟨A, r0, left, e, hng, hR, hf⟩ := h
  rw [hf 1, hf 2]
  by_cases h0 : V = 0
  · have hA : A = 0 := by
      rw [h0] at e
      cases ng
      · exact e.symm
      · have : (0 : Int) = -A := e
        omega
    have hn : ng = false := by
      cases ng
      · rfl
      · have := hng rfl; omega
    subst hn
    rw [hA] at hR
    obtain ⟨u1, u2⟩ := hR.unique rung_zero
    subst u1 u2
    unfold cLo cHi
    rw [if_pos h0, if_pos h0]
    have t1 := rTo_zero 1
    have t2 := rTo_zero 2
    refine ⟨?_, ?_⟩
    · simp only [t1]; rfl
    · simp only [t2]; rfl
  · obtain ⟨g, B, s0, l, e', hB, hR', c1, c2⟩ := c_rung h0
    have hA : 0 < A := by
      have hA0 : 0 ≤ A := by
        have := hR.lo
        have hv : 0 ≤ vS r0 := Int.mul_nonneg (by omega) (Int.le_of_lt (pw_pos _))
        omega
      have : A ≠ 0 := fun q => h0 (by rw [e, q]; cases ng <;> rfl)
      omega
    have s1 : decide (V < 0) = ng := by rw [e]; exact sg_lt hA
    have s2 : decide (V < 0) = g := by rw [e']; exact sg_lt hB
    have hg : ng = g := s1.symm.trans s2
    subst hg
    have hAB := sg_inj (e.symm.trans e')
    subst hAB
    obtain ⟨u1, u2⟩ := hR.unique hR'
    subst u1 u2
    exact ⟨c1.symm, c2.symm⟩
theorem prod_c {p q : Int} (rp : rng p) (rq : rng q) (hp : pok p = true) (hq : pok q = true) : canon (prLo p q) = cLo (prV p q) ∧ canon (prHi p q) = cHi (prV p q) := by
  have h1 := (pok_rg rp).1 hp
  have h2 := (pok_rg rq).1 hq
  have i2 : ¬ (rg p = 9218868437227405312 ∨ rg q = 9218868437227405312) := by omega
  by_cases h0 : rg p = 0 ∨ rg q = 0
  · have hz : prV p q = 0 := by
      obtain ⟨_, _, _, _, hC⟩ := prV_parts rp rq hp hq
      have : patV p * patV q = 0 := by
        rcases h0 with h | h
        · have : patV p = 0 := by rw [patV_iV rp hp]; unfold iV; rw [h]; cases decide (p < 0) <;> exact Int.zero_mul _
          rw [this, Int.zero_mul]
        · have : patV q = 0 := by rw [patV_iV rq hq]; unfold iV; rw [h]; cases decide (q < 0) <;> exact Int.zero_mul _
          rw [this, Int.mul_zero]
      rw [this] at hC
      rcases Int.mul_eq_zero.1 hC with k | k
      · exact k
      · exact absurd k (Int.ne_of_gt (two_pos 4194304))
    unfold prLo prHi cLo cHi
    rw [if_pos h0, if_pos h0, if_pos hz, if_pos hz]
    exact ⟨by decide, by decide⟩
  · have hz := prV_nz rp rq hp hq (fun k => h0 (.inl k)) (fun k => h0 (.inr k))
    unfold prLo prHi cLo cHi
    rw [if_neg h0, if_neg h0, if_neg i2, if_neg i2, if_neg hz, if_neg hz]
    exact ⟨rfl, rfl⟩
theorem iV_zero {p : Int} (h : iV p = 0) (hr : rng p) : rg p = 0 := by
  have h5 := (rg_parts hr).1
  unfold iV at h
  have hV : (V Ieee.double (rg p).toNat : Int) = 0 := by
    cases hd : decide (p < 0) <;> rw [hd] at h
    · exact h
    · have : -(V Ieee.double (rg p).toNat : Int) = 0 := h
      omega
  rcases Nat.eq_zero_or_pos (rg p).toNat with q | q
  · omega
  · have := V_lt Ieee.double q
    omega
theorem suN_near {p q : Int} (rp : rng p) (rq : rng q) (hp : pok p = true) (hq : pok q = true) : suN p q = if patV p + patV q = 0 then patS (decide (hiM p q < 0) && decide (loM p q < 0)) 0 else nearP (patV p + patV q) := by
  unfold suN hiM loM
  by_cases h : rg p < rg q
  · rw [if_pos h, if_pos h, fsum_eqn rq rp hq hp, Int.add_comm]
  · rw [if_neg h, if_neg h, fsum_eqn rp rq hp hq]
theorem sum_c {p q : Int} (rp : rng p) (rq : rng q) (hp : pok p = true) (hq : pok q = true) : nn (suN p q) ∧ canon (beLo (suN p q) (suL p q)) = cLo (patV p + patV q) ∧ canon (beHi (suN p q) (suL p q)) = cHi (patV p + patV q) := by
  have hN := suN_near rp rq hp hq
  have hVi : patV p + patV q = (iV p + iV q) * pw (-1074) := by rw [patV_iV rp hp, patV_iV rq hq, Int.add_mul]
  have hq0 := pw_pos (-1074)
  by_cases h0 : patV p + patV q = 0
  · rw [if_pos h0] at hN
    have hnn : nn (suN p q) := by rw [hN]; exact patS_nn (by decide) (by decide)
    have hz : iV p + iV q = 0 := by
      rcases Int.mul_eq_zero.1 (hVi.symm.trans h0) with k | k
      · exact k
      · omega
    have hpok : pok (suN p q) = true := by rw [hN]; cases (decide (hiM p q < 0) && decide (loM p q < 0)) <;> decide
    have hi0 : iV (suN p q) = 0 := by rw [hN]; cases (decide (hiM p q < 0) && decide (loM p q < 0)) <;> decide
    obtain ⟨_, _, hc⟩ := su_btw rp rq hp hq hpok hnn
    rw [hi0, hz] at hc
    refine ⟨hnn, ?_⟩
    rcases hc with ⟨_, b1, b2⟩ | ⟨k, _⟩ | ⟨k, _⟩
    · rw [b1, b2]
      unfold cLo cHi
      rw [if_pos h0, if_pos h0, hN]
      exact ⟨by cases (decide (hiM p q < 0) && decide (loM p q < 0)) <;> decide, by cases (decide (hiM p q < 0) && decide (loM p q < 0)) <;> decide⟩
    · omega
    · omega
  · rw [if_neg h0] at hN
    obtain ⟨g1, g2⟩ := nearP_pat h0
    have hnn : nn (suN p q) := by rw [hN]; exact ⟨g1, g2⟩
    refine ⟨hnn, ?_⟩
    unfold cLo cHi
    rw [if_neg h0, if_neg h0]
    cases hf : pok (nearP (patV p + patV q))
    · have hi := dir_inf h0 hf
      have hr : rg (suN p q) = 9218868437227405312 := by
        rw [hN]
        have k1 := nn_rg (show nn (nearP (patV p + patV q)) from ⟨g1, g2⟩)
        rcases Int.lt_or_le (rg (nearP (patV p + patV q))) 9218868437227405312 with k | k
        · rw [(pok_rg g1).2 k] at hf; cases hf
        · omega
      have h1 := (pok_rg rp).1 hp
      have h2 := (pok_rg rq).1 hq
      obtain ⟨o1, o2⟩ := su_over ⟨rp, pok_clsF rp hp⟩ ⟨rq, pok_clsF rq hq⟩ (by omega) (by omega) hnn hr
      rcases Int.lt_or_gt_of_ne h0 with k | k
      · obtain ⟨e0, e1, e2⟩ := hi.2 k
        obtain ⟨b1, b2⟩ := o2 (by rw [hN, e0]; decide)
        rw [b1, b2, hN, e0, e1, e2]
        exact ⟨by decide, by decide⟩
      · obtain ⟨e0, e1, e2⟩ := hi.1 k
        obtain ⟨b1, b2⟩ := o1 (by rw [hN, e0]; decide)
        rw [b1, b2, hN, e0, e1, e2]
        exact ⟨by decide, by decide⟩
    · obtain ⟨d1, d2, d3⟩ := dir_fin h0 hf
      rw [← hN] at d1 d2 d3 hf
      obtain ⟨_, _, hc⟩ := su_btw rp rq hp hq hf hnn
      have hvn := patV_iV hnn.1 hf
      rw [hvn, hVi] at d1 d2 d3
      rw [hVi]
      generalize pw (-1074) = w at *
      rcases hc with ⟨k, b1, b2⟩ | ⟨k, b1, b2⟩ | ⟨k, b1, b2⟩
      · rw [b1, b2]
        obtain ⟨f1, f2⟩ := d3 (by rw [k])
        rw [← f1, ← f2]
        exact ⟨rfl, rfl⟩
      · rw [b1, b2]
        obtain ⟨f1, f2⟩ := d1 (Int.mul_lt_mul_of_pos_right k hq0)
        rw [← f1, ← f2]
        exact ⟨rfl, rfl⟩
      · rw [b1, b2]
        obtain ⟨f1, f2⟩ := d2 (Int.mul_lt_mul_of_pos_right k hq0)
        rw [← f1, ← f2]
        exact ⟨rfl, rfl⟩
end Go.Proofs.YtcpjdgfnblkfpaaGreatDoor
