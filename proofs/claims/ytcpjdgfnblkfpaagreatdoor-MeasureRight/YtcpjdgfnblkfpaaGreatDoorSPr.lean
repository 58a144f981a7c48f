/-
  Plain mathematics: the interval around a product of two ends, by the nearest float and what it lost. No Go text in sight.
-/
import Derived.Test.YtcpjdgfnblkfpaaGreatDoorSDir
import Derived.Test.YtcpjdgfnblkfpaaGreatDoorRFus3
import Derived.Test.YtcpjdgfnblkfpaaGreatDoorSSum4
namespace Go.Proofs.YtcpjdgfnblkfpaaGreatDoor
open Go Go.RowKit Go.Proofs.YtcpjdgfnblkfpaaGreatDoor.M
set_option linter.unusedSimpArgs false
set_option linter.unusedVariables false

/-- The ends of the least interval around a product of two ends (0 times an infinite one: 0). -/
def prLo (p q : Int) : Int := if rg p = 0 ∨ rg q = 0 then 0 else if rg p = 9218868437227405312 ∨ rg q = 9218868437227405312 then patS (xsg p q) 9218868437227405312 else rdP 1 (prV p q)
def prHi (p q : Int) : Int := if rg p = 0 ∨ rg q = 0 then 0 else if rg p = 9218868437227405312 ∨ rg q = 9218868437227405312 then patS (xsg p q) 9218868437227405312 else rdP 2 (prV p q)
theorem nn_rg {p : Int} (h : nn p) : 0 ≤ rg p ∧ rg p ≤ 9218868437227405312 := by
  have := (FW.pat h.2 h.1).of h.2
  exact this.2.2
theorem rg_pat0 {p : Int} (h : nn p) (hf : rg p ≠ 9218868437227405312) : pok p = true := (pok_rg h.1).2 (by have := nn_rg h; omega)
theorem patV_nz {p : Int} (h : rng p) (hp : pok p = true) (h0 : rg p ≠ 0) : patV p ≠ 0 := fun e => by
  have hv := patV_iV h hp
  have hi : iV p = 0 := by
    rcases Int.mul_eq_zero.1 (hv.symm.trans e) with q | q
    · exact q
    · have := pw_pos (-1074); omega
  have h5 := (rg_parts h).1
  unfold iV at hi
  have hV : (V Ieee.double (rg p).toNat : Int) = 0 := by
    cases hd : decide (p < 0) <;> rw [hd] at hi
    · exact hi
    · have : -(V Ieee.double (rg p).toNat : Int) = 0 := hi
      omega
  rcases Nat.eq_zero_or_pos (rg p).toNat with q | q
  · omega
  · have := V_lt Ieee.double q
    omega
theorem prV_nz {p q : Int} (rp : rng p) (rq : rng q) (hp : pok p = true) (hq : pok q = true) (p0 : rg p ≠ 0) (q0 : rg q ≠ 0) : prV p q ≠ 0 := fun e => by
  obtain ⟨_, _, _, _, hC⟩ := prV_parts rp rq hp hq
  rw [e, Int.zero_mul] at hC
  rcases Int.mul_eq_zero.1 hC.symm with h | h
  · exact patV_nz rp hp p0 h
  · exact patV_nz rq hq q0 h
theorem fprod_fin {p q : Int} (rp : rng p) (rq : rng q) (hp : pok p = true) (hq : pok q = true) (h : prV p q ≠ 0) : fprod p q = nearP (prV p q) := by
  have h1 := (pok_rg rp).1 hp
  have h2 := (pok_rg rq).1 hq
  have hz : fsize p q ≠ 0 := fun e => h (by unfold prV; rw [e]; cases xsg p q <;> rfl)
  have n4 : ¬ (cls p = 4 ∨ cls q = 4) := fun k => by rcases k with k | k; exact pok_clsF rp hp k; exact pok_clsF rq hq k
  have i2 : ¬ (rg p = 9218868437227405312 ∨ rg q = 9218868437227405312) := by omega
  unfold fprod
  rw [if_neg n4, if_neg i2, if_neg hz]
  rfl
theorem less_key {l : Int} (h : cls l ≠ 4) : (less l 0 = true ↔ key l < 0) ∧ (less 0 l = true ↔ 0 < key l) := by
  have c0 : ¬ cls 0 = 4 := by decide
  have k0 : key 0 = 0 := by decide
  unfold less
  rw [k0]
  simp [h, c0]
/-- The product of finite ends other than 0, not deep. -/
theorem pr_fin {p q : Int} (rp : rng p) (rq : rng q) (hp : pok p = true) (hq : pok q = true) (p0 : rg p ≠ 0) (q0 : rg q ≠ 0) (hd : 283726776524341248 ≤ rg (fprod p q)) :
    beLo (fprod p q) (ffma p q (neg (fprod p q))) = rdP 1 (prV p q) ∧ beHi (fprod p q) (ffma p q (neg (fprod p q))) = rdP 2 (prV p q) := by
  have hV := prV_nz rp rq hp hq p0 q0
  have hN := fprod_fin rp rq hp hq hV
  rw [hN] at hd ⊢
  obtain ⟨rn, cn⟩ := nearP_pat hV
  cases hf : pok (nearP (prV p q))
  · have hi := dir_inf hV hf
    have hm : ∀ r, rng r → rg r = 9218868437227405312 → cls r ≠ 4 → ffma p q r = r := fun r hr h1 h4 => by
      have h5 := (pok_rg rp).1 hp
      have h6 := (pok_rg rq).1 hq
      have n4 : ¬ (cls p = 4 ∨ cls q = 4 ∨ cls r = 4) := fun k => by rcases k with k | k | k; exact pok_clsF rp hp k; exact pok_clsF rq hq k; exact h4 k
      have i2 : ¬ (rg p = 9218868437227405312 ∨ rg q = 9218868437227405312) := by omega
      unfold ffma
      rw [if_neg n4, if_neg i2, if_pos h1]
    rcases Int.lt_or_gt_of_ne hV with hn | hn
    · obtain ⟨e0, e1, e2⟩ := hi.2 hn
      rw [e0, e1, e2, show neg (-4503599627370496) = 9218868437227405312 by decide, hm _ (by unfold rng; omega) (by decide) (by decide)]
      exact ⟨by decide, by decide⟩
    · obtain ⟨e0, e1, e2⟩ := hi.1 hn
      rw [e0, e1, e2, show neg 9218868437227405312 = -4503599627370496 by decide, hm _ (by unfold rng; omega) (by decide) (by decide)]
      exact ⟨by decide, by decide⟩
  · obtain ⟨d1, d2, d3⟩ := dir_fin hV hf
    have e0 := rdP_near hV
    have hr := (pok_rg rn).1 hf
    obtain ⟨S, hS, hF, hb⟩ := fused_any (way := 0) rp rq hp hq hV (by rw [e0]; exact hd) (.inr ⟨rfl, by rw [e0]; exact hr⟩)
    rw [e0] at hS
    generalize nearP (prV p q) = n at *
    obtain ⟨rm, pm, im⟩ := neg_facts rn hf
    have hfS : fmaS p q (neg n) = prV p q - patV n := by
      rw [fmaS_pr, patV_opp rn hf]
      omega
    by_cases h0 : prV p q - patV n = 0
    · have hl : ffma p q (neg n) = patS (xsg p q && decide (neg n < 0)) 0 := fma_zero rp rq rm hp hq pm (hfS.trans h0)
      have h1 : less (ffma p q (neg n)) 0 = false := by rw [hl]; cases (xsg p q && decide (neg n < 0)) <;> decide
      have h2 : less 0 (ffma p q (neg n)) = false := by rw [hl]; cases (xsg p q && decide (neg n < 0)) <;> decide
      unfold beLo beHi
      rw [h1, h2]
      have := d3 (by omega)
      exact ⟨this.1, this.2⟩
    · have hS0 : S ≠ 0 := fun e => h0 (by rw [hS, e, Int.zero_mul])
      obtain ⟨g1, g2, g3⟩ := near_exact hF hS0 hb
      have hl : ffma p q (neg n) = nearP (S * pw (-1074)) := by
        have h5 := (pok_rg rp).1 hp
        have h6 := (pok_rg rq).1 hq
        have h7 := (pok_rg rm).1 pm
        have n4 : ¬ (cls p = 4 ∨ cls q = 4 ∨ cls (neg n) = 4) := fun k => by rcases k with k | k | k; exact pok_clsF rp hp k; exact pok_clsF rq hq k; exact pok_clsF rm pm k
        have i2 : ¬ (rg p = 9218868437227405312 ∨ rg q = 9218868437227405312) := by omega
        have i3 : ¬ rg (neg n) = 9218868437227405312 := by omega
        unfold ffma
        rw [if_neg n4, if_neg i2, if_neg i3, hfS, if_neg h0, hS]
      rw [hl]
      generalize nearP (S * pw (-1074)) = l at *
      obtain ⟨k1, k2⟩ := iV_key g1
      rw [g3] at k1 k2
      obtain ⟨l1, l2⟩ := less_key (pok_clsF g1 g2)
      have hq2 := pw_pos (-1074)
      unfold beLo beHi
      rcases Int.lt_or_gt_of_ne hS0 with hn | hn
      · have hD : prV p q - patV n < 0 := by rw [hS]; exact Int.mul_neg_of_neg_of_pos hn hq2
        rw [l1.2 (k1.1 hn)]
        clear hS hq2
        have := d1 (by omega)
        exact ⟨this.1, this.2⟩
      · have hD : 0 < prV p q - patV n := by rw [hS]; exact Int.mul_pos hn hq2
        have hno : less l 0 = false := by
          cases h : less l 0
          · rfl
          · have := k1.2 (l1.1 h); omega
        rw [hno, l2.2 (k2.1 hn)]
        clear hS hq2
        have := d2 (by omega)
        exact ⟨this.1, this.2⟩
/-- An infinite end. -/
theorem pr_infE {p q : Int} (hp : nn p) (hq : nn q) (p0 : rg p ≠ 0) (q0 : rg q ≠ 0) (hi : rg p = 9218868437227405312 ∨ rg q = 9218868437227405312) :
    fprod p q = patS (xsg p q) 9218868437227405312 ∧ ffma p q (neg (fprod p q)) = 9221120237041090561 := by
  have n4 : ¬ (cls p = 4 ∨ cls q = 4) := fun k => by rcases k with k | k; exact hp.2 k; exact hq.2 k
  have i2 : ¬ (rg p = 0 ∨ rg q = 0) := by omega
  have e : fprod p q = patS (xsg p q) 9218868437227405312 := by
    unfold fprod
    rw [if_neg n4, if_pos hi, if_neg i2]
  refine ⟨e, ?_⟩
  rw [e]
  have hneg : neg (patS (xsg p q) 9218868437227405312) = patS (!xsg p q) 9218868437227405312 := by cases xsg p q <;> decide
  rw [hneg]
  have c4 : ¬ cls (patS (!xsg p q) 9218868437227405312) = 4 := by cases xsg p q <;> decide
  have r4 : rg (patS (!xsg p q) 9218868437227405312) = 9218868437227405312 := by cases xsg p q <;> decide
  have s4 : decide (patS (!xsg p q) 9218868437227405312 < 0) = !xsg p q := by cases xsg p q <;> decide
  have n5 : ¬ (cls p = 4 ∨ cls q = 4 ∨ cls (patS (!xsg p q) 9218868437227405312) = 4) := fun k => by rcases k with k | k | k; exact hp.2 k; exact hq.2 k; exact c4 k
  have n6 : rg (patS (!xsg p q) 9218868437227405312) = 9218868437227405312 ∧ ¬ xsg p q = decide (patS (!xsg p q) 9218868437227405312 < 0) := ⟨r4, by rw [s4]; cases xsg p q <;> decide⟩
  unfold ffma
  rw [if_neg n5, if_pos hi, if_neg i2, if_pos n6]
end Go.Proofs.YtcpjdgfnblkfpaaGreatDoor
