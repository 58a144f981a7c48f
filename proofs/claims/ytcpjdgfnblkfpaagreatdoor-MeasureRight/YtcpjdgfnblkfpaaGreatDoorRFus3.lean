/-
  Plain mathematics: the end of the law on products that are fused. No Go text in sight.
-/
import Derived.Test.YtcpjdgfnblkfpaaGreatDoorRFus2
import Derived.Test.YtcpjdgfnblkfpaaGreatDoorEPat2
import Derived.Test.YtcpjdgfnblkfpaaGreatDoorDFl
namespace Go.Proofs.YtcpjdgfnblkfpaaGreatDoor
open Go Go.RowKit Go.Proofs.YtcpjdgfnblkfpaaGreatDoor.M
set_option linter.unusedSimpArgs false
set_option linter.unusedVariables false

theorem mul_normal {k a b : Int} (ra : rng a) (rb : rng b) (pa : pok a = true) (pb : pok b = true) (h : cls (mulP k a b) = 2) : prV a b ≠ 0 ∧ mulP k a b = rdP k (prV a b) := by
  have h1 := (pok_rg ra).1 pa
  have h2 := (pok_rg rb).1 pb
  have hf : prV a b = 0 → fprod (told a) (told b) = patS (xsg a b) 0 := fun h0 => by
    rw [told_pokF ra pa, told_pokF rb pb]
    have hz : fsize a b = 0 := by
      unfold prV at h0
      cases hx : xsg a b <;> rw [hx] at h0
      · exact h0
      · have : -fsize a b = 0 := h0
        omega
    unfold fprod
    have n4 : ¬ (cls a = 4 ∨ cls b = 4) := fun q => by rcases q with q | q; exact pok_clsF ra pa q; exact pok_clsF rb pb q
    have i2 : ¬ (rg a = 9218868437227405312 ∨ rg b = 9218868437227405312) := by omega
    rw [if_neg n4, if_neg i2, if_pos hz]
  have hn : prV a b ≠ 0 := fun h0 => by
    have e : mulP k a b = patS (xsg a b) 0 := by
      unfold mulP
      have h00 : ¬ prV a b ≠ 0 := fun q => q h0
      rw [hf h0, if_neg h00]
      split <;> rfl
    rw [e, cls_patS0] at h
    omega
  refine ⟨hn, ?_⟩
  unfold mulP
  rw [pa, pb, if_pos hn]
  by_cases hk : k = 0
  · rw [if_pos (.inl hk), hk, rdP_near hn, told_pokF ra pa, told_pokF rb pb]
    have hz : fsize a b ≠ 0 := fun e => hn (by unfold prV; rw [e]; cases xsg a b <;> rfl)
    unfold fprod
    have n4 : ¬ (cls a = 4 ∨ cls b = 4) := fun q => by rcases q with q | q; exact pok_clsF ra pa q; exact pok_clsF rb pb q
    have i2 : ¬ (rg a = 9218868437227405312 ∨ rg b = 9218868437227405312) := by omega
    rw [if_neg n4, if_neg i2, if_neg hz]
    rfl
  · rw [if_neg (fun q => by rcases q with q | q; exact hk q; cases q)]
theorem cls2_pok {p : Int} (h : cls p = 2) : pok p = true := by
  unfold cls at h
  unfold pok
  split at h
  · split at h <;> omega
  · rename_i hf; simp [hf]
theorem same_selfF {p : Int} (h : cls p ≠ 4) : same p p = true := by
  unfold same; simp [h]
theorem same_zero (g : Bool) : same (patS g 0) 0 = true := by cases g <;> decide
theorem abs_rgF {p : Int} (h : cls p ≠ 4) : abs p = rg p := by
  unfold abs rg
  rw [if_neg h]
theorem patV_opp {p : Int} (rp : rng p) (hp : pok p = true) : patV (neg p) = -patV p := by
  obtain ⟨n1, n2, n3⟩ := neg_facts rp hp
  rw [patV_iV n1 n2, patV_iV rp hp, n3, Int.neg_mul]
theorem fused_end {k a b : Int} (ra : rng a) (rb : rng b) (pa : pok a = true) (pb : pok b = true) (rp : rng (mulP k a b)) (hc : cls (mulP k a b) = 2) (lo : less (abs (mulP k a b)) 288230376151711744 = false) (hi : less 9209861237972664320 (abs (mulP k a b)) = false) :
    ∃ ng m e, Dy (prV a b - patV (mulP k a b)) ng m e ∧ blen m ≤ 63 ∧ jk 52 2047 (-1074) m e = true ∧ same (fmaP 0 a b (neg (mulP k a b))) (jp ng m e) = true ∧ rng (jp ng m e) ∧ rng (fmaP 0 a b (neg (mulP k a b))) := by
  obtain ⟨hn, he⟩ := mul_normal ra rb pa pb hc
  have hp := cls2_pok hc
  have h4 : cls (mulP k a b) ≠ 4 := by omega
  rw [abs_rgF h4] at lo hi
  have hr := (pok_rg rp).1 hp
  have hr0 := (rg_parts rp).1
  have c4 : cls (rg (mulP k a b)) ≠ 4 := pok_clsF (by unfold rng; omega) ((pok_rg (by unfold rng; omega)).2 (by unfold rg at *; split <;> omega))
  have lo' : 288230376151711744 ≤ rg (mulP k a b) := by
    unfold less at lo
    simp only [c4, show ¬ cls 288230376151711744 = 4 by decide, decide_false, Bool.not_false, Bool.true_and, decide_eq_false_iff_not] at lo
    unfold key at lo
    split at lo <;> split at lo <;> omega
  have hi' : rg (mulP k a b) ≤ 9209861237972664320 := by
    unfold less at hi
    simp only [c4, show ¬ cls 9209861237972664320 = 4 by decide, decide_false, Bool.not_false, Bool.true_and, decide_eq_false_iff_not] at hi
    unfold key at hi
    split at hi <;> split at hi <;> omega
  rw [he] at lo' hi'
  obtain ⟨S, hS, hF, hb⟩ := fused_fl ra rb pa pb hn lo' hi'
  rw [← he] at hS
  generalize mulP k a b = p at *
  have hV : fmaS a b (neg p) = prV a b - patV p := by
    rw [fmaS_pr, patV_opp rp hp]
    omega
  have rn := (neg_facts rp hp).1
  have pn := (neg_facts rp hp).2.1
  have hfm : fmaP 0 a b (neg p) = ffma a b (neg p) := by
    unfold fmaP
    rw [if_pos (.inl rfl), told_pokF ra pa, told_pokF rb pb, told_pokF rn pn]
  rw [hfm]
  by_cases h0 : prV a b - patV p = 0
  · rw [h0]
    rw [fma_zero ra rb rn pa pb pn (hV.trans h0)]
    refine ⟨false, 0, 0, Dy.zero, blen_le (by decide), by decide, ?_, ?_, (patS_parts (by decide) (by decide)).1⟩
    · rw [show jp false 0 0 = 0 by decide]; exact same_zero _
    · rw [show jp false 0 0 = 0 by decide]; unfold rng; omega
  · have hS0 : S ≠ 0 := fun e => h0 (by rw [hS, e, Int.zero_mul])
    obtain ⟨g1, g2, g3⟩ := near_exact hF hS0 hb
    have hl : ffma a b (neg p) = nearP (prV a b - patV p) := by
      have h1 := (pok_rg ra).1 pa
      have h2 := (pok_rg rb).1 pb
      have h3 := (pok_rg rn).1 pn
      unfold ffma
      have n4 : ¬ (cls a = 4 ∨ cls b = 4 ∨ cls (neg p) = 4) := fun q => by rcases q with q | q | q; exact pok_clsF ra pa q; exact pok_clsF rb pb q; exact pok_clsF rn pn q
      have i2 : ¬ (rg a = 9218868437227405312 ∨ rg b = 9218868437227405312) := by omega
      have i3 : ¬ rg (neg p) = 9218868437227405312 := by omega
      rw [if_neg n4, if_neg i2, if_neg i3, hV, if_neg h0]
    rw [hl]
    have hv : prV a b - patV p = patV (nearP (prV a b - patV p)) := by
      rw [hS, patV_iV g1 g2, g3]
    rw [← hS] at g1 g2
    generalize nearP (prV a b - patV p) = l at *
    rw [hv] at h0 ⊢
    obtain ⟨ng, m, e, hy, _⟩ := patV_dok g2
    obtain ⟨f1, f2, f3, f4, f5, f6, f7⟩ := float_form g1 g2 hy
    have hj : jp ng m e = l := by
      rcases f6 with f6 | ⟨_, _, f6⟩
      · exact f6
      · exact absurd (hy.eq_zero.2 f6) h0
    exact ⟨ng, m, e, hy, f1, f5, by rw [hj]; exact same_selfF (pok_clsF g1 g2), by rw [hj]; exact g1, g1⟩
end Go.Proofs.YtcpjdgfnblkfpaaGreatDoor
