/-
  The mathematics of EftPremise: TwoProd where floats are not too great; what is rounded once is the same float.
-/
import Derived.Test.YtcpjdgfnblkfpaaGreatDoorEPrem
import Derived.Test.YtcpjdgfnblkfpaaGreatDoorRNear
namespace Go.Proofs.YtcpjdgfnblkfpaaGreatDoor
open Go Go.RowKit Go.Proofs.YtcpjdgfnblkfpaaGreatDoor.M Ieee
set_option linter.unusedSimpArgs false
set_option linter.unusedVariables false

theorem pf_1 {T a b c d M : Int} (e : T = a + b + c + d) (hM : 11 * (T.natAbs : Int) ≤ 10 * M) (hb : 33554432 * (b.natAbs : Int) ≤ T.natAbs) (hc : 33554432 * (c.natAbs : Int) ≤ T.natAbs) (hd : 33554432 * (d.natAbs : Int) ≤ T.natAbs) : (a.natAbs : Int) ≤ M ∧ 1000 * ((T - a).natAbs : Int) ≤ T.natAbs ∧ 1000 * (a.natAbs : Int) ≤ 1001 * T.natAbs := by omega
theorem pf_2 {T a H x M : Int} (hM : 11 * (T.natAbs : Int) ≤ 10 * M) (g : 1000 * ((T - a).natAbs : Int) ≤ T.natAbs) (g2 : 1000 * (a.natAbs : Int) ≤ 1001 * T.natAbs) (r1 : 1000 * (H - T).natAbs ≤ T.natAbs) (r2 : 1000 * (x - a).natAbs ≤ a.natAbs) : ((H - x).natAbs : Int) ≤ M ∧ 300 * ((H - x).natAbs : Int) ≤ T.natAbs := by omega
theorem pf_3 {T t S x M : Int} {k : Int} (hM : 11 * (T.natAbs : Int) ≤ 10 * M) (g : 200 * (S.natAbs : Int) ≤ T.natAbs) (r1 : 1000 * (t - S).natAbs ≤ S.natAbs) : 199 * (t.natAbs : Int) ≤ T.natAbs := by omega
theorem pf_4 {T b x M : Int} (hM : 11 * (T.natAbs : Int) ≤ 10 * M) (hb : 33554432 * (b.natAbs : Int) ≤ T.natAbs) (r : 1000 * (x - b).natAbs ≤ b.natAbs) : (b.natAbs : Int) ≤ M ∧ 30000 * (x.natAbs : Int) ≤ T.natAbs := by omega
theorem pf_4a {T b M : Int} (hM : 11 * (T.natAbs : Int) ≤ 10 * M) (hb : 33554432 * (b.natAbs : Int) ≤ T.natAbs) : (b.natAbs : Int) ≤ M := by omega
theorem pf_5 {T t S x M : Int} (hM : 11 * (T.natAbs : Int) ≤ 10 * M) (g : 300 * (S.natAbs : Int) ≤ T.natAbs) (r1 : 1000 * (t - S).natAbs ≤ S.natAbs) (hx : 30000 * (x.natAbs : Int) ≤ T.natAbs) : ((t - x).natAbs : Int) ≤ M ∧ 290 * ((t - x).natAbs : Int) ≤ T.natAbs := by omega
theorem pf_6 {T t S x M : Int} (hM : 11 * (T.natAbs : Int) ≤ 10 * M) (g : 290 * (S.natAbs : Int) ≤ T.natAbs) (r1 : 1000 * (t - S).natAbs ≤ S.natAbs) (hx : 30000 * (x.natAbs : Int) ≤ T.natAbs) : ((t - x).natAbs : Int) ≤ M ∧ 280 * ((t - x).natAbs : Int) ≤ T.natAbs := by omega
theorem pf_7 {T t S x M : Int} (hM : 11 * (T.natAbs : Int) ≤ 10 * M) (g : 280 * (S.natAbs : Int) ≤ T.natAbs) (r1 : 1000 * (t - S).natAbs ≤ S.natAbs) (hx : 30000 * (x.natAbs : Int) ≤ T.natAbs) : ((x - t).natAbs : Int) ≤ M := by omega
theorem pf_sum {K T a b c d P Q R S x y : Int} (hK : 0 < K) (hx : x = P + Q) (hy : y = R + S) (hT : K * T = x * y) (e1 : K * a = P * R) (e2 : K * b = Q * R) (e3 : K * c = P * S) (e4 : K * d = Q * S) : T = a + b + c + d := by
  refine Int.eq_of_mul_eq_mul_left (Int.ne_of_gt hK) ?_
  rw [hT, Int.mul_add, Int.mul_add, Int.mul_add, e1, e2, e3, e4, hx, hy, Int.add_mul, Int.mul_add, Int.mul_add]
  exact dr0 _ _ _ _
theorem pf_two {a h l : Int} (H : Hlv a h l) : (h.natAbs : Int) ≤ 2 * (a.natAbs : Int) ∧ (l.natAbs : Int) ≤ 2 * (a.natAbs : Int) := by
  have := hlv_small H
  have := H.sum
  omega
theorem prod_fin {p q T : Int} (hp : M.rng p) (hq : M.rng q) (pQ : pok (spL p) = true) (pS : pok (spL q) = true) (ph : pok (fprod p q) = true) (hT : 2 ^ 1074 * T = iV p * iV q) (hM : 11 * (T.natAbs : Int) ≤ 10 * maxV) : pok (prL p q) = true := by
  obtain ⟨pp, pP, ha⟩ := spL_exact hp pQ
  obtain ⟨pq, pR, hb⟩ := spL_exact hq pS
  obtain ⟨rP, rQ⟩ := sp_rng hp
  obtain ⟨rR, rS⟩ := sp_rng hq
  have rT1 : M.rng (pT1 p q) := fsum_rng (fprod_rng hp hq) (neg_rng (fprod_rng rP rR))
  have rT2 : M.rng (pT2 p q) := fsum_rng rT1 (neg_rng (fprod_rng rQ rR))
  have rT3 : M.rng (pT3 p q) := fsum_rng rT2 (neg_rng (fprod_rng rP rS))
  have hd : (2 ^ 1074 : Int) ∣ iV p * iV q := ⟨T, hT.symm⟩
  obtain ⟨i, j, eij, di, dj⟩ := dvd_split 1074 _ _ hd
  have dP := ha.dvd i di
  have dR := hb.dvd j dj
  have dQ : (2 ^ i : Int) ∣ iV (spL p) := by have := ha.sum; rw [show iV (spL p) = iV p - iV (spH p) by omega]; exact Int.dvd_sub di dP
  have dS : (2 ^ j : Int) ∣ iV (spL q) := by have := hb.sum; rw [show iV (spL q) = iV q - iV (spH q) by omega]; exact Int.dvd_sub dj dR
  obtain ⟨Tpr, e1⟩ := dvd_prod eij dP dR
  obtain ⟨Tqr, e2⟩ := dvd_prod eij dQ dR
  obtain ⟨Tps, e3⟩ := dvd_prod eij dP dS
  obtain ⟨Tqs, e4⟩ := dvd_prod eij dQ dS
  have hK := p2 1074
  have es := pf_sum hK ha.sum.symm hb.sum.symm hT e1 e2 e3 e4
  have s1 := hlv_small ha
  have s2 := hlv_small hb
  have t1 := pf_two ha
  have t2 := pf_two hb
  have b2 := pr_ratio hK hT e2 (pr_m1 s1 t2.1)
  have b3 : 33554432 * (Tps.natAbs : Int) ≤ (T.natAbs : Int) := by
    refine pr_ratio hK hT e3 ?_
    rw [Int.mul_comm (iV (spH p)), Int.mul_comm (iV p)]
    exact pr_m1 s2 t1.1
  have b4 := pr_ratio hK hT e4 (pr_m1 s1 t2.2)
  have rH := nr_rel ((stp_prod hp hq pp pq hT).nr ph)
  obtain ⟨c1, c2, c3⟩ := pf_1 es hM b2 b3 b4
  have X1 := stp_prod rP rR pP pR e1
  have p1 := X1.fin c1
  have Y1 := stp_diff (fprod_rng hp hq) (fprod_rng rP rR) ph p1
  obtain ⟨d1, d2⟩ := pf_2 hM c2 c3 rH (nr_rel (X1.nr p1))
  have q1 := Y1.fin d1
  have X2 := stp_prod rQ rR pQ pR e2
  have p2 := X2.fin (pf_4a hM b2)
  have x2 := (pf_4 hM b2 (nr_rel (X2.nr p2))).2
  have Y2 := stp_diff rT1 (fprod_rng rQ rR) q1 p2
  obtain ⟨d3, d4⟩ := pf_5 hM d2 (nr_rel (Y1.nr q1)) x2
  have q2 := Y2.fin d3
  have X3 := stp_prod rP rS pP pS e3
  have p3 := X3.fin (pf_4a hM b3)
  have x3 := (pf_4 hM b3 (nr_rel (X3.nr p3))).2
  have Y3 := stp_diff rT2 (fprod_rng rP rS) q2 p3
  obtain ⟨d5, d6⟩ := pf_6 hM d4 (nr_rel (Y2.nr q2)) x3
  have q3 := Y3.fin d5
  have X4 := stp_prod rQ rS pQ pS e4
  have p4 := X4.fin (pf_4a hM b4)
  have x4 := (pf_4 hM b4 (nr_rel (X4.nr p4))).2
  exact (stp_diff (fprod_rng rQ rS) rT3 p4 q3).fin (pf_7 hM d6 (nr_rel (Y3.nr q3)) x4)
theorem key_patS {g : Bool} {r : Int} (h0 : 0 ≤ r) (h1 : r ≤ 9218868437227405312) : key (patS g r) = sg g r := by
  unfold key patS sg
  cases g
  · simp only [Bool.false_eq_true, if_false]
    rw [if_neg (by omega)]
  · simp only [if_true]
    rw [if_pos (by omega)]
    omega
theorem sg_pos2 (g : Bool) {r : Int} (h0 : 0 ≤ r) : sg (g && decide (0 < r)) r = sg g r := by
  by_cases c : 0 < r
  · rw [decide_eq_true c, Bool.and_true]
  · have : r = 0 := by omega
    rw [this, sg_zero, sg_zero]
theorem same_pat {g k : Bool} {r : Int} (h0 : 0 ≤ r) (h1 : r ≤ 9218868437227405312) (e : sg g r = sg k r) : same (patS g r) (patS k r) = true := by
  unfold same
  rw [decide_eq_false (patS_rng h0 h1).2, decide_eq_false (patS_rng h0 h1).2, key_patS h0 h1, key_patS h0 h1, decide_eq_true e]
  rfl
theorem k_sgn {ng : Bool} {A S : Int} (h0 : 0 ≤ A) (h1 : ng = true → 0 < A) (e : S = sg ng A) : ng = decide (S < 0) := by
  cases ng
  · have e : S = A := e
    exact (decide_eq_false (by omega)).symm
  · have := h1 rfl
    have e : S = -A := e
    exact (decide_eq_true (by omega)).symm
theorem k_sg0 {ng : Bool} {A : Int} (h1 : ng = true → 0 < A) (e : 0 = sg ng A) : A = 0 ∧ ng = false := by
  cases ng
  · exact ⟨e.symm, rfl⟩
  · have := h1 rfl
    have e : 0 = -A := e
    omega
/-- To the nearest once: the same float, a nought's sign aside. -/
theorem same_near {S h : Int} {g ng : Bool} {f : Int → Int × Bool} (hR : RdOf S ng f) (hh : (S = 0 ∧ h = patS g 0) ∨ (S ≠ 0 ∧ h = nearP S)) : same h (f 0).1 = true := by
  obtain ⟨A, r0, left, eS, hA, hu, hf⟩ := hR
  rw [hf 0]
  have hA0 : 0 ≤ A := Int.le_trans (vS_nonneg r0) hu.lo
  rcases hh with ⟨e0, eh⟩ | ⟨e0, eh⟩
  · rw [e0] at eS
    obtain ⟨z1, z2⟩ := k_sg0 hA eS
    subst z1 z2
    obtain ⟨y1, y2⟩ := hu.unique rung_zero
    subst y1 y2
    rw [eh, rTo_zero]
    cases g <;> decide
  · obtain ⟨A', r0', left', eA, hu', eN⟩ := nearP_rung e0
    have eg := k_sgn hA0 hA eS
    rw [← eg] at eA eN
    have : A = A' := sg_inj (eS.symm.trans eA)
    rw [← this] at hu'
    obtain ⟨y1, y2⟩ := hu.unique hu'
    subst y1 y2
    have hrr := rTo_range 0 ng r0 left
    rw [eh, eN]
    exact same_pat hrr.1 hrr.2 (sg_pos2 ng hrr.1).symm
end Go.Proofs.YtcpjdgfnblkfpaaGreatDoor
