/-
  The mathematics of EftPremise: where floats are not too great all steps are finite.
-/
import Derived.Test.YtcpjdgfnblkfpaaGreatDoorEHalf
namespace Go.Proofs.YtcpjdgfnblkfpaaGreatDoor
open Go Go.RowKit Go.Proofs.YtcpjdgfnblkfpaaGreatDoor.M Ieee
set_option linter.unusedSimpArgs false
set_option linter.unusedVariables false

theorem pr_1 {a b h M : Int} (h1 : ((a.natAbs : Int) + b.natAbs) ≤ M) : ((a + b).natAbs : Int) ≤ M := by omega
theorem pr_2 {a b h M : Int} (ha : 2 * (a.natAbs : Int) ≤ M) (hb : 2 * (b.natAbs : Int) ≤ M) (e1 : (h - (a + b)).natAbs ≤ (a - (a + b)).natAbs) : ((h - a).natAbs : Int) ≤ M := by omega
theorem pr_3 {a b h v M : Int} (ha : 2 * (a.natAbs : Int) ≤ M) (e2 : (h - (a + b)).natAbs ≤ (b - (a + b)).natAbs) (e3 : (v - (h - a)).natAbs ≤ (b - (h - a)).natAbs) : ((h - v).natAbs : Int) ≤ M := by omega
theorem pr_4 {a b h v u M : Int} (ha : 2 * (a.natAbs : Int) ≤ M) (e2 : (h - (a + b)).natAbs ≤ (b - (a + b)).natAbs) (e3 : (v - (h - a)).natAbs ≤ (b - (h - a)).natAbs) (e4 : (u - (h - v)).natAbs ≤ (a - (h - v)).natAbs) : ((a - u).natAbs : Int) ≤ M ∧ (a - u).natAbs ≤ 2 * (h - (a + b)).natAbs := by omega
theorem pr_5 {a b h v M : Int} (hb : 2 * (b.natAbs : Int) ≤ M) (e1 : (h - (a + b)).natAbs ≤ (a - (a + b)).natAbs) (e3 : (v - (h - a)).natAbs ≤ (b - (h - a)).natAbs) : ((b - v).natAbs : Int) ≤ M ∧ (b - v).natAbs ≤ 2 * (h - (a + b)).natAbs := by omega
theorem pr_6 {S h x y p q M : Int} (hM : (S.natAbs : Int) ≤ M) (r : 1000 * (h - S).natAbs ≤ S.natAbs) (g1 : x.natAbs ≤ 2 * (h - S).natAbs) (g2 : y.natAbs ≤ 2 * (h - S).natAbs) (n1 : (p - x).natAbs ≤ (0 - x).natAbs) (n2 : (q - y).natAbs ≤ (0 - y).natAbs) : ((p + q).natAbs : Int) ≤ M := by omega
theorem sum_fin {p q : Int} (hp : M.rng p) (hq : M.rng q) (pp : pok p = true) (pq : pok q = true) (h1 : 2 * ((iV p).natAbs : Int) ≤ maxV) (h2 : 2 * ((iV q).natAbs : Int) ≤ maxV) : pok (fsum p q) = true ∧ pok (sL p q) = true := by
  have rh := fsum_rng hp hq
  have rv : M.rng (sV p q) := fsum_rng rh (neg_rng hp)
  have rU := fsum_rng rh (neg_rng rv)
  have rX := fsum_rng hp (neg_rng rU)
  have rY := fsum_rng hq (neg_rng rv)
  have Sh := stp_sum hp hq pp pq
  have hM := pr_1 (h := 0) (a := iV p) (b := iV q) (M := maxV) (by omega)
  have ph := Sh.fin hM
  have nh := Sh.nr ph
  have e1 := nh.2 _ (fl_iV p)
  have e2 := nh.2 _ (fl_iV q)
  have Sv := stp_diff rh hp ph pp
  have pv := Sv.fin (pr_2 h1 h2 e1)
  have nv := Sv.nr pv
  have e3 := nv.2 _ (fl_iV q)
  have SU := stp_diff rh rv ph pv
  have pU := SU.fin (pr_3 h1 e2 e3)
  have e4 := (SU.nr pU).2 _ (fl_iV p)
  have SX := stp_diff hp rU pp pU
  obtain ⟨g1, g2⟩ := pr_4 h1 e2 e3 e4
  have pX := SX.fin g1
  have SY := stp_diff hq rv pq pv
  obtain ⟨g3, g4⟩ := pr_5 h2 e1 e3
  have pY := SY.fin g3
  exact ⟨ph, (stp_sum rX rY pX pY).fin (pr_6 hM (nr_rel nh) g2 g4 ((SX.nr pX).2 _ fl_zero) ((SY.nr pY).2 _ fl_zero))⟩
theorem fast_zero {p q : Int} (hp : M.rng p) (hq : M.rng q) (pp : pok p = true) (pq : pok q = true) (ph : pok (fsum p q) = true) (h0 : iV p = 0) : fX p q = true := by
  have rh := fsum_rng hp hq
  have rv : M.rng (fsum (fsum p q) (neg p)) := fsum_rng rh (neg_rng hp)
  have nh := (stp_sum hp hq pp pq).nr ph
  rw [h0, Int.zero_add] at nh
  have eh := nr_self (fl_iV q) nh
  have Sv := stp_diff rh hp ph pp
  rw [h0, eh, show iV q - 0 = iV q by omega] at Sv
  have pv := Sv.fin (iV_max hq pq)
  have ev := nr_self (fl_iV q) (Sv.nr pv)
  have Sl := stp_diff hq rv pq pv
  rw [ev, Int.sub_self] at Sl
  have pl := Sl.fin (by show (0 : Int) ≤ _; exact Int.natCast_nonneg _)
  have el := nr_self fl_zero (Sl.nr pl)
  rw [fX_iff hp hq pl]
  refine decide_eq_true ?_
  rw [eh, h0]
  show iV q + iV (fsum q (neg (fsum (fsum p q) (neg p)))) = _
  rw [el]
  omega
theorem fast_big {p q : Int} (hp : M.rng p) (hq : M.rng q) (pp : pok p = true) (pq : pok q = true) (ph : pok (fsum p q) = true) (h : ¬ rg p < rg q) : fX p q = true := by
  have g1 := (rg_lt hp pp).1
  have g2 := (rg_lt hq pq).1
  have hn : (iV q).natAbs ≤ (iV p).natAbs := by
    have e1 := iV_abs p
    have e2 := iV_abs q
    have := V_le (r := (rg q).toNat) (s := (rg p).toNat) (by omega)
    omega
  unfold fX
  rw [(fL_fin hp hq pp pq ph hn).1, decide_eq_false (by omega)]
  rfl
theorem k_1023 {K M B : Int} (hK : 0 < K) (hM : M = 9007199254740991 * (2 * K)) (hB : B = 9007199254740991 * K) : 2 * B ≤ M := by omega
theorem max_1023 {p : Int} (hp : M.rng p) (pp : pok p = true) (h : rg p < 9214364837600034816) : 2 * ((iV p).natAbs : Int) ≤ maxV := by
  obtain ⟨a, ha⟩ : ∃ a : Nat, a = 2044 := ⟨_, rfl⟩
  have e1 := V_top (a := a) (n := 9007199254740991) (by decide) (by decide)
  have e2 := V_top (a := a + 1) (n := 9007199254740991) (by decide) (by decide)
  rw [show a * 4503599627370496 + 9007199254740991 = 9214364837600034815 by omega] at e1
  rw [show (a + 1) * 4503599627370496 + 9007199254740991 = 9218868437227405311 by omega, p2s] at e2
  have h0 := (rg_lt hp pp).1
  have h1 : ((iV p).natAbs : Int) ≤ (V Ieee.double 9214364837600034815 : Int) := by
    rw [iV_abs]; exact V_le (by omega)
  have := k_1023 (M := maxV) (p2 a) e2 e1
  omega
/-- A half is little. -/
theorem hlv_small {a h l : Int} (H : Hlv a h l) : 67108864 * (l.natAbs : Int) ≤ (a.natAbs : Int) := by
  by_cases h0 : a = 0
  · have := H.zero h0
    have := H.sum
    omega
  · obtain ⟨x, j, s, g1, g2⟩ := H.spl h0
    have e : 2 ^ x * a - 2 ^ x * h = 2 ^ x * l := by rw [← Int.mul_sub]; congr 1; have := H.sum; omega
    have u4 := s.low
    rw [e, natAbs_p2] at u4
    rw [natAbs_p2] at g1
    have hx := p2 x
    have hj := p2 j
    have : (2 : Int) ^ x * (67108864 * (l.natAbs : Int)) ≤ 2 ^ x * (a.natAbs : Int) := by
      rw [show (2 : Int) ^ x * (67108864 * (l.natAbs : Int)) = 67108864 * (2 ^ x * (l.natAbs : Int)) by ac_rfl]
      omega
    exact Int.le_of_mul_le_mul_left this hx
theorem pr_abs {a b K : Int} (hK : 0 < K) {T A : Int} {c : Int} (hT : K * T = a * b) (h : c * ((a * b).natAbs : Int) ≤ A) (hA : A = K * (A / K) ) : c * (T.natAbs : Int) ≤ A / K := by
  rw [← hT, Int.natAbs_mul, Int.natCast_mul, show ((K.natAbs : Nat) : Int) = K by omega, hA, show c * (K * (T.natAbs : Int)) = K * (c * (T.natAbs : Int)) by ac_rfl] at h
  exact Int.le_of_mul_le_mul_left h hK
theorem pr_ratio {K T U a b x y c : Int} (hK : 0 < K) (hT : K * T = a * b) (hU : K * U = x * y) (h : c * ((x * y).natAbs : Int) ≤ ((a * b).natAbs : Int)) : c * (U.natAbs : Int) ≤ (T.natAbs : Int) := by
  rw [← hT, ← hU, Int.natAbs_mul, Int.natAbs_mul, Int.natCast_mul, Int.natCast_mul, show ((K.natAbs : Nat) : Int) = K by omega, show c * (K * (U.natAbs : Int)) = K * (c * (U.natAbs : Int)) by ac_rfl] at h
  exact Int.le_of_mul_le_mul_left h hK
theorem pr_m1 {q r a b : Int} (hq : 67108864 * (q.natAbs : Int) ≤ (a.natAbs : Int)) (hr : (r.natAbs : Int) ≤ 2 * (b.natAbs : Int)) : 33554432 * ((q * r).natAbs : Int) ≤ ((a * b).natAbs : Int) := by
  rw [Int.natAbs_mul, Int.natAbs_mul, Int.natCast_mul, Int.natCast_mul]
  have h1 := Int.mul_le_mul hq hr (by omega) (by omega)
  generalize (q.natAbs : Int) = Q at *
  generalize (r.natAbs : Int) = R at *
  generalize (a.natAbs : Int) = A at *
  generalize (b.natAbs : Int) = B at *
  rw [show 67108864 * Q * R = 67108864 * (Q * R) by ac_rfl, show A * (2 * B) = 2 * (A * B) by ac_rfl] at h1
  omega
end Go.Proofs.YtcpjdgfnblkfpaaGreatDoor
