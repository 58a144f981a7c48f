/-
  TwoSum, FastTwoSum, Split, TwoProd on patterns: where the second answer is finite nothing gets lost.
-/
import Derived.Test.YtcpjdgfnblkfpaaGreatDoorESteps
namespace Go.Proofs.YtcpjdgfnblkfpaaGreatDoor
open Go Go.RowKit Go.Proofs.YtcpjdgfnblkfpaaGreatDoor.M Ieee
set_option linter.unusedSimpArgs false
set_option linter.unusedVariables false

theorem fl_iV (p : Int) : Fl (iV p) := by
  unfold iV
  cases decide (p < 0)
  · exact fl_V _
  · exact (fl_V _).neg
theorem iV_abs (p : Int) : ((iV p).natAbs : Int) = (V Ieee.double (rg p).toNat : Int) := by
  unfold iV sg
  cases decide (p < 0)
  · simp
  · simp
theorem iV_max {p : Int} (hp : rng p) (h : pok p = true) : ((iV p).natAbs : Int) ≤ maxV := by
  rw [iV_abs]
  have := (pok_rg hp).1 h
  exact V_le (by omega)
theorem sL_exact {p q : Int} (hp : rng p) (hq : rng q) (h : pok (sL p q) = true) : (pok p = true ∧ pok q = true) ∧ pok (fsum p q) = true ∧ iV (fsum p q) + iV (sL p q) = iV p + iV q := by
  have rh := fsum_rng hp hq
  have rv : rng (sV p q) := fsum_rng rh (neg_rng hp)
  have rU := fsum_rng rh (neg_rng rv)
  have rX := fsum_rng hp (neg_rng rU)
  have rY := fsum_rng hq (neg_rng rv)
  obtain ⟨pX, pY⟩ := fsum_args rX rY h
  obtain ⟨pp, pU⟩ := fdiff_args hp rU pX
  obtain ⟨pq, pv⟩ := fdiff_args hq rv pY
  obtain ⟨ph, _⟩ := fdiff_args rh hp pv
  have e := two_sum (fl_iV p) (fl_iV q) ((stp_sum hp hq pp pq).nr ph) ((stp_diff rh hp ph pp).nr pv) ((stp_diff rh rv ph pv).nr pU) ((stp_diff hp rU pp pU).nr pX) ((stp_diff hq rv pq pv).nr pY) ((stp_sum rX rY pX pY).nr h)
  exact ⟨⟨pp, pq⟩, ph, by unfold sL; omega⟩
theorem fL_args {p q : Int} (hp : rng p) (hq : rng q) (h : pok (fL p q) = true) : (pok p = true ∧ pok q = true) ∧ pok (fsum p q) = true := by
  have rh := fsum_rng hp hq
  have rv : rng (fsum (fsum p q) (neg p)) := fsum_rng rh (neg_rng hp)
  obtain ⟨pq, pv⟩ := fdiff_args hq rv h
  obtain ⟨ph, pp⟩ := fdiff_args rh hp pv
  exact ⟨⟨pp, pq⟩, ph⟩
theorem back_le {a b h : Int} (ha : Fl a) (hab : b.natAbs ≤ a.natAbs) (n : Nr (a + b) h) : (h - a).natAbs ≤ a.natAbs := by
  have e1 := n.2 _ ha
  have e2 := n.2 _ ha.dbl
  have e3 := n.2 _ fl_zero
  omega
theorem fL_fin {p q : Int} (hp : rng p) (hq : rng q) (pp : pok p = true) (pq : pok q = true) (ph : pok (fsum p q) = true) (hab : (iV q).natAbs ≤ (iV p).natAbs) : pok (fL p q) = true ∧ iV (fsum p q) + iV (fL p q) = iV p + iV q := by
  have rh := fsum_rng hp hq
  have rv : rng (fsum (fsum p q) (neg p)) := fsum_rng rh (neg_rng hp)
  have nh := (stp_sum hp hq pp pq).nr ph
  have sv := stp_diff rh hp ph pp
  have b1 := back_le (fl_iV p) hab nh
  have pv := sv.fin (by have := iV_max hp pp; omega)
  have ev := nr_self (back (fl_iV p) (fl_iV q) hab nh) (sv.nr pv)
  have sl := stp_diff hq rv pq pv
  have e3 := nh.2 _ (fl_iV p)
  have pl := sl.fin (by rw [ev]; have := iV_max hq pq; omega)
  have nl := sl.nr pl
  have e4 := fast_sum (fl_iV p) (fl_iV q) hab nh (sv.nr pv) nl
  exact ⟨pl, by unfold fL; omega⟩
theorem fsum_eqn {p q : Int} (hp : rng p) (hq : rng q) (pp : pok p = true) (pq : pok q = true) : fsum p q = if patV p + patV q = 0 then patS (decide (p < 0) && decide (q < 0)) 0 else nearP (patV p + patV q) := by
  obtain ⟨a1, a2⟩ := fin_cls hp pp
  obtain ⟨b1, b2⟩ := fin_cls hq pq
  unfold fsum
  rw [if_neg (fun c => c.elim a1 b1), if_neg a2, if_neg b2]
theorem fsum_comm {p q : Int} (hp : rng p) (hq : rng q) (pp : pok p = true) (pq : pok q = true) : fsum p q = fsum q p := by
  rw [fsum_eqn hp hq pp pq, fsum_eqn hq hp pq pp, Int.add_comm (patV q), Bool.and_comm (decide (q < 0))]
/-- What FastTwoSum tells as exact. -/
def fX (p q : Int) : Bool := pok (fL p q) && (!decide ((iV p).natAbs < (iV q).natAbs) || decide (iV (fL p q) = iV (fL q p)))
theorem fX_iff {p q : Int} (hp : rng p) (hq : rng q) (h : pok (fL p q) = true) : fX p q = decide (iV (fsum p q) + iV (fL p q) = iV p + iV q) := by
  obtain ⟨⟨pp, pq⟩, ph⟩ := fL_args hp hq h
  unfold fX
  rw [h, Bool.true_and]
  by_cases c : (iV p).natAbs < (iV q).natAbs
  · have hc := fsum_comm hp hq pp pq
    obtain ⟨k1, k2⟩ := fL_fin hq hp pq pp (by rw [← hc]; exact ph) (by omega)
    rw [← hc] at k2
    rw [decide_eq_true c]
    show decide _ = decide _
    congr 1
    apply propext
    constructor <;> intro g <;> omega
  · rw [decide_eq_false c]
    have := (fL_fin hp hq pp pq ph (by omega)).2
    rw [decide_eq_true this]
    rfl
theorem k_pow (k : Nat) : ((2 ^ k : Nat) : Int) = 2 ^ k := by simp
theorem k_spl {K : Nat} {A B : Int} (h : (K : Int) = A) (g : B = 33554432 * A) : (((4503599627370496 + 33554432) * K : Nat) : Int) = 134217729 * B := by omega
theorem k_split2 (i j : Nat) : (2 : Int) ^ (i + j) = 2 ^ i * 2 ^ j := Int.pow_add _ _ _
theorem V_splitter {k : Nat} (hk : k = 1049) : V Ieee.double 4728779608772575232 = (4503599627370496 + 33554432) * 2 ^ k := by
  unfold V
  rw [dBin, if_neg (by decide), show (4728779608772575232 % 4503599627370496 : Nat) = 33554432 by decide, show (4728779608772575232 / 4503599627370496 - 1 : Nat) = k by omega]
theorem iV_splitter : iV 4728779608772575232 = 134217729 * 2 ^ 1074 := by
  obtain ⟨k, hk⟩ : ∃ k : Nat, k = 1049 := ⟨_, rfl⟩
  rw [show (1074 : Nat) = 25 + k by omega]
  have e3 : iV 4728779608772575232 = (V Ieee.double 4728779608772575232 : Int) := by
    unfold iV
    rw [show (rg 4728779608772575232).toNat = 4728779608772575232 by decide, show decide ((4728779608772575232 : Int) < 0) = false by decide]
    exact sgF _
  have e2 := k_split2 25 k
  rw [show (2 : Int) ^ 25 = 33554432 by decide] at e2
  rw [e3, V_splitter hk]
  exact k_spl (k_pow k) e2
/-- What Split tells of a float. -/
structure Hlv (a h l : Int) : Prop where
  sum : h + l = a
  dvd : ∀ k : Nat, (2 ^ k : Int) ∣ a → (2 ^ k : Int) ∣ h
  zero : a = 0 → h = 0
  spl : a ≠ 0 → ∃ x j : Nat, Spl (2 ^ x * a) (2 ^ x * h) j ∧ 4503599627370496 * 2 ^ j ≤ ((2 ^ x * a).natAbs : Int) ∧ ((2 ^ x * a).natAbs : Int) < 9007199254740992 * 2 ^ j
theorem stp_split {p : Int} (hp : rng p) (pp : pok p = true) : EStp (134217729 * iV p) (cC p) := by
  refine stp_prod spl_rng hp (by decide) pp ?_
  rw [iV_splitter]
  generalize (2 : Int) ^ 1074 = k
  rw [← Int.mul_assoc, Int.mul_comm k]
theorem hlv_of {a c d h l : Int} (ha : Fl a) (nc : Nr (134217729 * a) c) (nd : Nr (c - a) d) (nh : Nr (c - d) h) (nl : Nr (a - h) l) : Hlv a h l := by
  have dv : ∀ k : Nat, (2 ^ k : Int) ∣ a → (2 ^ k : Int) ∣ h := fun k g => by
    have g1 := nr_dvd nc (Int.dvd_mul_of_dvd_right g)
    have g2 := nr_dvd nd (Int.dvd_sub g1 g)
    exact nr_dvd nh (Int.dvd_sub g1 g2)
  by_cases h0 : a = 0
  · subst h0
    have e1 := nr_self fl_zero nc
    subst e1
    have e2 := nr_self fl_zero nd
    subst e2
    have e3 := nr_self fl_zero nh
    subst e3
    have e4 := nr_self fl_zero nl
    subst e4
    exact ⟨rfl, dv, fun _ => rfl, fun c => absurd rfl c⟩
  · obtain ⟨e, s⟩ := split_fl ha h0 nc nd nh nl
    exact ⟨by omega, dv, fun c => absurd c h0, fun _ => s⟩
theorem spL_exact {p : Int} (hp : rng p) (h : pok (spL p) = true) : pok p = true ∧ pok (spH p) = true ∧ Hlv (iV p) (iV (spH p)) (iV (spL p)) := by
  have rc : rng (cC p) := fprod_rng spl_rng hp
  have rd := fsum_rng rc (neg_rng hp)
  have rH : rng (spH p) := fsum_rng rc (neg_rng rd)
  obtain ⟨pp, pH⟩ := fdiff_args hp rH h
  obtain ⟨pc, pd⟩ := fdiff_args rc rd pH
  exact ⟨pp, pH, hlv_of (fl_iV p) ((stp_split hp pp).nr pc) ((stp_diff rc hp pc pp).nr pd) ((stp_diff rc rd pc pd).nr pH) ((stp_diff hp rH pp pH).nr h)⟩
theorem dvd_split (n : Nat) (a b : Int) : (2 ^ n : Int) ∣ a * b → ∃ i j : Nat, i + j = n ∧ (2 ^ i : Int) ∣ a ∧ (2 ^ j : Int) ∣ b := by
  induction n with
  | zero => intro _; exact ⟨0, 0, rfl, ⟨a, by simp⟩, ⟨b, by simp⟩⟩
  | succ n ih =>
    intro h
    obtain ⟨i, j, e, ⟨c, rfl⟩, ⟨d, rfl⟩⟩ := ih (Int.dvd_trans (p2dvd (by omega)) h)
    obtain ⟨t, ht⟩ := h
    have e2 : (2 : Int) ^ i * c * (2 ^ j * d) = 2 ^ n * (c * d) := by
      rw [← e, Int.pow_add, Int.mul_assoc, Int.mul_assoc]; congr 1; rw [← Int.mul_assoc, ← Int.mul_assoc, Int.mul_comm c]
    rw [e2, p2s, Int.mul_comm 2, Int.mul_assoc] at ht
    have e3 : c * d = 2 * t := Int.eq_of_mul_eq_mul_left (by have := p2 n; omega) ht
    by_cases hc : c % 2 = 0
    · obtain ⟨c', rfl⟩ : ∃ c', c = 2 * c' := ⟨c / 2, by omega⟩
      exact ⟨i + 1, j, by omega, ⟨c', by rw [p2s, ← Int.mul_assoc, Int.mul_comm (2 ^ i) 2]⟩, ⟨d, rfl⟩⟩
    · have hd : d % 2 = 0 := by
        have h1 : c % 2 = 1 := by omega
        have h2 : (c * d) % 2 = 0 := by omega
        rw [Int.mul_emod, h1, Int.one_mul] at h2
        omega
      obtain ⟨d', rfl⟩ : ∃ d', d = 2 * d' := ⟨d / 2, by omega⟩
      exact ⟨i, j + 1, by omega, ⟨c, rfl⟩, ⟨d', by rw [p2s, ← Int.mul_assoc, Int.mul_comm (2 ^ j) 2]⟩⟩
theorem sc_prod {x y i : Nat} {T p r : Int} (h : 2 ^ i * T = p * r) : (2 : Int) ^ (x + y + i) * T = (2 ^ x * p) * (2 ^ y * r) := by
  rw [Int.pow_add, Int.mul_assoc, h, Int.pow_add, Int.mul_assoc, Int.mul_assoc]
  congr 1
  rw [← Int.mul_assoc, ← Int.mul_assoc, Int.mul_comm (2 ^ y) p]
/-- Dekker's steps on whole numbers of units, products cut by 2^n. -/
theorem dekker_any {n : Nat} {a b P Q R S H T t1 t2 t3 l Tpr Tqr Tps Tqs xpr xqr xps xqs : Int} (ha : Hlv a P Q) (hb : Hlv b R S) (eT : 2 ^ n * T = a * b) (e1 : 2 ^ n * Tpr = P * R) (e2 : 2 ^ n * Tqr = Q * R) (e3 : 2 ^ n * Tps = P * S) (e4 : 2 ^ n * Tqs = Q * S)
    (nH : Nr T H) (n1 : Nr Tpr xpr) (m1 : Nr (H - xpr) t1) (n2 : Nr Tqr xqr) (m2 : Nr (t1 - xqr) t2) (n3 : Nr Tps xps) (m3 : Nr (t2 - xps) t3) (n4 : Nr Tqs xqs) (m4 : Nr (xqs - t3) l) : l = T - H := by
  have hn := p2 n
  by_cases h0 : a = 0 ∨ b = 0
  · have z0 : T = 0 ∧ Tpr = 0 ∧ Tqr = 0 ∧ Tps = 0 ∧ Tqs = 0 := by
      have s1 := ha.sum
      have s2 := hb.sum
      have cancel : ∀ {t : Int}, 2 ^ n * t = 0 → t = 0 := fun {t} h => by
        rcases Int.mul_eq_zero.1 h with g | g
        · omega
        · exact g
      rcases h0 with c | c
      · have c1 := ha.zero c
        have c2 : Q = 0 := by omega
        subst c1 c2 c
        simp only [Int.zero_mul] at eT e1 e2 e3 e4
        exact ⟨cancel eT, cancel e1, cancel e2, cancel e3, cancel e4⟩
      · have c1 := hb.zero c
        have c2 : S = 0 := by omega
        subst c1 c2 c
        simp only [Int.mul_zero] at eT e1 e2 e3 e4
        exact ⟨cancel eT, cancel e1, cancel e2, cancel e3, cancel e4⟩
    obtain ⟨rfl, rfl, rfl, rfl, rfl⟩ := z0
    have g1 := nr_self fl_zero nH
    have g2 := nr_self fl_zero n1
    have g3 := nr_self fl_zero n2
    have g4 := nr_self fl_zero n3
    have g5 := nr_self fl_zero n4
    subst g1 g2 g3 g4 g5
    have g6 := nr_self fl_zero m1
    subst g6
    have g7 := nr_self fl_zero m2
    subst g7
    have g8 := nr_self fl_zero m3
    subst g8
    exact nr_self fl_zero m4
  · obtain ⟨x, i, sa, a0, a1⟩ := ha.spl (fun c => h0 (.inl c))
    obtain ⟨y, j, sb, b0, b1⟩ := hb.spl (fun c => h0 (.inr c))
    have eQ : Q = a - P := by have := ha.sum; omega
    have eS : S = b - R := by have := hb.sum; omega
    subst eQ eS
    have k0 := nr_scale nH (x + y + n)
    have k1 := nr_scale n1 (x + y + n)
    have k2 := nr_scale m1 (x + y + n)
    have k3 := nr_scale n2 (x + y + n)
    have k4 := nr_scale m2 (x + y + n)
    have k5 := nr_scale n3 (x + y + n)
    have k6 := nr_scale m3 (x + y + n)
    have k7 := nr_scale n4 (x + y + n)
    have k8 := nr_scale m4 (x + y + n)
    rw [sc_prod eT] at k0
    rw [sc_prod e1] at k1
    rw [sc_prod e2] at k3
    rw [sc_prod e3] at k5
    rw [sc_prod e4] at k7
    rw [Int.mul_sub] at k2 k4 k6 k8
    rw [Int.mul_sub (2 ^ x) a P] at k3 k7
    rw [Int.mul_sub (2 ^ y) b R] at k5 k7
    have e := dekker sa sb a0 a1 b0 b1 k0 k1 k2 k3 k4 k5 k6 k7 k8
    rw [← sc_prod eT, ← Int.mul_sub] at e
    exact Int.eq_of_mul_eq_mul_left (by have := p2 (x + y + n); omega) e
theorem dvd_prod {n i j : Nat} {a b : Int} (h : i + j = n) (ha : (2 ^ i : Int) ∣ a) (hb : (2 ^ j : Int) ∣ b) : ∃ T, 2 ^ n * T = a * b := by
  obtain ⟨c, rfl⟩ := ha
  obtain ⟨d, rfl⟩ := hb
  refine ⟨c * d, ?_⟩
  rw [← h, Int.pow_add, Int.mul_assoc, Int.mul_assoc]; congr 1; rw [← Int.mul_assoc, ← Int.mul_assoc, Int.mul_comm c]
theorem prL_args {p q : Int} (hp : rng p) (hq : rng q) (h : pok (prL p q) = true) : (pok (spL p) = true ∧ pok (spL q) = true) ∧ pok (fprod p q) = true ∧ (pok (fprod (spH p) (spH q)) = true ∧ pok (pT1 p q) = true) ∧ (pok (fprod (spL p) (spH q)) = true ∧ pok (pT2 p q) = true) ∧ (pok (fprod (spH p) (spL q)) = true ∧ pok (pT3 p q) = true) ∧ pok (fprod (spL p) (spL q)) = true ∧ (rng (spH p) ∧ rng (spL p) ∧ rng (spH q) ∧ rng (spL q) ∧ rng (pT1 p q) ∧ rng (pT2 p q) ∧ rng (pT3 p q)) := by
  have rsp : ∀ {p : Int}, rng p → rng (spH p) ∧ rng (spL p) := fun {p} hp => by
    have rc : rng (cC p) := fprod_rng spl_rng hp
    have rd := fsum_rng rc (neg_rng hp)
    have rH : rng (spH p) := fsum_rng rc (neg_rng rd)
    exact ⟨rH, fsum_rng hp (neg_rng rH)⟩
  obtain ⟨rP, rQ⟩ := rsp hp
  obtain ⟨rR, rS⟩ := rsp hq
  have rT1 : rng (pT1 p q) := fsum_rng (fprod_rng hp hq) (neg_rng (fprod_rng rP rR))
  have rT2 : rng (pT2 p q) := fsum_rng rT1 (neg_rng (fprod_rng rQ rR))
  have rT3 : rng (pT3 p q) := fsum_rng rT2 (neg_rng (fprod_rng rP rS))
  obtain ⟨pqs, p3⟩ := fdiff_args (fprod_rng rQ rS) rT3 h
  obtain ⟨p2, pps⟩ := fdiff_args rT2 (fprod_rng rP rS) p3
  obtain ⟨p1, pqr⟩ := fdiff_args rT1 (fprod_rng rQ rR) p2
  obtain ⟨ph, ppr⟩ := fdiff_args (fprod_rng hp hq) (fprod_rng rP rR) p1
  exact ⟨fprod_args rQ rS pqs, ph, ⟨ppr, p1⟩, ⟨pqr, p2⟩, ⟨pps, p3⟩, pqs, rP, rQ, rR, rS, rT1, rT2, rT3⟩
theorem prL_exact {p q T : Int} (hp : rng p) (hq : rng q) (h : pok (prL p q) = true) (hT : 2 ^ 1074 * T = iV p * iV q) : (pok p = true ∧ pok q = true) ∧ pok (fprod p q) = true ∧ iV (fprod p q) + iV (prL p q) = T := by
  obtain ⟨⟨pQ, pS⟩, ph, ⟨ppr, p1⟩, ⟨pqr, p2⟩, ⟨pps, p3⟩, pqs, rP, rQ, rR, rS, rT1, rT2, rT3⟩ := prL_args hp hq h
  obtain ⟨pp, pP, ha⟩ := spL_exact hp pQ
  obtain ⟨pq, pR, hb⟩ := spL_exact hq pS
  have hd : (2 ^ 1074 : Int) ∣ iV p * iV q := ⟨T, hT.symm⟩
  obtain ⟨i, j, eij, di, dj⟩ := dvd_split 1074 _ _ hd
  have dP := ha.dvd i di
  have dR := hb.dvd j dj
  have dQ : (2 ^ i : Int) ∣ iV (spL p) := by have := ha.sum; rw [show iV (spL p) = iV p - iV (spH p) by omega]; exact Int.dvd_sub di dP
  have dS : (2 ^ j : Int) ∣ iV (spL q) := by have := hb.sum; rw [show iV (spL q) = iV q - iV (spH q) by omega]; exact Int.dvd_sub dj dR
  obtain ⟨Tpr, e1⟩ := dvd_prod eij dP dR
  obtain ⟨Tqr, e2⟩ := dvd_prod eij dQ dR
  obtain ⟨Tps, e3⟩ := dvd_prod eij dP dS
  obtain ⟨Tqs, e4⟩ := dvd_prod eij dQ dS
  have e := dekker_any ha hb hT e1 e2 e3 e4 ((stp_prod hp hq pp pq hT).nr ph) ((stp_prod rP rR pP pR e1).nr ppr) ((stp_diff (fprod_rng hp hq) (fprod_rng rP rR) ph ppr).nr p1) ((stp_prod rQ rR pQ pR e2).nr pqr) ((stp_diff rT1 (fprod_rng rQ rR) p1 pqr).nr p2) ((stp_prod rP rS pP pS e3).nr pps) ((stp_diff rT2 (fprod_rng rP rS) p2 pps).nr p3) ((stp_prod rQ rS pQ pS e4).nr pqs) ((stp_diff (fprod_rng rQ rS) rT3 pqs p3).nr h)
  exact ⟨⟨pp, pq⟩, ph, by unfold prL; omega⟩
end Go.Proofs.YtcpjdgfnblkfpaaGreatDoor
