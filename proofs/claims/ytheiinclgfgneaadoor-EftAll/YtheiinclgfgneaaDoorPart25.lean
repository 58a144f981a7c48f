/-
  Parts of the proof, one behind another.
-/
import Derived.Test.YtheiinclgfgneaaDoorPart24
import Derived.Test.YtheiinclgfgneaaDoorPart5
import Derived.Test.YtheiinclgfgneaaDoorPart19
import Derived.Test.YtheiinclgfgneaaDoorPart1
import Derived.Test.YtheiinclgfgneaaDoorPart8
import Derived.Test.YtheiinclgfgneaaDoorPart20
/-
  TwoSum, FastTwoSum, Split, TwoProd on patterns: where the second answer is finite nothing gets lost.
-/
namespace Go.Proofs.YtheiinclgfgneaaDoor
open Go Go.RowKit Go.Proofs.YtheiinclgfgneaaDoor.M Ieee
set_option linter.unusedSimpArgs false
set_option linter.unusedVariables false

theorem fl_iV (p : Int) : Fl (iV p) := by
  unfold iV
  cases decide (p < 0)
  · exact fl_V _
  · exact (fl_V _).neg
theorem iV_abs (p : Int) : ((iV p).natAbs : Int) = (V Ieee.double (rg p).toNat : Int) := by
  unfold iV sg
  cases decide (p < 0)
  · simp
  · simp
theorem iV_max {p : Int} (hp : rng p) (h : pok p = true) : ((iV p).natAbs : Int) ≤ maxV := by
  rw [iV_abs]
  have := (pok_rg hp).1 h
  exact V_le (by omega)
theorem sL_exact {p q : Int} (hp : rng p) (hq : rng q) (h : pok (sL p q) = true) : (pok p = true ∧ pok q = true) ∧ pok (fsum p q) = true ∧ iV (fsum p q) + iV (sL p q) = iV p + iV q := by
  have rh := fsum_rng hp hq
  have rv : rng (sV p q) := fsum_rng rh (neg_rng hp)
  have rU := fsum_rng rh (neg_rng rv)
  have rX := fsum_rng hp (neg_rng rU)
  have rY := fsum_rng hq (neg_rng rv)
  obtain ⟨pX, pY⟩ := fsum_args rX rY h
  obtain ⟨pp, pU⟩ := fdiff_args hp rU pX
  obtain ⟨pq, pv⟩ := fdiff_args hq rv pY
  obtain ⟨ph, _⟩ := fdiff_args rh hp pv
  have e := two_sum (fl_iV p) (fl_iV q) ((stp_sum hp hq pp pq).nr ph) ((stp_diff rh hp ph pp).nr pv) ((stp_diff rh rv ph pv).nr pU) ((stp_diff hp rU pp pU).nr pX) ((stp_diff hq rv pq pv).nr pY) ((stp_sum rX rY pX pY).nr h)
  exact ⟨⟨pp, pq⟩, ph, by unfold sL; omega⟩
theorem fL_args {p q : Int} (hp : rng p) (hq : rng q) (h : pok (fL p q) = true) : (pok p = true ∧ pok q = true) ∧ pok (fsum p q) = true := by
  have rh := fsum_rng hp hq
  have rv : rng (fsum (fsum p q) (neg p)) := fsum_rng rh (neg_rng hp)
  obtain ⟨pq, pv⟩ := fdiff_args hq rv h
  obtain ⟨ph, pp⟩ := fdiff_args rh hp pv
  exact ⟨⟨pp, pq⟩, ph⟩
theorem back_le {a b h : Int} (ha : Fl a) (hab : b.natAbs ≤ a.natAbs) (n : Nr (a + b) h) : (h - a).natAbs ≤ a.natAbs := by
  have e1 := n.2 _ ha
  have e2 := n.2 _ ha.dbl
  have e3 := n.2 _ fl_zero
  omega
theorem fL_fin {p q : Int} (hp : rng p) (hq : rng q) (pp : pok p = true) (pq : pok q = true) (ph : pok (fsum p q) = true) (hab : (iV q).natAbs ≤ (iV p).natAbs) : pok (fL p q) = true ∧ iV (fsum p q) + iV (fL p q) = iV p + iV q := by
  have rh := fsum_rng hp hq
  have rv : rng (fsum (fsum p q) (neg p)) := fsum_rng rh (neg_rng hp)
  have nh := (stp_sum hp hq pp pq).nr ph
  have sv := stp_diff rh hp ph pp
  have b1 := back_le (fl_iV p) hab nh
  have pv := sv.fin (by have := iV_max hp pp; omega)
  have ev := nr_self (back (fl_iV p) (fl_iV q) hab nh) (sv.nr pv)
  have sl := stp_diff hq rv pq pv
  have e3 := nh.2 _ (fl_iV p)
  have pl := sl.fin (by rw [ev]; have := iV_max hq pq; omega)
  have nl := sl.nr pl
  have e4 := fast_sum (fl_iV p) (fl_iV q) hab nh (sv.nr pv) nl
  exact ⟨pl, by unfold fL; omega⟩
theorem fsum_eqn {p q : Int} (hp : rng p) (hq : rng q) (pp : pok p = true) (pq : pok q = true) : fsum p q = if patV p + patV q = 0 then patS (decide (p < 0) && decide (q < 0)) 0 else nearP (patV p + patV q) := by
  obtain ⟨a1, a2⟩ := fin_cls hp pp
  obtain ⟨b1, b2⟩ := fin_cls hq pq
  unfold fsum
  rw [if_neg (fun c => c.elim a1 b1), if_neg a2, if_neg b2]
theorem fsum_comm {p q : Int} (hp : rng p) (hq : rng q) (pp : pok p = true) (pq : pok q = true) : fsum p q = fsum q p := by
  rw [fsum_eqn hp hq pp pq, fsum_eqn hq hp pq pp, Int.add_comm (patV q), Bool.and_comm (decide (q < 0))]
/-- What FastTwoSum tells as exact. -/
def fX (p q : Int) : Bool := pok (fL p q) && (!decide ((iV p).natAbs < (iV q).natAbs) || decide (iV (fL p q) = iV (fL q p)))
theorem fX_iff {p q : Int} (hp : rng p) (hq : rng q) (h : pok (fL p q) = true) : fX p q = decide (iV (fsum p q) + iV (fL p q) = iV p + iV q) := by
  obtain ⟨⟨pp, pq⟩, ph⟩ := fL_args hp hq h
  unfold fX
  rw [h, Bool.true_and]
  by_cases c : (iV p).natAbs < (iV q).natAbs
  · have hc := fsum_comm hp hq pp pq
    obtain ⟨k1, k2⟩ := fL_fin hq hp pq pp (by rw [← hc]; exact ph) (by omega)
    rw [← hc] at k2
    rw [decide_eq_true c]
    show decide _ = decide _
    congr 1
    apply propext
    constructor <;> intro g <;> omega
  · rw [decide_eq_false c]
    have := (fL_fin hp hq pp pq ph (by omega)).2
    rw [decide_eq_true this]
    rfl
theorem k_pow (k : Nat) : ((2 ^ k : Nat) : Int) = 2 ^ k := by simp
theorem k_spl {K : Nat} {A B : Int} (h : (K : Int) = A) (g : B = 33554432 * A) : (((4503599627370496 + 33554432) * K : Nat) : Int) = 134217729 * B := by omega
theorem k_split2 (i j : Nat) : (2 : Int) ^ (i + j) = 2 ^ i * 2 ^ j := Int.pow_add _ _ _
theorem V_splitter {k : Nat} (hk : k = 1049) : V Ieee.double 4728779608772575232 = (4503599627370496 + 33554432) * 2 ^ k := by
  unfold V
  rw [dBin, if_neg (by decide), show (4728779608772575232 % 4503599627370496 : Nat) = 33554432 by decide, show (4728779608772575232 / 4503599627370496 - 1 : Nat) = k by omega]
theorem iV_splitter : iV 4728779608772575232 = 134217729 * 2 ^ 1074 := by
  obtain ⟨k, hk⟩ : ∃ k : Nat, k = 1049 := ⟨_, rfl⟩
  rw [show (1074 : Nat) = 25 + k by omega]
  have e3 : iV 4728779608772575232 = (V Ieee.double 4728779608772575232 : Int) := by
    unfold iV
    rw [show (rg 4728779608772575232).toNat = 4728779608772575232 by decide, show decide ((4728779608772575232 : Int) < 0) = false by decide]
    exact sgF _
  have e2 := k_split2 25 k
  rw [show (2 : Int) ^ 25 = 33554432 by decide] at e2
  rw [e3, V_splitter hk]
  exact k_spl (k_pow k) e2
/-- What Split tells of a float. -/
structure Hlv (a h l : Int) : Prop where
  sum : h + l = a
  dvd : ∀ k : Nat, (2 ^ k : Int) ∣ a → (2 ^ k : Int) ∣ h
  zero : a = 0 → h = 0
  spl : a ≠ 0 → ∃ x j : Nat, Spl (2 ^ x * a) (2 ^ x * h) j ∧ 4503599627370496 * 2 ^ j ≤ ((2 ^ x * a).natAbs : Int) ∧ ((2 ^ x * a).natAbs : Int) < 9007199254740992 * 2 ^ j
theorem stp_split {p : Int} (hp : rng p) (pp : pok p = true) : EStp (134217729 * iV p) (cC p) := by
  refine stp_prod spl_rng hp (by decide) pp ?_
  rw [iV_splitter]
  generalize (2 : Int) ^ 1074 = k
  rw [← Int.mul_assoc, Int.mul_comm k]
theorem hlv_of {a c d h l : Int} (ha : Fl a) (nc : Nr (134217729 * a) c) (nd : Nr (c - a) d) (nh : Nr (c - d) h) (nl : Nr (a - h) l) : Hlv a h l := by
  have dv : ∀ k : Nat, (2 ^ k : Int) ∣ a → (2 ^ k : Int) ∣ h := fun k g => by
    have g1 := nr_dvd nc (Int.dvd_mul_of_dvd_right g)
    have g2 := nr_dvd nd (Int.dvd_sub g1 g)
    exact nr_dvd nh (Int.dvd_sub g1 g2)
  by_cases h0 : a = 0
  · subst h0
    have e1 := nr_self fl_zero nc
    subst e1
    have e2 := nr_self fl_zero nd
    subst e2
    have e3 := nr_self fl_zero nh
    subst e3
    have e4 := nr_self fl_zero nl
    subst e4
    exact ⟨rfl, dv, fun _ => rfl, fun c => absurd rfl c⟩
  · obtain ⟨e, s⟩ := split_fl ha h0 nc nd nh nl
    exact ⟨by omega, dv, fun c => absurd c h0, fun _ => s⟩
theorem spL_exact {p : Int} (hp : rng p) (h : pok (spL p) = true) : pok p = true ∧ pok (spH p) = true ∧ Hlv (iV p) (iV (spH p)) (iV (spL p)) := by
  have rc : rng (cC p) := fprod_rng spl_rng hp
  have rd := fsum_rng rc (neg_rng hp)
  have rH : rng (spH p) := fsum_rng rc (neg_rng rd)
  obtain ⟨pp, pH⟩ := fdiff_args hp rH h
  obtain ⟨pc, pd⟩ := fdiff_args rc rd pH
  exact ⟨pp, pH, hlv_of (fl_iV p) ((stp_split hp pp).nr pc) ((stp_diff rc hp pc pp).nr pd) ((stp_diff rc rd pc pd).nr pH) ((stp_diff hp rH pp pH).nr h)⟩
theorem dvd_split (n : Nat) (a b : Int) : (2 ^ n : Int) ∣ a * b → ∃ i j : Nat, i + j = n ∧ (2 ^ i : Int) ∣ a ∧ (2 ^ j : Int) ∣ b := by
  induction n with
  | zero => intro _; exact ⟨0, 0, rfl, ⟨a, by simp⟩, ⟨b, by simp⟩⟩
  | succ n ih =>
    intro h
    obtain ⟨i, j, e, ⟨c, rfl⟩, ⟨d, rfl⟩⟩ := ih (Int.dvd_trans (p2dvd (by omega)) h)
    obtain ⟨t, ht⟩ := h
    have e2 : (2 : Int) ^ i * c * (2 ^ j * d) = 2 ^ n * (c * d) := by
      rw [← e, Int.pow_add, Int.mul_assoc, Int.mul_assoc]; congr 1; rw [← Int.mul_assoc, ← Int.mul_assoc, Int.mul_comm c]
    rw [e2, p2s, Int.mul_comm 2, Int.mul_assoc] at ht
    have e3 : c * d = 2 * t := Int.eq_of_mul_eq_mul_left (by have := p2 n; omega) ht
    by_cases hc : c % 2 = 0
    · obtain ⟨c', rfl⟩ : ∃ c', c = 2 * c' := ⟨c / 2, by omega⟩
      exact ⟨i + 1, j, by omega, ⟨c', by rw [p2s, ← Int.mul_assoc, Int.mul_comm (2 ^ i) 2]⟩, ⟨d, rfl⟩⟩
    · have hd : d % 2 = 0 := by
        have h1 : c % 2 = 1 := by omega
        have h2 : (c * d) % 2 = 0 := by omega
        rw [Int.mul_emod, h1, Int.one_mul] at h2
        omega
      obtain ⟨d', rfl⟩ : ∃ d', d = 2 * d' := ⟨d / 2, by omega⟩
      exact ⟨i, j + 1, by omega, ⟨c, rfl⟩, ⟨d', by rw [p2s, ← Int.mul_assoc, Int.mul_comm (2 ^ j) 2]⟩⟩
theorem sc_prod {x y i : Nat} {T p r : Int} (h : 2 ^ i * T = p * r) : (2 : Int) ^ (x + y + i) * T = (2 ^ x * p) * (2 ^ y * r) := by
  rw [Int.pow_add, Int.mul_assoc, h, Int.pow_add, Int.mul_assoc, Int.mul_assoc]
  congr 1
  rw [← Int.mul_assoc, ← Int.mul_assoc, Int.mul_comm (2 ^ y) p]
/-- Dekker's steps on whole numbers of units, products cut by 2^n. -/
theorem dekker_any {n : Nat} {a b P Q R S H T t1 t2 t3 l Tpr Tqr Tps Tqs xpr xqr xps xqs : Int} (ha : Hlv a P Q) (hb : Hlv b R S) (eT : 2 ^ n * T = a * b) (e1 : 2 ^ n * Tpr = P * R) (e2 : 2 ^ n * Tqr = Q * R) (e3 : 2 ^ n * Tps = P * S) (e4 : 2 ^ n * Tqs = Q * S)
    (nH : Nr T H) (n1 : Nr Tpr xpr) (m1 : Nr (H - xpr) t1) (n2 : Nr Tqr xqr) (m2 : Nr (t1 - xqr) t2) (n3 : Nr Tps xps) (m3 : Nr (t2 - xps) t3) (n4 : Nr Tqs xqs) (m4 : Nr (xqs - t3) l) : l = T - H := by
  have hn := p2 n
  by_cases h0 : a = 0 ∨ b = 0
  · have z0 : T = 0 ∧ Tpr = 0 ∧ Tqr = 0 ∧ Tps = 0 ∧ Tqs = 0 := by
      have s1 := ha.sum
      have s2 := hb.sum
      have cancel : ∀ {t : Int}, 2 ^ n * t = 0 → t = 0 := fun {t} h => by
        rcases Int.mul_eq_zero.1 h with g | g
        · omega
        · exact g
      rcases h0 with c | c
      · have c1 := ha.zero c
        have c2 : Q = 0 := by omega
        subst c1 c2 c
        simp only [Int.zero_mul] at eT e1 e2 e3 e4
        exact ⟨cancel eT, cancel e1, cancel e2, cancel e3, cancel e4⟩
      · have c1 := hb.zero c
        have c2 : S = 0 := by omega
        subst c1 c2 c
        simp only [Int.mul_zero] at eT e1 e2 e3 e4
        exact ⟨cancel eT, cancel e1, cancel e2, cancel e3, cancel e4⟩
    obtain ⟨rfl, rfl, rfl, rfl, rfl⟩ := z0
    have g1 := nr_self fl_zero nH
    have g2 := nr_self fl_zero n1
    have g3 := nr_self fl_zero n2
    have g4 := nr_self fl_zero n3
    have g5 := nr_self fl_zero n4
    subst g1 g2 g3 g4 g5
    have g6 := nr_self fl_zero m1
    subst g6
    have g7 := nr_self fl_zero m2
    subst g7
    have g8 := nr_self fl_zero m3
    subst g8
    exact nr_self fl_zero m4
  · obtain ⟨x, i, sa, a0, a1⟩ := ha.spl (fun c => h0 (.inl c))
    obtain ⟨y, j, sb, b0, b1⟩ := hb.spl (fun c => h0 (.inr c))
    have eQ : Q = a - P := by have := ha.sum; omega
    have eS : S = b - R := by have := hb.sum; omega
    subst eQ eS
    have k0 := nr_scale nH (x + y + n)
    have k1 := nr_scale n1 (x + y + n)
    have k2 := nr_scale m1 (x + y + n)
    have k3 := nr_scale n2 (x + y + n)
    have k4 := nr_scale m2 (x + y + n)
    have k5 := nr_scale n3 (x + y + n)
    have k6 := nr_scale m3 (x + y + n)
    have k7 := nr_scale n4 (x + y + n)
    have k8 := nr_scale m4 (x + y + n)
    rw [sc_prod eT] at k0
    rw [sc_prod e1] at k1
    rw [sc_prod e2] at k3
    rw [sc_prod e3] at k5
    rw [sc_prod e4] at k7
    rw [Int.mul_sub] at k2 k4 k6 k8
    rw [Int.mul_sub (2 ^ x) a P] at k3 k7
    rw [Int.mul_sub (2 ^ y) b R] at k5 k7
    have e := dekker sa sb a0 a1 b0 b1 k0 k1 k2 k3 k4 k5 k6 k7 k8
    rw [← sc_prod eT, ← Int.mul_sub] at e
    exact Int.eq_of_mul_eq_mul_left (by have := p2 (x + y + n); omega) e
theorem dvd_prod {n i j : Nat} {a b : Int} (h : i + j = n) (ha : (2 ^ i : Int) ∣ a) (hb : (2 ^ j : Int) ∣ b) : ∃ T, 2 ^ n * T = a * b := by
  obtain ⟨c, rfl⟩ := ha
  obtain ⟨d, rfl⟩ := hb
  refine ⟨c * d, ?_⟩
  rw [← h, Int.pow_add, Int.mul_assoc, Int.mul_assoc]; congr 1; rw [← Int.mul_assoc, ← Int.mul_assoc, Int.mul_comm c]
theorem prL_args {p q : Int} (hp : rng p) (hq : rng q) (h : pok (prL p q) = true) : (pok (spL p) = true ∧ pok (spL q) = true) ∧ pok (fprod p q) = true ∧ (pok (fprod (spH p) (spH q)) = true ∧ pok (pT1 p q) = true) ∧ (pok (fprod (spL p) (spH q)) = true ∧ pok (pT2 p q) = true) ∧ (pok (fprod (spH p) (spL q)) = true ∧ pok (pT3 p q) = true) ∧ pok (fprod (spL p) (spL q)) = true ∧ (rng (spH p) ∧ rng (spL p) ∧ rng (spH q) ∧ rng (spL q) ∧ rng (pT1 p q) ∧ rng (pT2 p q) ∧ rng (pT3 p q)) := by
  have rsp : ∀ {p : Int}, rng p → rng (spH p) ∧ rng (spL p) := fun {p} hp => by
    have rc : rng (cC p) := fprod_rng spl_rng hp
    have rd := fsum_rng rc (neg_rng hp)
    have rH : rng (spH p) := fsum_rng rc (neg_rng rd)
    exact ⟨rH, fsum_rng hp (neg_rng rH)⟩
  obtain ⟨rP, rQ⟩ := rsp hp
  obtain ⟨rR, rS⟩ := rsp hq
  have rT1 : rng (pT1 p q) := fsum_rng (fprod_rng hp hq) (neg_rng (fprod_rng rP rR))
  have rT2 : rng (pT2 p q) := fsum_rng rT1 (neg_rng (fprod_rng rQ rR))
  have rT3 : rng (pT3 p q) := fsum_rng rT2 (neg_rng (fprod_rng rP rS))
  obtain ⟨pqs, p3⟩ := fdiff_args (fprod_rng rQ rS) rT3 h
  obtain ⟨p2, pps⟩ := fdiff_args rT2 (fprod_rng rP rS) p3
  obtain ⟨p1, pqr⟩ := fdiff_args rT1 (fprod_rng rQ rR) p2
  obtain ⟨ph, ppr⟩ := fdiff_args (fprod_rng hp hq) (fprod_rng rP rR) p1
  exact ⟨fprod_args rQ rS pqs, ph, ⟨ppr, p1⟩, ⟨pqr, p2⟩, ⟨pps, p3⟩, pqs, rP, rQ, rR, rS, rT1, rT2, rT3⟩
theorem prL_exact {p q T : Int} (hp : rng p) (hq : rng q) (h : pok (prL p q) = true) (hT : 2 ^ 1074 * T = iV p * iV q) : (pok p = true ∧ pok q = true) ∧ pok (fprod p q) = true ∧ iV (fprod p q) + iV (prL p q) = T := by
  obtain ⟨⟨pQ, pS⟩, ph, ⟨ppr, p1⟩, ⟨pqr, p2⟩, ⟨pps, p3⟩, pqs, rP, rQ, rR, rS, rT1, rT2, rT3⟩ := prL_args hp hq h
  obtain ⟨pp, pP, ha⟩ := spL_exact hp pQ
  obtain ⟨pq, pR, hb⟩ := spL_exact hq pS
  have hd : (2 ^ 1074 : Int) ∣ iV p * iV q := ⟨T, hT.symm⟩
  obtain ⟨i, j, eij, di, dj⟩ := dvd_split 1074 _ _ hd
  have dP := ha.dvd i di
  have dR := hb.dvd j dj
  have dQ : (2 ^ i : Int) ∣ iV (spL p) := by have := ha.sum; rw [show iV (spL p) = iV p - iV (spH p) by omega]; exact Int.dvd_sub di dP
  have dS : (2 ^ j : Int) ∣ iV (spL q) := by have := hb.sum; rw [show iV (spL q) = iV q - iV (spH q) by omega]; exact Int.dvd_sub dj dR
  obtain ⟨Tpr, e1⟩ := dvd_prod eij dP dR
  obtain ⟨Tqr, e2⟩ := dvd_prod eij dQ dR
  obtain ⟨Tps, e3⟩ := dvd_prod eij dP dS
  obtain ⟨Tqs, e4⟩ := dvd_prod eij dQ dS
  have e := dekker_any ha hb hT e1 e2 e3 e4 ((stp_prod hp hq pp pq hT).nr ph) ((stp_prod rP rR pP pR e1).nr ppr) ((stp_diff (fprod_rng hp hq) (fprod_rng rP rR) ph ppr).nr p1) ((stp_prod rQ rR pQ pR e2).nr pqr) ((stp_diff rT1 (fprod_rng rQ rR) p1 pqr).nr p2) ((stp_prod rP rS pP pS e3).nr pps) ((stp_diff rT2 (fprod_rng rP rS) p2 pps).nr p3) ((stp_prod rQ rS pQ pS e4).nr pqs) ((stp_diff (fprod_rng rQ rS) rT3 pqs p3).nr h)
  exact ⟨⟨pp, pq⟩, ph, by unfold prL; omega⟩
end Go.Proofs.YtheiinclgfgneaaDoor

/-
  Package eft: math.Abs, FastTwoSum, reachable, TwoProd, by their contracts.
-/
namespace Go.Proofs.YtheiinclgfgneaaDoor
open Go Go.RowKit Go.Proofs.YtheiinclgfgneaaDoor.M Ieee
set_option linter.unusedSimpArgs false
set_option linter.unusedVariables false

theorem bits_andNotU (x y : Int) : bits .andNot .u64 x y = IntKind.u64.wrap (((x % 18446744073709551616).toNat &&& (18446744073709551615 - (y % 18446744073709551616).toNat) : Nat) : Int) := by
  show IntKind.u64.wrap (((BitVec.ofInt 64 x &&& ~~~ BitVec.ofInt 64 y).toNat : Nat) : Int) = _
  rw [BitVec.toNat_and, BitVec.toNat_not, ofInt64_toNat, ofInt64_toNat]
theorem abs_word {p : Int} (hp : M.rng p) : bits .andNot .u64 ((wd p : Nat) : Int) 9223372036854775808 = ((wd (rg p) : Nat) : Int) := by
  rw [bits_andNotU, show (18446744073709551615 - ((9223372036854775808 : Int) % 18446744073709551616).toNat) = 2 ^ 63 - 1 from by decide, IntKind.wrap_u64, Nat.and_two_pow_sub_one_eq_mod]
  unfold wd rg M.rng at *
  have e : (2 : Nat) ^ 63 = 9223372036854775808 := by decide
  rw [e]
  split <;> omega
set_option maxRecDepth 100000 in
theorem mabs_any {p : Int} (hp : M.rng p) (w : World) :
    Calls Tryd.prog 34 #[.float .f64 (wd p)] w fun e w' => e = .returned (.float .f64 (wd (rg p))) ∧ w' = w := by
  have h1 := run_from64
  have h2 := run_bits64
  have h3 := abs_word hp
  generalize wd (rg p) = z at *
  generalize wd p = x at *
  go_enter Tryd.func34, Tryd.ntmps34
  go_wp2
  go_ret
  exact ⟨by simp, rfl⟩
theorem rg_facts {p : Int} (hp : M.rng p) (h : pok p = true) : M.rng (rg p) ∧ pok (rg p) = true ∧ iV (rg p) = ((iV p).natAbs : Int) := by
  have h1 := (pok_rg hp).1 h
  have h0 : 0 ≤ rg p := by unfold rg; unfold M.rng at hp; split <;> omega
  have e : rg p = patS false (rg p) := rfl
  obtain ⟨a, b, c⟩ := patS_parts (ng := false) h0 (by omega)
  rw [← e] at a
  refine ⟨a, ?_, ?_⟩
  · rw [e, patS_fin h0 (by omega)]; exact decide_eq_true h1
  · rw [iV_abs]
    have := iV_patS (ng := false) h0 (show rg p ≤ 9218868437227405312 by omega)
    rw [← e] at this
    rw [this]
    rfl
theorem cmp_iV {p q : Int} (hp : M.rng p) (hq : M.rng q) (pp : pok p = true) (pq : pok q = true) : Ieee.double.order (wd p) (wd q) = some (compare (iV p) (iV q)) := by
  rw [order_wd hp hq pp pq, patV_iV hp pp, patV_iV hq pq, cmp_mul (pw_pos _)]
theorem cmp_lt {a b : Int} : (some (compare a b) == some Ordering.lt) = decide (a < b) := by
  show (some (compareOfLessAndEq a b) == some Ordering.lt) = _
  unfold compareOfLessAndEq
  by_cases h1 : a < b
  · rw [if_pos h1, decide_eq_true h1]; rfl
  · rw [if_neg h1, decide_eq_false h1]
    split <;> rfl
theorem abs_order {p q : Int} (hp : M.rng p) (hq : M.rng q) (pp : pok p = true) (pq : pok q = true) : (Ieee.double.order (wd (rg p)) (wd (rg q)) == some Ordering.lt) = decide ((iV p).natAbs < (iV q).natAbs) := by
  obtain ⟨a1, a2, a3⟩ := rg_facts hp pp
  obtain ⟨b1, b2, b3⟩ := rg_facts hq pq
  rw [cmp_iV a1 b1 a2 b2, cmp_lt, a3, b3]
  congr 1
  apply propext
  omega
theorem told_fin {a : Int} (h : pok (told a) = true) : told a = a := by
  unfold told at *
  by_cases c : cls a = 4
  · rw [if_pos c, nan_no] at h; cases h
  · rw [if_neg c]
theorem FW.fin {p : Int} {x : Nat} (h : FW p x) (g : pok p = true) : x = wd p := by
  rcases h with ⟨_, _, h⟩ | ⟨rfl, _⟩
  · exact h
  · rw [nan_no] at g; cases g
set_option maxRecDepth 100000 in
set_option maxHeartbeats 2000000 in
theorem fastTwoSum_any {a b : Int} (ha : M.rng a) (hb : M.rng b) (w : World) :
    Calls Tryd.prog 14 #[.int .i64 a, .int .i64 b] w fun e w' => e = .returned (.tuple #[.int .i64 (fsum (told a) (told b)), .int .i64 (fL (told a) (told b)), .bool (fX (told a) (told b))]) ∧ Below w.heap.size w w' := by
  have C1 := fun W => bitsFloat a W
  have C2 := fun W => bitsFloat b W
  have FA : Hid (FW (told a) (wd a)) := wd_told ha
  have FB : Hid (FW (told b) (wd b)) := wd_told hb
  generalize told a = p at *
  generalize told b = q at *
  generalize wd a = x at *
  generalize wd b = y at *
  obtain ⟨X, hX0⟩ : ∃ X, fX p q = X := ⟨_, rfl⟩
  have HX : Hid (fX p q = X) := hX0
  rw [hX0]
  clear hX0
  go_enter Tryd.func14, Tryd.ntmps14
  go_wp2_with fail
  refine (C1 _).mono ?_
  rintro _ _ ⟨rfl, rfl⟩
  go_wp2_with fail
  refine (C2 _).mono ?_
  rintro _ _ ⟨rfl, rfl⟩
  go_wp2_with fail
  refine (efast_any FA.out FB.out _).mono ?_
  rintro _ w1 ⟨z, u, rfl, g1, g2, b1⟩
  have G1 : Hid (FW (fsum p q) z) := g1
  have G2 : Hid (FW (fL p q) u) := g2
  clear g1 g2 C1 C2
  go_wp2_with fail
  refine (etold_any G1.out G2.out _).mono ?_
  rintro _ w2 ⟨rfl, b2⟩
  have hb2 := bel_trans b1 b2
  have hp := FA.out.rng
  have hq := FB.out.rng
  cases hl : pok (fL p q)
  · have hx : X = false := by rw [← HX.out]; unfold fX; rw [hl]; rfl
    subst hx
    clear HX
    clear G1 G2 FA FB hp hq
    go_wp2
    all_goals refine bodyPost_ret (v := .tuple #[.int .i64 (fsum p q), .int .i64 (fL p q), .bool false]) (by simp [results, Tryd.results14, go_sem]) rfl ⟨rfl, hb2⟩
  · obtain ⟨⟨pp, pq⟩, ph⟩ := fL_args hp hq hl
    have ex := FA.out.fin pp
    have ey := FB.out.fin pq
    have eu := G2.out.fin hl
    subst ex ey eu
    have A1 := fun W => mabs_any hp W
    have A2 := fun W => mabs_any hq W
    have HO : (FloatKind.f64.format.order (wd (rg p)) (wd (rg q)) == some Ordering.lt) = decide ((iV p).natAbs < (iV q).natAbs) := abs_order hp hq pp pq
    by_cases c : (iV p).natAbs < (iV q).natAbs
    · have hc := fsum_comm hp hq pp pq
      obtain ⟨k1, k2⟩ := fL_fin hq hp pq pp (by rw [← hc]; exact ph) (by omega)
      have hfl : M.rng (fL p q) := by unfold fL; exact fsum_rng hq (neg_rng (fsum_rng (fsum_rng hp hq) (neg_rng hp)))
      have hfl2 : M.rng (fL q p) := by unfold fL; exact fsum_rng hp (neg_rng (fsum_rng (fsum_rng hq hp) (neg_rng hq)))
      have HE : (FloatKind.f64.format.order (wd (fL p q)) (wd (fL q p)) == some Ordering.eq) = decide (iV (fL p q) = iV (fL q p)) := by
        show (Ieee.double.order (wd (fL p q)) (wd (fL q p)) == some Ordering.eq) = _
        rw [cmp_iV hfl hfl2 hl k1, cmp_eq]
      have hx : X = decide (iV (fL p q) = iV (fL q p)) := by rw [← HX.out]; unfold fX; rw [hl, decide_eq_true c]; rfl
      rw [← hx] at HE
      clear HX hx
      rw [decide_eq_true c] at HO
      have K1 : Hid (pok (fL q p) = true) := k1
      clear hc k2 G1 hfl hfl2
      generalize wd (rg p) = xa at *
      generalize wd (rg q) = ya at *
      go_wp2_with fail
      refine (A1 _).mono ?_
      rintro _ _ ⟨rfl, rfl⟩
      go_wp2_with fail
      refine (A2 _).mono ?_
      rintro _ _ ⟨rfl, rfl⟩
      go_wp2_with fail
      refine (efast_any FB.out FA.out _).mono ?_
      rintro _ w3 ⟨z3, u3, rfl, g3, g4, b3⟩
      have e4 := g4.fin K1.out
      subst e4
      have hb3 := bel_trans hb2 b3
      clear g3 g4
      go_wp2
      all_goals refine bodyPost_ret (v := .tuple #[.int .i64 (fsum p q), .int .i64 (fL p q), .bool X]) (by simp [results, Tryd.results14, go_sem, HE]) rfl ⟨rfl, hb3⟩
    · have hx : X = true := by rw [← HX.out]; unfold fX; rw [hl, decide_eq_false c]; rfl
      subst hx
      clear HX
      rw [decide_eq_false c] at HO
      clear G1
      generalize wd (rg p) = xa at *
      generalize wd (rg q) = ya at *
      go_wp2_with fail
      refine (A1 _).mono ?_
      rintro _ _ ⟨rfl, rfl⟩
      go_wp2_with fail
      refine (A2 _).mono ?_
      rintro _ _ ⟨rfl, rfl⟩
      go_wp2
      all_goals refine bodyPost_ret (v := .tuple #[.int .i64 (fsum p q), .int .i64 (fL p q), .bool true]) (by simp [results, Tryd.results14, go_sem]) rfl ⟨rfl, hb2⟩
end Go.Proofs.YtheiinclgfgneaaDoor
namespace Go.Proofs.YtheiinclgfgneaaDoor
open Go Go.RowKit Go.Proofs.YtheiinclgfgneaaDoor.M Ieee
set_option linter.unusedSimpArgs false
set_option linter.unusedVariables false
set_option maxRecDepth 100000 in
theorem tzero_any (mag : Int) (h0 : 0 < mag) (h : mag < 9223372036854775808) (w : World) (hT : b_Tab w) :
    Calls Tryd.prog 61 #[.int .u64 mag] w fun e w' => e = .returned (.int .i64 (jz mag)) ∧ w' = w := by
  go_enter Tryd.func61, Tryd.ntmps61
  go_wp2_with fail
  refine (trailingI mag h0 h _ hT).mono ?_
  rintro _ _ ⟨rfl, rfl⟩
  go_wp2
  go_ret
  exact ⟨rfl, rfl⟩
set_option maxRecDepth 100000 in
theorem zeros_any (x : Int) (h0 : 0 < x) (h1 : x < 9223372036854775808) (w : World) (hT : b_Tab w) :
    Calls Tryd.prog 43 #[.int .i64 x] w fun e w' => e = .returned (.int .i64 (jz x)) ∧ w' = w := by
  have u1 : IntKind.u64.wrap x = x := by rw [IntKind.wrap_u64]; omega
  have C := fun W (T : b_Tab W) => tzero_any x h0 h1 W T
  go_enter Tryd.func43, Tryd.ntmps43
  go_wp2_with fail
  refine (C _ hT).mono ?_
  rintro _ _ ⟨rfl, rfl⟩
  go_wp2
  go_ret
  exact ⟨rfl, rfl⟩
/-- Is no bit of the product below the least float? -/
def reach (a b : Int) : Bool := decide (pmag a = 0) || decide (pmag b = 0) || decide (-1074 ≤ pexp a + jz (pmag a) + pexp b + jz (pmag b))
end Go.Proofs.YtheiinclgfgneaaDoor

/-
  Package eft: reachable, TwoProd, by their contracts; what reachable tells.
-/
namespace Go.Proofs.YtheiinclgfgneaaDoor
open Go Go.RowKit Go.Proofs.YtheiinclgfgneaaDoor.M Ieee
set_option linter.unusedSimpArgs false
set_option linter.unusedVariables false

set_option maxRecDepth 100000 in
set_option maxHeartbeats 2000000 in
theorem reachable_any {a b : Int} (pa : pok a = true) (pb : pok b = true) (w : World) (H : Hold4 w) :
    Calls Tryd.prog 24 #[.int .i64 a, .int .i64 b] w fun e w' => e = .returned (.bool (reach a b)) ∧ Below w.heap.size w w' := by
  have C1 := bitsPartsA a w H.lay
  have C2 : Hid (∀ W, Below w.heap.size w W → _) := fun W hb => bitsPartsA b W (H.keeps hb).lay
  have HT : Hid (∀ W, Below w.heap.size w W → b_Tab W) := fun W hb => (H.keeps hb).env.tab
  obtain ⟨a0, a1, a2, a3⟩ := pmag_in pa
  obtain ⟨b0, b1, b2, b3⟩ := pmag_in pb
  have Z1 : Hid (pmag a ≠ 0 → ∀ W, Below w.heap.size w W → Calls Tryd.prog 43 #[.int .i64 (pmag a)] W fun e w' => e = .returned (.int .i64 (jz (pmag a))) ∧ w' = W) := fun h W hb => zeros_any _ (by omega) (by omega) W (HT.out W hb)
  have Z2 : Hid (pmag b ≠ 0 → ∀ W, Below w.heap.size w W → Calls Tryd.prog 43 #[.int .i64 (pmag b)] W fun e w' => e = .returned (.int .i64 (jz (pmag b))) ∧ w' = W) := fun h W hb => zeros_any _ (by omega) (by omega) W (HT.out W hb)
  have z1 : pmag a ≠ 0 → jz (pmag a) < 63 := fun h => by obtain ⟨_, _, g, _⟩ := jz_spec (mag := pmag a) (by omega) (by omega); exact g
  have z2 : pmag b ≠ 0 → jz (pmag b) < 63 := fun h => by obtain ⟨_, _, g, _⟩ := jz_spec (mag := pmag b) (by omega) (by omega); exact g
  unfold reach
  clear HT H
  generalize jz (pmag a) = j at *
  generalize jz (pmag b) = k at *
  generalize pmag a = m at *
  generalize pmag b = n at *
  generalize pexp a = x at *
  generalize pexp b = y at *
  generalize pneg a = s at *
  generalize pneg b = t at *
  go_enter Tryd.func24, Tryd.ntmps24
  go_wp2_with fail
  refine C1.mono ?_
  rintro _ w1 ⟨rfl, g1⟩
  go_wp2_with fail
  refine (C2.out _ g1).mono ?_
  rintro _ w2 ⟨rfl, g2⟩
  have hb2 := bel_trans g1 g2
  clear C1 C2 g1 g2
  by_cases hm : m = 0
  · subst hm
    go_wp2
    all_goals go_ret
    all_goals exact ⟨by simp, hb2⟩
  · by_cases hn : n = 0
    · subst hn
      go_wp2
      all_goals go_ret
      all_goals exact ⟨by simp, hb2⟩
    · have Z1 := Z1.out hm w2 hb2
      have Z2 := Z2.out hn w2 hb2
      have j1 := z1 hm
      have k1 := z2 hn
      have u1 : IntKind.i64.wrap (x + (j : Int)) = x + j := by rw [wrap_i64_eq]; omega
      have u2 : IntKind.i64.wrap (x + (j : Int) + y) = x + j + y := by rw [wrap_i64_eq]; omega
      have u3 : IntKind.i64.wrap (x + (j : Int) + y + (k : Int)) = x + j + y + k := by rw [wrap_i64_eq]; omega
      by_cases hr : -1074 ≤ x + (j : Int) + y + (k : Int)
      · go_wp2_with (first | (go_at_call 43; first | (refine Z1.mono ?_; rintro _ _ ⟨rfl, rfl⟩) | (refine Z2.mono ?_; rintro _ _ ⟨rfl, rfl⟩)))
        all_goals go_ret
        all_goals exact ⟨by simp [hr], by first | exact hb2 | exact hb2.drew⟩
      · go_wp2_with (first | (go_at_call 43; first | (refine Z1.mono ?_; rintro _ _ ⟨rfl, rfl⟩) | (refine Z2.mono ?_; rintro _ _ ⟨rfl, rfl⟩)))
        all_goals go_ret
        all_goals exact ⟨by simp [hm, hn, hr], by first | exact hb2 | exact hb2.drew⟩
/-- What TwoProd tells as exact. -/
def pX (p q : Int) : Bool := pok (prL p q) && reach p q
set_option maxRecDepth 100000 in
set_option maxHeartbeats 2000000 in
theorem twoProd_any {a b : Int} (ha : M.rng a) (hb : M.rng b) (w : World) (H : Hold4 w) :
    Calls Tryd.prog 10 #[.int .i64 a, .int .i64 b] w fun e w' => e = .returned (.tuple #[.int .i64 (fprod (told a) (told b)), .int .i64 (prL (told a) (told b)), .bool (pX (told a) (told b))]) ∧ Below w.heap.size w w' := by
  have C1 := fun W => bitsFloat a W
  have C2 := fun W => bitsFloat b W
  have FA : Hid (FW (told a) (wd a)) := wd_told ha
  have FB : Hid (FW (told b) (wd b)) := wd_told hb
  have HH : Hid (Hold4 w) := H
  have TA : Hid (pok (told a) = true → told a = a) := told_fin
  have TB : Hid (pok (told b) = true → told b = b) := told_fin
  clear H
  generalize told a = p at *
  generalize told b = q at *
  generalize wd a = x at *
  generalize wd b = y at *
  obtain ⟨X, hX0⟩ : ∃ X, pX p q = X := ⟨_, rfl⟩
  have HX : Hid (pX p q = X) := hX0
  rw [hX0]
  clear hX0
  go_enter Tryd.func10, Tryd.ntmps10
  go_wp2_with fail
  refine (C1 _).mono ?_
  rintro _ _ ⟨rfl, rfl⟩
  go_wp2_with fail
  refine (C2 _).mono ?_
  rintro _ _ ⟨rfl, rfl⟩
  go_wp2_with fail
  refine (eprod_any FA.out FB.out _).mono ?_
  rintro _ w1 ⟨z, u, rfl, g1, g2, b1⟩
  have G1 : Hid (FW (fprod p q) z) := g1
  have G2 : Hid (FW (prL p q) u) := g2
  clear g1 g2 C1 C2
  go_wp2_with fail
  refine (etold_any G1.out G2.out _).mono ?_
  rintro _ w2 ⟨rfl, b2⟩
  have hb2 := bel_trans b1 b2
  have hp := FA.out.rng
  have hq := FB.out.rng
  cases hl : pok (prL p q)
  · have hx : X = false := by rw [← HX.out]; unfold pX; rw [hl]; rfl
    subst hx
    clear G1 G2 FA FB hp hq HX
    go_wp2
    all_goals refine bodyPost_ret (v := .tuple #[.int .i64 (fprod p q), .int .i64 (prL p q), .bool false]) (by simp [results, Tryd.results10, go_sem]) rfl ⟨rfl, hb2⟩
  · have hx : X = reach p q := by rw [← HX.out]; unfold pX; rw [hl]; rfl
    obtain ⟨⟨pQ, pS⟩, _⟩ := prL_args hp hq hl
    have pp := (spL_exact hp pQ).1
    have pq := (spL_exact hq pS).1
    have ea := TA.out pp
    have eb := TB.out pq
    have CR := reachable_any (a := p) (b := q) pp pq w2 (HH.out.keeps hb2)
    rw [← hx] at CR
    subst ea eb
    clear G1 G2 FA FB hp hq HX pQ pS pp pq hx TA TB
    go_wp2_with fail
    refine CR.mono ?_
    rintro _ w3 ⟨rfl, b3⟩
    go_wp2
    all_goals refine bodyPost_ret (v := .tuple #[.int .i64 (fprod p q), .int .i64 (prL p q), .bool X]) (by simp [results, Tryd.results10, go_sem]) rfl ⟨rfl, bel_trans hb2 b3⟩
theorem dvd_odd {s n : Nat} {t : Int} (h : (2 ^ n : Int) ∣ 2 ^ s * (2 * t + 1)) : n ≤ s := by
  rcases Nat.lt_or_ge s n with c | c
  · exfalso
    obtain ⟨d, rfl⟩ : ∃ d, n = s + 1 + d := ⟨n - s - 1, by omega⟩
    obtain ⟨e, he⟩ := h
    rw [Int.pow_add, p2s, show (2 : Int) * 2 ^ s * 2 ^ d * e = 2 ^ s * (2 * (2 ^ d * e)) by ac_rfl] at he
    have := Int.eq_of_mul_eq_mul_left (by have := p2 s; omega) he
    generalize (2 : Int) ^ d * e = f at this
    omega
  · exact c
theorem iV_form {p : Int} (hp : rng p) (h : pok p = true) : ((iV p).natAbs : Int) = pmag p * 2 ^ (pexp p + 1074).toNat := by
  have h0 := (pmag_in h).1
  rw [iV_abs, V_rg hp h, nat_two, Int.toNat_of_nonneg h0, Int.mul_comm]
theorem k_prod {a b x y X Y u v : Int} (hx : x = a * X) (hy : y = b * Y) (ha : a = u * v) : x * y = u * v * X * (b * Y) := by rw [hx, hy, ha]
theorem k_form {m : Nat} {mag : Int} {j e : Nat} (h : mag = 2 ^ j * (2 * m + 1)) : mag * 2 ^ e = 2 ^ (j + e) * (2 * (m : Int) + 1) := by
  rw [h, Int.pow_add, Int.mul_assoc, Int.mul_assoc, Int.mul_comm (2 * (m : Int) + 1)]
theorem k_form2 (i j : Nat) (a b : Int) : 2 ^ i * (2 * a + 1) * (2 ^ j * (2 * b + 1)) = 2 ^ (i + j) * (2 * (2 * a * b + a + b) + 1) := by
  have e : (2 * a + 1) * (2 * b + 1) = 2 * (2 * a * b + a + b) + 1 := by
    rw [Int.add_mul, Int.mul_add, Int.one_mul, Int.mul_one, Int.mul_add, Int.mul_add]
    have : 2 * a * (2 * b) = 2 * (2 * a * b) := by ac_rfl
    omega
  rw [← e, Int.pow_add]
  generalize 2 * a + 1 = A
  generalize 2 * b + 1 = B
  ac_rfl
theorem reach_iff {a b : Int} (ha : rng a) (hb : rng b) (pa : pok a = true) (pb : pok b = true) : reach a b = true ↔ ∃ T, 2 ^ 1074 * T = iV a * iV b := by
  have fa := iV_form ha pa
  have fb := iV_form hb pb
  obtain ⟨a0, a1, a2, a3⟩ := pmag_in pa
  obtain ⟨b0, b1, b2, b3⟩ := pmag_in pb
  unfold reach
  by_cases hm : pmag a = 0
  · rw [hm] at fa ⊢
    have : iV a = 0 := by rw [Int.zero_mul] at fa; omega
    rw [this]
    exact ⟨fun _ => ⟨0, by rw [Int.mul_zero, Int.zero_mul]⟩, fun _ => rfl⟩
  by_cases hn : pmag b = 0
  · rw [hn] at fb ⊢
    have : iV b = 0 := by rw [Int.zero_mul] at fb; omega
    rw [this]
    exact ⟨fun _ => ⟨0, by rw [Int.mul_zero, Int.mul_zero]⟩, fun _ => by simp⟩
  obtain ⟨m, m1, m2, _⟩ := jz_spec (mag := pmag a) (by omega) (by omega)
  obtain ⟨n, n1, n2, _⟩ := jz_spec (mag := pmag b) (by omega) (by omega)
  rw [decide_eq_false hm, decide_eq_false hn, Bool.false_or, Bool.false_or, decide_eq_true_iff]
  rw [k_form m1] at fa
  rw [k_form n1] at fb
  have hd : (∃ T, 2 ^ 1074 * T = iV a * iV b) ↔ (2 ^ 1074 : Int) ∣ ((iV a).natAbs : Int) * ((iV b).natAbs : Int) := by
    rw [← Int.natCast_mul, ← Int.natAbs_mul, Int.dvd_natAbs]
    exact ⟨fun ⟨T, h⟩ => ⟨T, h.symm⟩, fun ⟨T, h⟩ => ⟨T, h.symm⟩⟩
  rw [hd, fa, fb, k_form2]
  constructor
  · intro h
    exact Int.dvd_trans (p2dvd (by omega)) ⟨_, rfl⟩
  · intro h
    have := dvd_odd h
    omega
end Go.Proofs.YtheiinclgfgneaaDoor

/-
  Less of package bits by a contract.
-/
namespace Go.Proofs.YtheiinclgfgneaaDoor
open Go Go.RowKit Go.Proofs.YtheiinclgfgneaaDoor.M
set_option linter.unusedSimpArgs false
set_option linter.unusedVariables false

end Go.Proofs.YtheiinclgfgneaaDoor

/-
  plumblaw6: together, size, alive, by their contracts.
-/
namespace Go.Proofs.YtheiinclgfgneaaDoor
open Go Go.RowKit Go.Proofs.YtheiinclgfgneaaDoor.M Ieee
set_option linter.unusedSimpArgs false
set_option linter.unusedVariables false

theorem hold6_of {W : World} (h : laidMetH Tryd.prog [("math/bits.deBruijn32tab", Rows.laid_math_bits_deBruijn32tab), ("math/bits.deBruijn64tab", Rows.laid_math_bits_deBruijn64tab), ("plumb/bits.binary64", Rows.laid_plumb_bits_binary64)] W) : Hold4 W := by
  have k := hold_of h
  exact ⟨k.lay, k.tab, ⟨⟨k.lay.a0, k.lay.a1, k.lay.a2, trivial, trivial, trivial⟩, k.tab⟩⟩
theorem fin_pos {p : Int} (h0 : 0 ≤ p) (h1 : p < 9218868437227405312) : rng p ∧ pok p = true ∧ ¬ cls p = 4 ∧ rg p = p := by
  have e : p = patS false p := rfl
  obtain ⟨a, b, _⟩ := patS_parts (ng := false) h0 (by omega)
  rw [← e] at a b
  have hp : pok p = true := by rw [e, patS_fin h0 (by omega)]; exact decide_eq_true h1
  exact ⟨a, hp, (fin_cls a hp).1, b⟩
theorem abs_rg {b : Int} (h : ¬ cls b = 4) : M.abs b = rg b := by
  unfold M.abs rg
  rw [if_neg h]
theorem key_pos {p : Int} (h0 : 0 ≤ p) : key p = p := by unfold key; rw [if_neg (by omega)]
theorem size_less {b P : Int} (hb : rng b) (pb : pok b = true) (h0 : 0 ≤ P) (h1 : P < 9218868437227405312) : less (M.abs b) P = decide (rg b < P) := by
  have h4 := (fin_cls hb pb).1
  have g0 : 0 ≤ rg b ∧ rg b < 9218868437227405312 := rg_lt hb pb
  rw [abs_rg h4]
  obtain ⟨a1, a2, a3, _⟩ := fin_pos g0.1 g0.2
  obtain ⟨b1, b2, b3, _⟩ := fin_pos h0 h1
  unfold less
  rw [decide_eq_false a3, decide_eq_false b3, key_pos g0.1, key_pos h0]
  rfl
/-- Is a float finite, and below a pattern, its sign aside? -/
def szB (b P : Int) : Bool := pok b && decide (rg b < P)
end Go.Proofs.YtheiinclgfgneaaDoor

/-
  plumblaw6.alive, by its contract: the steps at its constants.
-/
namespace Go.Proofs.YtheiinclgfgneaaDoor
open Go Go.RowKit Go.Proofs.YtheiinclgfgneaaDoor.M Ieee
set_option linter.unusedSimpArgs false
set_option linter.unusedVariables false

theorem fw_c {p r : Int} {c : Nat} (h : FW p c) (hr : patW c = r) (hn : c % 9223372036854775808 ≤ 9218868437227405312) : p = r := by
  rcases h with ⟨_, hp, e⟩ | ⟨_, hN⟩
  · rw [← hr, e, patW_wd hp]
  · have := hN.2; omega
theorem fsum_c {p q r : Int} {x y c : Nat} (hp : FW p x) (hq : FW q y) (h : Ieee.double.add x y = some c) (hr : patW c = r) (hn : c % 9223372036854775808 ≤ 9218868437227405312) : fsum p q = r := by
  rcases add_FW hp hq with ⟨z, e, f⟩ | ⟨e, _⟩
  · rw [h] at e; cases e; exact fw_c f hr hn
  · rw [h] at e; cases e
theorem fprod_c {p q r : Int} {x y c : Nat} (hp : FW p x) (hq : FW q y) (h : Ieee.double.mul x y = some c) (hr : patW c = r) (hn : c % 9223372036854775808 ≤ 9218868437227405312) : fprod p q = r := by
  rcases mul_FW hp hq with ⟨z, e, f⟩ | ⟨e, _⟩
  · rw [h] at e; cases e; exact fw_c f hr hn
  · rw [h] at e; cases e
theorem ea_w0 : FW 4607182418800017408 4607182418800017408 := .inl ⟨by decide, by unfold rng; decide, by decide⟩
theorem ea_w1 : FW 4336966441157787648 4336966441157787648 := .inl ⟨by decide, by unfold rng; decide, by decide⟩
theorem ea_s1 : fsum 4607182418800017408 4336966441157787648 = 4607182418800017408 := fsum_c ea_w0 ea_w1 (c := 4607182418800017408) (by decide +kernel) (by decide) (by decide)
theorem ea_n4607182418800017408 : M.neg 4607182418800017408 = (-4616189618054758400) := by decide
theorem ea_w3 : FW (-4616189618054758400) 13830554455654793216 := .inl ⟨by decide, by unfold rng; decide, by decide⟩
theorem ea_s2 : fsum 4607182418800017408 (-4616189618054758400) = 0 := fsum_c ea_w0 ea_w3 (c := 0) (by decide +kernel) (by decide) (by decide)
theorem ea_n0 : M.neg 0 = (-9223372036854775808) := by decide
theorem ea_w5 : FW (-9223372036854775808) 9223372036854775808 := .inl ⟨by decide, by unfold rng; decide, by decide⟩
theorem ea_s3 : fsum 4607182418800017408 (-9223372036854775808) = 4607182418800017408 := fsum_c ea_w0 ea_w5 (c := 4607182418800017408) (by decide +kernel) (by decide) (by decide)
theorem ea_s4 : fsum 4607182418800017408 (-4616189618054758400) = 0 := fsum_c ea_w0 ea_w3 (c := 0) (by decide +kernel) (by decide) (by decide)
theorem ea_s5 : fsum 4336966441157787648 (-9223372036854775808) = 4336966441157787648 := fsum_c ea_w1 ea_w5 (c := 4336966441157787648) (by decide +kernel) (by decide) (by decide)
theorem ea_w6 : FW 0 0 := .inl ⟨by decide, by unfold rng; decide, by decide⟩
theorem ea_s6 : fsum 0 4336966441157787648 = 4336966441157787648 := fsum_c ea_w6 ea_w1 (c := 4336966441157787648) (by decide +kernel) (by decide) (by decide)
theorem ea_w7 : FW 4728779608772575232 4728779608772575232 := .inl ⟨by decide, by unfold rng; decide, by decide⟩
theorem ea_w8 : FW 4607182418800017409 4607182418800017409 := .inl ⟨by decide, by unfold rng; decide, by decide⟩
theorem ea_s7 : fprod 4728779608772575232 4607182418800017409 = 4728779608772575233 := fprod_c ea_w7 ea_w8 (c := 4728779608772575233) (by decide +kernel) (by decide) (by decide)
theorem ea_n4607182418800017409 : M.neg 4607182418800017409 = (-4616189618054758399) := by decide
theorem ea_w10 : FW 4728779608772575233 4728779608772575233 := .inl ⟨by decide, by unfold rng; decide, by decide⟩
theorem ea_w11 : FW (-4616189618054758399) 13830554455654793217 := .inl ⟨by decide, by unfold rng; decide, by decide⟩
theorem ea_s8 : fsum 4728779608772575233 (-4616189618054758399) = 4728779608739020801 := fsum_c ea_w10 ea_w11 (c := 4728779608739020801) (by decide +kernel) (by decide) (by decide)
theorem ea_n4728779608739020801 : M.neg 4728779608739020801 = (-4494592428115755007) := by decide
theorem ea_w13 : FW (-4494592428115755007) 13952151645593796609 := .inl ⟨by decide, by unfold rng; decide, by decide⟩
theorem ea_s9 : fsum 4728779608772575233 (-4494592428115755007) = 4607182418800017408 := fsum_c ea_w10 ea_w13 (c := 4607182418800017408) (by decide +kernel) (by decide) (by decide)
theorem ea_s10 : fsum 4607182418800017409 (-4616189618054758400) = 4372995238176751616 := fsum_c ea_w8 ea_w3 (c := 4372995238176751616) (by decide +kernel) (by decide) (by decide)
theorem ea_s11 : fprod 4607182418800017409 4607182418800017409 = 4607182418800017410 := fprod_c ea_w8 ea_w8 (c := 4607182418800017410) (by decide +kernel) (by decide) (by decide)
theorem ea_s12 : fprod 4607182418800017408 4607182418800017408 = 4607182418800017408 := fprod_c ea_w0 ea_w0 (c := 4607182418800017408) (by decide +kernel) (by decide) (by decide)
theorem ea_w14 : FW 4372995238176751616 4372995238176751616 := .inl ⟨by decide, by unfold rng; decide, by decide⟩
theorem ea_s13 : fprod 4372995238176751616 4607182418800017408 = 4372995238176751616 := fprod_c ea_w14 ea_w0 (c := 4372995238176751616) (by decide +kernel) (by decide) (by decide)
theorem ea_s14 : fprod 4607182418800017408 4372995238176751616 = 4372995238176751616 := fprod_c ea_w0 ea_w14 (c := 4372995238176751616) (by decide +kernel) (by decide) (by decide)
theorem ea_s15 : fprod 4372995238176751616 4372995238176751616 = 4138808057553485824 := fprod_c ea_w14 ea_w14 (c := 4138808057553485824) (by decide +kernel) (by decide) (by decide)
theorem ea_w15 : FW 4607182418800017410 4607182418800017410 := .inl ⟨by decide, by unfold rng; decide, by decide⟩
theorem ea_s16 : fsum 4607182418800017410 (-4616189618054758400) = 4377498837804122112 := fsum_c ea_w15 ea_w3 (c := 4377498837804122112) (by decide +kernel) (by decide) (by decide)
theorem ea_n4372995238176751616 : M.neg 4372995238176751616 = (-4850376798678024192) := by decide
theorem ea_w17 : FW 4377498837804122112 4377498837804122112 := .inl ⟨by decide, by unfold rng; decide, by decide⟩
theorem ea_w18 : FW (-4850376798678024192) 13596367275031527424 := .inl ⟨by decide, by unfold rng; decide, by decide⟩
theorem ea_s17 : fsum 4377498837804122112 (-4850376798678024192) = 4372995238176751616 := fsum_c ea_w17 ea_w18 (c := 4372995238176751616) (by decide +kernel) (by decide) (by decide)
theorem ea_s18 : fsum 4372995238176751616 (-4850376798678024192) = 0 := fsum_c ea_w14 ea_w18 (c := 0) (by decide +kernel) (by decide) (by decide)
theorem ea_w19 : FW 4138808057553485824 4138808057553485824 := .inl ⟨by decide, by unfold rng; decide, by decide⟩
theorem ea_s19 : fsum 4138808057553485824 (-9223372036854775808) = 4138808057553485824 := fsum_c ea_w19 ea_w5 (c := 4138808057553485824) (by decide +kernel) (by decide) (by decide)
theorem ea_sV : sV 4607182418800017408 4336966441157787648 = 0 := by unfold sV; simp only [ea_s1, ea_n4607182418800017408, ea_s2]
theorem ea_sL : sL 4607182418800017408 4336966441157787648 = 4336966441157787648 := by unfold sL; simp only [ea_sV, ea_s1, ea_n0, ea_s3, ea_n4607182418800017408, ea_s4, ea_s5, ea_s6]
theorem ea_cC : cC 4607182418800017409 = 4728779608772575233 := by unfold cC; simp only [ea_s7]
theorem ea_spH : spH 4607182418800017409 = 4607182418800017408 := by unfold spH; simp only [ea_cC, ea_n4607182418800017409, ea_s8, ea_n4728779608739020801, ea_s9]
theorem ea_spL : spL 4607182418800017409 = 4372995238176751616 := by unfold spL; simp only [ea_spH, ea_n4607182418800017408, ea_s10]
theorem ea_m : fprod 4607182418800017409 4607182418800017409 = 4607182418800017410 := ea_s11
theorem ea_T1 : pT1 4607182418800017409 4607182418800017409 = 4377498837804122112 := by unfold pT1; simp only [ea_spH, ea_s11, ea_s12, ea_n4607182418800017408, ea_s16]
theorem ea_T2 : pT2 4607182418800017409 4607182418800017409 = 4372995238176751616 := by unfold pT2; simp only [ea_T1, ea_spL, ea_spH, ea_s13, ea_n4372995238176751616, ea_s17]
theorem ea_T3 : pT3 4607182418800017409 4607182418800017409 = 0 := by unfold pT3; simp only [ea_T2, ea_spL, ea_spH, ea_s14, ea_n4372995238176751616, ea_s18]
theorem ea_prL : prL 4607182418800017409 4607182418800017409 = 4138808057553485824 := by unfold prL; simp only [ea_T3, ea_spL, ea_s15, ea_n0, ea_s19]
theorem ea_reach : pX 4607182418800017409 4607182418800017409 = true := by unfold pX; rw [ea_prL]; decide +kernel
theorem ea_told {p : Int} (h : ¬ cls p = 4) : told p = p := by unfold told; rw [if_neg h]
set_option maxRecDepth 100000 in
set_option maxHeartbeats 1000000 in
theorem alive6 (w : World) (H : Hold4 w) : Calls Tryd.prog 6 #[] w fun e w' => e = .returned (.bool true) ∧ Below w.heap.size w w' := by
  have C1 := twoSum_any (a := 4607182418800017408) (b := 4336966441157787648) (by unfold M.rng; decide) (by unfold M.rng; decide) w
  rw [ea_told (by decide), ea_told (by decide), ea_s1, ea_sL, show pok 4336966441157787648 = true by decide] at C1
  have C2 : Hid (∀ W, Below w.heap.size w W → Calls Tryd.prog 10 #[.int .i64 4607182418800017409, .int .i64 4607182418800017409] W fun e w' => e = .returned (.tuple #[.int .i64 4607182418800017410, .int .i64 4138808057553485824, .bool true]) ∧ Below W.heap.size W w') := fun W hB => by
    have := twoProd_any (a := 4607182418800017409) (b := 4607182418800017409) (by unfold M.rng; decide) (by unfold M.rng; decide) W (H.keeps hB)
    rw [ea_told (by decide), ea_m, ea_prL, ea_reach] at this
    exact this
  clear H
  go_enter Tryd.func6, Tryd.ntmps6
  go_wp2_with fail
  refine C1.mono ?_
  rintro _ w1 ⟨rfl, b1⟩
  clear C1
  go_wp2_with fail
  refine (C2.out _ b1).mono ?_
  rintro _ w2 ⟨rfl, b2⟩
  go_wp2
  all_goals go_ret
  all_goals exact ⟨rfl, bel_trans b1 b2⟩
end Go.Proofs.YtheiinclgfgneaaDoor

/-
  EftHonest: what the steps tell as exact, as the law asks for it.
-/
namespace Go.Proofs.YtheiinclgfgneaaDoor
open Go Go.RowKit Go.Proofs.YtheiinclgfgneaaDoor.M Ieee
set_option linter.unusedSimpArgs false
set_option linter.unusedVariables false

theorem class6 {b : Int} (w : World) (H : Hold4 w) : Calls Tryd.prog 54 #[.int .i64 b] w fun e w' => e = .returned (.int .i64 (cls b)) ∧ Below w.heap.size w w' := by
  refine (bitsClass b w H.env.lays).mono ?_
  rintro e w' ⟨h, g⟩
  exact ⟨h, g.be⟩
theorem cls_big {b : Int} (h : pok b = false) : 2 < cls b := by
  unfold pok at h; unfold cls; rw [if_pos (by simpa using h)]; split <;> decide
theorem cls_few {b : Int} (h : pok b = true) : ¬ 2 < cls b := by
  unfold pok at h; unfold cls; rw [if_neg (by simpa using h)]
  split
  · split <;> decide
  · decide
theorem told_rng {a : Int} (h : M.rng a) : M.rng (told a) := by
  unfold told; split
  · exact nan_rng
  · exact h
theorem told_ok {a : Int} (h : pok a = true) (ha : M.rng a) : told a = a := by
  unfold told; rw [if_neg (fin_cls ha h).1]
theorem told_pok {a : Int} (h : pok (told a) = true) : pok a = true := by
  rw [told_fin h] at h; exact h
/-- The answer of together. -/
def tgB (h l V : Int) : Bool := pok h && (pok l && decide (patV h + patV l = V))
theorem no_sum {a b : Int} (ha : M.rng a) (hb : M.rng b) (h : pok a = false ∨ pok b = false) : pok (sL (told a) (told b)) = false ∧ fX (told a) (told b) = false ∧ pX (told a) (told b) = false := by
  have key : pok (told a) = true ∧ pok (told b) = true → False := fun ⟨x, y⟩ => by
    have x := told_pok x
    have y := told_pok y
    rcases h with c | c
    · rw [x] at c; cases c
    · rw [y] at c; cases c
  have ra := told_rng ha
  have rb := told_rng hb
  refine ⟨?_, ?_, ?_⟩
  · cases g : pok (sL (told a) (told b))
    · rfl
    · exact (key (sL_exact ra rb g).1).elim
  · unfold fX
    cases g : pok (fL (told a) (told b))
    · rfl
    · exact (key (fL_args ra rb g).1).elim
  · unfold pX
    cases g : pok (prL (told a) (told b))
    · rfl
    · obtain ⟨⟨pQ, pS⟩, _⟩ := prL_args ra rb g
      exact (key ⟨(spL_exact ra pQ).1, (spL_exact rb pS).1⟩).elim
theorem k_eqS {a b c d q : Int} (hq : 0 < q) : decide (a * q + b * q = c * q + d * q) = decide (a + b = c + d) := by
  congr 1
  apply propext
  rw [← Int.add_mul, ← Int.add_mul]
  exact ⟨fun h => Int.eq_of_mul_eq_mul_right (Int.ne_of_gt hq) h, fun h => by rw [h]⟩
theorem sL_rng {p q : Int} (hp : M.rng p) (hq : M.rng q) : M.rng (sL p q) := by
  have rh := fsum_rng hp hq
  have rv : M.rng (sV p q) := fsum_rng rh (neg_rng hp)
  exact fsum_rng (fsum_rng hp (neg_rng (fsum_rng rh (neg_rng rv)))) (fsum_rng hq (neg_rng rv))
theorem fL_rng {p q : Int} (hp : M.rng p) (hq : M.rng q) : M.rng (fL p q) := fsum_rng hq (neg_rng (fsum_rng (fsum_rng hp hq) (neg_rng hp)))
theorem sp_rng {p : Int} (hp : M.rng p) : M.rng (spH p) ∧ M.rng (spL p) := by
  have rc : M.rng (cC p) := fprod_rng spl_rng hp
  have rd := fsum_rng rc (neg_rng hp)
  have rH : M.rng (spH p) := fsum_rng rc (neg_rng rd)
  exact ⟨rH, fsum_rng hp (neg_rng rH)⟩
theorem prL_rng {p q : Int} (hp : M.rng p) (hq : M.rng q) : M.rng (prL p q) := by
  obtain ⟨rP, rQ⟩ := sp_rng hp
  obtain ⟨rR, rS⟩ := sp_rng hq
  have rT1 : M.rng (pT1 p q) := fsum_rng (fprod_rng hp hq) (neg_rng (fprod_rng rP rR))
  have rT2 : M.rng (pT2 p q) := fsum_rng rT1 (neg_rng (fprod_rng rQ rR))
  have rT3 : M.rng (pT3 p q) := fsum_rng rT2 (neg_rng (fprod_rng rP rS))
  exact fsum_rng (fprod_rng rQ rS) (neg_rng rT3)
theorem hon_sum {a b : Int} (ha : M.rng a) (hb : M.rng b) (pa : pok a = true) (pb : pok b = true) : pok (sL a b) = tgB (fsum a b) (sL a b) (patV a + patV b) := by
  unfold tgB
  cases g : pok (sL a b)
  · simp
  · obtain ⟨_, ph, e⟩ := sL_exact ha hb g
    rw [ph, patV_iV (fsum_rng ha hb) ph, patV_iV (sL_rng ha hb) g, patV_iV ha pa, patV_iV hb pb, k_eqS (pw_pos _), decide_eq_true e]
    rfl
theorem hon_fast {a b : Int} (ha : M.rng a) (hb : M.rng b) (pa : pok a = true) (pb : pok b = true) : fX a b = tgB (fsum a b) (fL a b) (patV a + patV b) := by
  unfold tgB
  cases g : pok (fL a b)
  · unfold fX; rw [g]; simp
  · obtain ⟨_, ph⟩ := fL_args ha hb g
    rw [fX_iff ha hb g, ph, patV_iV (fsum_rng ha hb) ph, patV_iV (fL_rng ha hb) g, patV_iV ha pa, patV_iV hb pb, k_eqS (pw_pos _)]
    rfl
theorem k_prodE {x y m l C u Z k w : Int} (hZ : 0 < Z) (hu : 0 < u) (e2 : w * w = u * Z) (e3 : w = u * k) (hC : C * Z = x * w * (y * w)) : (m * w + l * w = C) ↔ (k * (m + l) = x * y) := by
  have h1 : C = x * y * u := by
    have : x * w * (y * w) = x * y * u * Z := by
      rw [show x * w * (y * w) = x * y * (w * w) by ac_rfl, e2]; ac_rfl
    rw [this] at hC
    exact Int.eq_of_mul_eq_mul_right (Int.ne_of_gt hZ) hC
  rw [h1, e3, ← Int.add_mul, show (m + l) * (u * k) = k * (m + l) * u by ac_rfl]
  exact ⟨fun h => Int.eq_of_mul_eq_mul_right (Int.ne_of_gt hu) h, fun h => by rw [h]⟩
theorem hon_prod {a b C : Int} (ha : M.rng a) (hb : M.rng b) (pa : pok a = true) (pb : pok b = true) (hC : C * 2 ^ 4194304 = patV a * patV b) : pX a b = tgB (fprod a b) (prL a b) C := by
  unfold tgB pX
  cases g : pok (prL a b)
  · simp
  · have ph := (prL_args ha hb g).2.1
    have e2 := pw_mul (a := -1074) (b := -1074) (by decide) (by decide)
    rw [show (-1074 + -1074 : Int) = -2148 by decide] at e2
    have e3 := pw_add (e := -2148) (by decide) 1074
    rw [show (-2148 + ((1074 : Nat) : Int)) = -1074 by decide] at e3
    rw [patV_iV ha pa, patV_iV hb pb] at hC
    rw [ph, patV_iV (fprod_rng ha hb) ph, patV_iV (prL_rng ha hb) g, Bool.true_and, Bool.true_and, Bool.true_and]
    have hk := k_prodE (m := iV (fprod a b)) (l := iV (prL a b)) (two_pos 4194304) (pw_pos (-2148)) e2 e3 hC
    have hr := reach_iff ha hb pa pb
    cases r : reach a b
    · refine (decide_eq_false fun c => ?_).symm
      rw [hr.2 ⟨_, hk.1 c⟩] at r
      cases r
    · refine (decide_eq_true (hk.2 ?_)).symm
      obtain ⟨T, hT⟩ := hr.1 r
      rw [(prL_exact ha hb g hT).2.2]
      exact hT
end Go.Proofs.YtheiinclgfgneaaDoor

/-
  Package plumbref6: sum, diff, prod, finite, just, by their contracts.
-/
namespace Go.Proofs.YtheiinclgfgneaaDoor
open Go Go.RowKit Go.Proofs.YtheiinclgfgneaaDoor.M
set_option linter.unusedSimpArgs false
set_option linter.unusedVariables false

set_option maxRecDepth 100000 in
theorem r6sum_any (a b : Int) (ha : rng a) (hb : rng b) (w : World) :
    Calls Tryd.prog 25 #[.int .i64 a, .int .i64 b] w fun x w' => x = .returned (.int .i64 (fsum a b)) ∧ Below w.heap.size w w' := by
  have C2 := fun W => rSum_any a b ha hb W
  generalize fsum a b = r at *
  go_enter Tryd.func25, Tryd.ntmps25
  go_wp2_with fail
  refine (C2 _).mono ?_
  rintro _ w2 ⟨rfl, hb2⟩
  go_wp2
  go_ret
  exact ⟨rfl, hb2⟩
set_option maxRecDepth 100000 in
theorem r6diff_any (a b : Int) (ha : rng a) (hb : rng b) (w : World) :
    Calls Tryd.prog 26 #[.int .i64 a, .int .i64 b] w fun x w' => x = .returned (.int .i64 (fsum a (neg b))) ∧ Below w.heap.size w w' := by
  have C2 := fun W => rDiff_any a b ha hb W
  generalize fsum a (neg b) = r at *
  go_enter Tryd.func26, Tryd.ntmps26
  go_wp2_with fail
  refine (C2 _).mono ?_
  rintro _ w2 ⟨rfl, hb2⟩
  go_wp2
  go_ret
  exact ⟨rfl, hb2⟩
set_option maxRecDepth 100000 in
theorem r6prod_any (a b : Int) (ha : rng a) (hb : rng b) (w : World) :
    Calls Tryd.prog 35 #[.int .i64 a, .int .i64 b] w fun x w' => x = .returned (.int .i64 (fprod a b)) ∧ Below w.heap.size w w' := by
  have C2 := fun W => rProd_any a b ha hb W
  generalize fprod a b = r at *
  go_enter Tryd.func35, Tryd.ntmps35
  go_wp2_with fail
  refine (C2 _).mono ?_
  rintro _ w2 ⟨rfl, hb2⟩
  go_wp2
  go_ret
  exact ⟨rfl, hb2⟩
set_option maxRecDepth 100000 in
theorem r6finite_any (a b : Int) (ha : rng a) (hb : rng b) (w : World) :
    Calls Tryd.prog 27 #[.int .i64 a, .int .i64 b] w fun x w' => x = .returned (.bool (pok a && pok b)) ∧ w' = w := by
  have C1 := fun W => rfinite_any a W ha
  have C2 := fun W => rfinite_any b W hb
  generalize pok a = x at *
  generalize pok b = y at *
  cases x
  · go_enter Tryd.func27, Tryd.ntmps27
    go_wp2_with fail
    refine (C1 _).mono ?_
    rintro _ _ ⟨rfl, rfl⟩
    go_wp2
    go_ret
    exact ⟨rfl, rfl⟩
  · go_enter Tryd.func27, Tryd.ntmps27
    go_wp2_with fail
    refine (C1 _).mono ?_
    rintro _ _ ⟨rfl, rfl⟩
    go_wp2_with fail
    refine (C2 _).mono ?_
    rintro _ _ ⟨rfl, rfl⟩
    go_wp2
    go_ret
    exact ⟨ret_bool (by simp), rfl⟩
set_option maxRecDepth 100000 in
set_option maxHeartbeats 1000000 in
theorem r6just_any (h l : Int) (rh : rng h) (rl : rng l) {V : Int} {g : Bool} {so : Option Addr} {sn sc : Nat} {e : Int} (w : World) (hx : DNum w (.agg #[.bool g, .slice so sn sc, .int .i64 e]) V) :
    Calls Tryd.prog 28 #[.int .i64 h, .int .i64 l, .agg #[.bool g, .slice so sn sc, .int .i64 e]] w fun x w' => x = .returned (.bool (tgB h l V)) ∧ Below w.heap.size w w' := by
  have C1 := fun W => rfinite_any h W rh
  have C2 := fun W => rfinite_any l W rl
  have hba := bel_alloc w (.cells #[.bool g, .slice so sn sc, .int .i64 e] 40)
  have q0 := heap_a1 w (.cells #[.bool g, .slice so sn sc, .int .i64 e] 40)
  have k0 := blkC q0 0 rfl
  have k1 := blkC q0 1 rfl
  have k2 := blkC q0 2 rfl
  unfold tgB
  by_cases ph : pok h = true
  · by_cases pl : pok l = true
    · have O1 := fun W => rof_any h W rh ph
      have O2 := fun W => rof_any l W rl pl
      have e1 : sg (pneg h) (pmag h) * pw (pexp h) = patV h := rfl
      have e2 : sg (pneg l) (pmag l) * pw (pexp l) = patV l := rfl
      rw [e1] at O1
      rw [e2] at O2
      have b1 := (patV_bd ph).up (show 4000 ≤ 9000 by decide) (by decide)
      have b2 := (patV_bd pl).up (show 4000 ≤ 9000 by decide) (by decide)
      rw [ph] at C1 ⊢
      rw [pl] at C2 ⊢
      rw [Bool.true_and, Bool.true_and]
      generalize patV h = Vh at *
      generalize patV l = Vl at *
      clear e1 e2 ph pl
      go_enter Tryd.func28, Tryd.ntmps28
      go_wp2_with fail
      refine (C1 _).mono ?_
      rintro _ _ ⟨rfl, rfl⟩
      go_wp2_with fail
      refine (C2 _).mono ?_
      rintro _ _ ⟨rfl, rfl⟩
      go_wp2_with fail
      have HX : Hid (DNum (w.alloc (.cells #[.bool g, .slice so sn sc, .int .i64 e] 40)) (.agg #[.bool g, .slice so sn sc, .int .i64 e]) V) := hx.keeps hba
      clear hx q0 C1 C2
      have kk : (w.alloc (.cells #[.bool g, .slice so sn sc, .int .i64 e] 40)).cell? ⟨w.heap.size, 0, none⟩ = some (.bool g) ∧ (w.alloc (.cells #[.bool g, .slice so sn sc, .int .i64 e] 40)).cell? ⟨w.heap.size, 1, none⟩ = some (.slice so sn sc) ∧ (w.alloc (.cells #[.bool g, .slice so sn sc, .int .i64 e] 40)).cell? ⟨w.heap.size, 2, none⟩ = some (.int .i64 e) := ⟨k0, k1, k2⟩
      clear k0 k1 k2
      generalize w.alloc (.cells #[.bool g, .slice so sn sc, .int .i64 e] 40) = wx at hba HX kk ⊢
      have hdr : Below wx.heap.size wx wx.drew := (bel_refl wx).drew
      have kd := keepB kk hdr
      go_region_held3 (fun W => W.cell? ⟨w.heap.size, 0, none⟩ = some (.bool g) ∧ W.cell? ⟨w.heap.size, 1, none⟩ = some (.slice so sn sc) ∧ W.cell? ⟨w.heap.size, 2, none⟩ = some (.int .i64 e))
        (first | assumption | exact kk | exact kd)
        (first
          | (go_at_call 46; refine (rsame3_D hv3 (HX.out.keeps (bel_trans hdr (bel_trans hb1 (bel_trans hb2 hb3))))).mono ?_; rintro _ w4 ⟨rfl, hb4⟩; have kk4 := keepB kk3 hb4)
          | (go_at_call 29; refine (radd_D (hv1.num.keeps hb2) hv2.num (show 9000 ≤ 560000 by decide) b1 b2).mono ?_; rintro _ w3 ⟨v3, rfl, hs3⟩; obtain ⟨hv3, hb3⟩ := hs3.both (hv1.num.keeps hb2) hv2.num; have kk3 := keepB kk2 hb3)
          | (go_at_call 30; have _t := hv1; refine (O2 _).mono ?_; rintro _ w2 ⟨v2, rfl, hv2⟩; have hb2 := hv2.below; have kk2 := keepB kk1 hb2)
          | (go_at_call 30; refine (O1 _).mono ?_; rintro _ w1 ⟨v1, rfl, hv1⟩; have hb1 := hv1.below; have kk1 := keepB kd hb1))
      all_goals go_wp2
      all_goals go_ret
      all_goals exact ⟨rfl, bel_trans hba (bel_trans hdr (bel_trans hb1 (bel_trans hb2 (bel_trans hb3 hb4))))⟩
    · have pl2 : pok l = false := by simpa using pl
      rw [ph] at C1 ⊢
      rw [pl2] at C2 ⊢
      rw [Bool.true_and, Bool.false_and]
      go_enter Tryd.func28, Tryd.ntmps28
      go_wp2_with fail
      refine (C1 _).mono ?_
      rintro _ _ ⟨rfl, rfl⟩
      go_wp2_with fail
      refine (C2 _).mono ?_
      rintro _ _ ⟨rfl, rfl⟩
      go_wp2
      go_ret
      exact ⟨rfl, hba⟩
  · have ph2 : pok h = false := by simpa using ph
    rw [ph2] at C1 ⊢
    rw [Bool.false_and]
    go_enter Tryd.func28, Tryd.ntmps28
    go_wp2_with fail
    refine (C1 _).mono ?_
    rintro _ _ ⟨rfl, rfl⟩
    go_wp2
    go_ret
    exact ⟨rfl, hba⟩
end Go.Proofs.YtheiinclgfgneaaDoor
