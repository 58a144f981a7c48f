/-
  Plain mathematics: expansions times a float are expansions (Shewchuk), of the exact product.
-/
import Derived.Test.YtcpjdgfnblkfpaaGreatDoorXSb
namespace Go.Proofs.YtcpjdgfnblkfpaaGreatDoor
open Go Go.RowKit Go.Proofs.YtcpjdgfnblkfpaaGreatDoor.M
set_option linter.unusedSimpArgs false
set_option linter.unusedVariables false

/-- Exact products, in units of the least float. -/
def PTs (d T : Nat → Int) (b : Int) (n : Nat) : Prop := ∀ j, j < n → 2 ^ 1074 * T j = iV (d j) * iV b
def tsm (T : Nat → Int) : Nat → Int
  | 0 => 0
  | k + 1 => tsm T k + T k
theorem tsm_succ (T : Nat → Int) (k : Nat) : tsm T (k + 1) = tsm T k + T k := rfl
theorem tsm_prod {d T : Nat → Int} {b : Int} {n : Nat} (h : PTs d T b n) : ∀ k, k ≤ n → 2 ^ 1074 * tsm T k = lsm d k * iV b
  | 0, _ => by show 2 ^ 1074 * (0 : Int) = 0 * iV b; rw [Int.mul_zero, Int.zero_mul]
  | k + 1, hk => by rw [tsm_succ, lsm_succ, Int.mul_add, Int.add_mul, tsm_prod h k (by omega), h k (by omega)]
theorem dvd_units {t B : Nat} {x b T : Int} (hx : (2 ^ t : Int) ∣ x) (hb : (2 ^ B : Int) ∣ b) (hT : 2 ^ 1074 * T = x * b) : (2 ^ (t + B - 1074) : Int) ∣ T := by
  by_cases h : t + B ≤ 1074
  · rw [Nat.sub_eq_zero_of_le h, Int.pow_zero]; exact Int.one_dvd _
  · obtain ⟨a, ha⟩ := hx
    obtain ⟨c, hc⟩ := hb
    refine ⟨a * c, ?_⟩
    have e : (2 : Int) ^ 1074 * T = 2 ^ 1074 * (2 ^ (t + B - 1074) * (a * c)) := by
      rw [hT, ha, hc, ← Int.mul_assoc (2 ^ 1074), ← Int.pow_add, show 1074 + (t + B - 1074) = t + B by omega, Int.pow_add]
      generalize (2 : Int) ^ t = X
      generalize (2 : Int) ^ B = Y
      grind
    exact Int.eq_of_mul_eq_mul_left (Int.ne_of_gt (p2 1074)) e
theorem fl_top {b : Int} {B : Nat} (h1 : (2 ^ B : Int) ∣ b) (h2 : (b.natAbs : Int) < 9007199254740992 * 2 ^ B) : (b.natAbs : Int) ≤ 9007199254740991 * 2 ^ B := by
  have h3 := mult_lt (u := 0) h1 (⟨9007199254740992, by rw [Int.mul_comm]⟩ : (2 ^ B : Int) ∣ 9007199254740992 * 2 ^ B) h2
  generalize (2 : Int) ^ B = Y at *
  omega
theorem k_prod2 {A C X Y M : Int} (hA : 0 ≤ A) (hC : 0 ≤ C) (h1 : A ≤ X - 1) (h2 : C ≤ M * Y) (hM : 0 < M) (hY : 0 < Y) : A * C < X * Y * M := by
  have e1 : A * C ≤ (X - 1) * C := Int.mul_le_mul_of_nonneg_right h1 hC
  have e2 : (X - 1) * C ≤ (X - 1) * (M * Y) := Int.mul_le_mul_of_nonneg_left h2 (by omega)
  have e3 : 0 < M * Y := Int.mul_pos hM hY
  have e4 : (X - 1) * (M * Y) = X * Y * M - M * Y := by grind
  omega
/-- A product with a float, of what is less than 2^t. -/
theorem prod_lt {t B : Nat} {x b T : Int} (hx : (x.natAbs : Int) < 2 ^ t) (h1 : (2 ^ B : Int) ∣ b) (h2 : (b.natAbs : Int) < 9007199254740992 * 2 ^ B) (hT : 2 ^ 1074 * T = x * b) : (T.natAbs : Int) < 9007199254740991 * 2 ^ (t + B - 1074) := by
  have h3 := fl_top h1 h2
  have e1 : ((2 ^ 1074 * T).natAbs : Int) = 2 ^ 1074 * (T.natAbs : Int) := natAbs_p2 1074 T
  have e2 : ((x * b).natAbs : Int) = (x.natAbs : Int) * (b.natAbs : Int) := by rw [Int.natAbs_mul, Int.natCast_mul]
  have e3 := k_prod2 (A := (x.natAbs : Int)) (C := (b.natAbs : Int)) (X := 2 ^ t) (Y := 2 ^ B) (M := 9007199254740991) (by omega) (by omega) (by omega) h3 (by decide) (p2 B)
  rw [← e2, ← hT, e1, ← Int.pow_add] at e3
  have e4 : (2 : Int) ^ (t + B) ≤ 2 ^ (1074 + (t + B - 1074)) := p2le (by omega)
  rw [Int.pow_add 2 1074] at e4
  have e5 : (2 : Int) ^ (t + B) * 9007199254740991 ≤ 2 ^ 1074 * 2 ^ (t + B - 1074) * 9007199254740991 := Int.mul_le_mul_of_nonneg_right e4 (by decide)
  have e6 : (2 : Int) ^ 1074 * (T.natAbs : Int) < 2 ^ 1074 * (9007199254740991 * 2 ^ (t + B - 1074)) := by
    refine Int.lt_of_lt_of_le e3 (Int.le_trans e5 ?_)
    rw [Int.mul_assoc, Int.mul_comm (2 ^ (t + B - 1074)) 9007199254740991]
    exact Int.le_refl _
  exact Int.lt_of_mul_lt_mul_left e6 (Int.le_of_lt (p2 1074))
theorem add_all {L : Ls} {l : Int} (P : Int → Prop) (h : ∀ i, i < L.n → P (L.d i)) (hl : rg l ≠ 0 → P l) : ∀ i, i < (L.add l).n → P ((L.add l).d i) := by
  intro i
  unfold Ls.add
  split
  · exact h i
  · rename_i hz
    intro hi
    have hi' : i < L.n + 1 := hi
    show P (upd L.d L.n l i)
    by_cases e : i = L.n
    · subst e; rw [upd_same]; exact hl hz
    · rw [upd_other _ _ e]; exact h i (by omega)
theorem lsm_all {d : Nat → Int} {n t : Nat} (h : XV d n) (ht : ∀ i, i < n → ((iV (d i)).natAbs : Int) < 2 ^ t) : ((lsm d n).natAbs : Int) < 2 ^ t := by
  cases n with
  | zero => have := p2 t; show (((0 : Int).natAbs : Nat) : Int) < _; omega
  | succ n => exact lsm_lt h t (ht n (by omega))
/-- Where Scale stands behind the float k: the list, and what was gathered. -/
structure SI (d T : Nat → Int) (B N k : Nat) (L : Ls) (q : Int) : Prop where
  xv : XV L.d L.n
  sum : lsm L.d L.n + iV q = tsm T (k + 1)
  up : ∀ i, i < L.n → ∃ s : Nat, ((iV (L.d i)).natAbs : Int) < 2 ^ s ∧ (2 ^ s : Int) ∣ iV q ∧ ∀ j, k < j → j ≤ N → (2 ^ s : Int) ∣ T j
  small : ∀ t : Nat, ((iV (d k)).natAbs : Int) < 2 ^ t → ∀ i, i < L.n → ((iV (L.d i)).natAbs : Int) < 2 ^ (t + B - 1074)
/-- Above a float: what all later ones are multiples of. -/
theorem xv_next {d T : Nat → Int} {b : Int} {B N k : Nat} (hd : XV d (N + 1)) (hB1 : (2 ^ B : Int) ∣ iV b) (hT : PTs d T b (N + 1)) (hk : k ≤ N) : ∃ t : Nat, ((iV (d k)).natAbs : Int) < 2 ^ t ∧ ∀ j, k < j → j ≤ N → (2 ^ (t + B - 1074) : Int) ∣ T j := by
  by_cases h : k < N
  · obtain ⟨t, k1, k2⟩ := hd.lo k (by omega)
    refine ⟨t, k1, fun j hj hjn => dvd_units ?_ hB1 (hT j (by omega))⟩
    by_cases e : j = k + 1
    · subst e; exact k2
    · obtain ⟨t2, m1, m2⟩ := hd.far (show k + 1 < j by omega) (by omega)
      have h4 := dvd_abs_le k2 (hd.ne (by omega)) (p2 t)
      have h5 : t < t2 := p2lt (Int.lt_of_le_of_lt h4 m1)
      exact Int.dvd_trans (p2dvd (by omega)) m2
  · refine ⟨(iV (d k)).natAbs, ?_, fun j hj hjn => by omega⟩
    have : (iV (d k)).natAbs < 2 ^ (iV (d k)).natAbs := Nat.lt_two_pow_self
    have h2 : (((iV (d k)).natAbs : Nat) : Int) < ((2 ^ (iV (d k)).natAbs : Nat) : Int) := by omega
    rwa [k_pow] at h2
theorem half_lt {x : Int} {g : Nat} (h : 2 * (x.natAbs : Int) ≤ 2 ^ g) : (x.natAbs : Int) < 2 ^ g := by
  have := p2 g
  omega
/-- The float nearest to a product, and what it lost. -/
theorem prod_facts {x b T : Int} (rx : rng x) (rb : rng b) (hx : pX x b = true) (hT : 2 ^ 1074 * T = iV x * iV b) : pok (fprod x b) = true ∧ pok (prL x b) = true ∧ iV (fprod x b) + iV (prL x b) = T ∧ Nr T (iV (fprod x b)) := by
  unfold pX at hx
  rw [Bool.and_eq_true] at hx
  obtain ⟨⟨px, pb⟩, pf, e⟩ := prL_exact rx rb hx.1 hT
  exact ⟨pf, hx.1, e, (stp_prod rx rb px pb hT).nr pf⟩
theorem si_zero {d T : Nat → Int} {b : Int} {B N : Nat} (hd : XV d (N + 1)) (rb : rng b) (hB1 : (2 ^ B : Int) ∣ iV b) (hB2 : ((iV b).natAbs : Int) < 9007199254740992 * 2 ^ B) (hT : PTs d T b (N + 1)) (hx : pX (d 0) b = true) : SI d T B N 0 ((⟨0, fun _ => 0⟩ : Ls).add (prL (d 0) b)) (fprod (d 0) b) := by
  obtain ⟨r0, p0, z0⟩ := hd.fin 0 (by omega)
  obtain ⟨pf, pl, e, nr⟩ := prod_facts r0 rb hx (hT 0 (by omega))
  have rl := prL_rng r0 rb
  have small : ∀ t : Nat, ((iV (d 0)).natAbs : Int) < 2 ^ t → ((iV (prL (d 0) b)).natAbs : Int) < 2 ^ (t + B - 1074) := fun t ht => by
    have h1 := prod_lt ht hB1 hB2 (hT 0 (by omega))
    have h2 := nr_err nr (i := t + B - 1074) (by have := p2 (t + B - 1074); omega)
    have h3 : iV (prL (d 0) b) = T 0 - iV (fprod (d 0) b) := by omega
    refine half_lt ?_
    rw [h3]
    omega
  refine ⟨XV.add ⟨fun i hi => absurd hi (Nat.not_lt_zero _), fun i hi => absurd hi (Nat.not_lt_zero _)⟩ rl pl (fun i hi => absurd hi (Nat.not_lt_zero _)), ?_, ?_, fun t ht => add_all (fun x => ((iV x).natAbs : Int) < 2 ^ (t + B - 1074)) (fun i hi => absurd hi (Nat.not_lt_zero _)) fun _ => small t ht⟩
  · rw [lsm_add rl, tsm_succ]
    show (0 : Int) + _ + _ = 0 + _
    omega
  · refine add_all (fun x => ∃ s : Nat, ((iV x).natAbs : Int) < 2 ^ s ∧ (2 ^ s : Int) ∣ iV (fprod (d 0) b) ∧ ∀ j, 0 < j → j ≤ N → (2 ^ s : Int) ∣ T j) (fun i hi => absurd hi (Nat.not_lt_zero _)) fun hz => ?_
    have hne := (iV_some rl pl hz).1
    obtain ⟨u, h1, h2⟩ := nr_unit nr (fun c => hne (by omega))
    obtain ⟨t, k1, k2⟩ := xv_next hd hB1 hT (k := 0) (by omega)
    have h3 := small t k1
    have h4 : iV (prL (d 0) b) = T 0 - iV (fprod (d 0) b) := by omega
    rw [← h4] at h2
    by_cases hut : u ≤ t + B - 1074
    · exact ⟨u, h2, h1, fun j hj hjn => Int.dvd_trans (p2dvd hut) (k2 j hj hjn)⟩
    · exact ⟨t + B - 1074, h3, Int.dvd_trans (p2dvd (by omega)) h1, k2⟩
theorem si_step {d T : Nat → Int} {b : Int} {B N k : Nat} (hd : XV d (N + 1)) (rb : rng b) (hB1 : (2 ^ B : Int) ∣ iV b) (hB2 : ((iV b).natAbs : Int) < 9007199254740992 * 2 ^ B) (hT : PTs d T b (N + 1)) (hk : k < N) {L : Ls} {q : Int} (rq : rng q) (pq : pok q = true) (h : SI d T B N k L q)
    (hx1 : pX (d (k + 1)) b = true) (hx2 : pok (sL q (prL (d (k + 1)) b)) = true) (hx3 : fX (fprod (d (k + 1)) b) (fsum q (prL (d (k + 1)) b)) = true) :
    SI d T B N (k + 1) ((L.add (sL q (prL (d (k + 1)) b))).add (fL (fprod (d (k + 1)) b) (fsum q (prL (d (k + 1)) b)))) (fsum (fprod (d (k + 1)) b) (fsum q (prL (d (k + 1)) b))) := by
  obtain ⟨rx, px, zx⟩ := hd.fin (k + 1) (by omega)
  have xne := hd.ne (show k + 1 < N + 1 by omega)
  have hTk := hT (k + 1) (by omega)
  obtain ⟨pT, pu, eT, nT⟩ := prod_facts rx rb hx1 hTk
  have ru := prL_rng rx rb
  have rT := fprod_rng rx rb
  have n1 := fsum_nr rq ru hx2
  obtain ⟨_, p1, e1⟩ := sL_exact rq ru hx2
  have r1 := fsum_rng rq ru
  have rl1 : rng (sL q (prL (d (k + 1)) b)) := sL_rng rq ru
  obtain ⟨p2', pl2⟩ := fX_fin rT r1 hx3
  have e2 : iV (fsum (fprod (d (k + 1)) b) (fsum q (prL (d (k + 1)) b))) + iV (fL (fprod (d (k + 1)) b) (fsum q (prL (d (k + 1)) b))) = iV (fprod (d (k + 1)) b) + iV (fsum q (prL (d (k + 1)) b)) := by
    have := fX_iff rT r1 pl2
    rw [hx3] at this
    exact of_decide_eq_true this.symm
  have n2 := (stp_sum rT r1 pT p1).nr p2'
  have rl2 : rng (fL (fprod (d (k + 1)) b) (fsum q (prL (d (k + 1)) b))) := fL_rng rT r1
  obtain ⟨hxv, hsum, hup, hsmall⟩ := h
  have hl1 := nr_loss (fl_iV q) n1
  generalize fL (fprod (d (k + 1)) b) (fsum q (prL (d (k + 1)) b)) = l2 at *
  generalize fsum (fprod (d (k + 1)) b) (fsum q (prL (d (k + 1)) b)) = q2 at *
  generalize sL q (prL (d (k + 1)) b) = l1 at *
  generalize fsum q (prL (d (k + 1)) b) = q1 at *
  generalize prL (d (k + 1)) b = u at *
  generalize fprod (d (k + 1)) b = Tp at *
  have eu : iV u = T (k + 1) - iV Tp := by omega
  have el1 : iV l1 = iV q + iV u - iV q1 := by omega
  have el2 : iV l2 = iV Tp + iV q1 - iV q2 := by omega
  rw [← el1] at hl1
  have hold : ∀ i, i < L.n → ∃ s : Nat, ((iV (L.d i)).natAbs : Int) < 2 ^ s ∧ (2 ^ s : Int) ∣ iV l1 ∧ (2 ^ s : Int) ∣ iV l2 ∧ (2 ^ s : Int) ∣ iV q2 ∧ ∀ j, k + 1 < j → j ≤ N → (2 ^ s : Int) ∣ T j := fun i hi => by
    obtain ⟨s, h1, h2, h3⟩ := hup i hi
    have d1 := h3 (k + 1) (by omega) (by omega)
    have d2 := nr_dvd nT d1
    have d3 : (2 ^ s : Int) ∣ iV u := by rw [eu]; exact Int.dvd_sub d1 d2
    have d4 : (2 ^ s : Int) ∣ iV q + iV u := Int.dvd_add h2 d3
    have d5 := nr_dvd n1 d4
    have d6 : (2 ^ s : Int) ∣ iV Tp + iV q1 := Int.dvd_add d2 d5
    have d7 := nr_dvd n2 d6
    exact ⟨s, h1, by rw [el1]; exact Int.dvd_sub d4 d5, by rw [el2]; exact Int.dvd_sub d6 d7, d7, fun j hj hjn => h3 j (by omega) hjn⟩
  have hxv1 : XV (L.add l1).d (L.add l1).n := hxv.add rl1 hx2 fun i hi => by
    obtain ⟨s, h1, h2, _⟩ := hold i hi
    exact ⟨s, h1, h2⟩
  have hu : ∀ t : Nat, ((iV (d (k + 1))).natAbs : Int) < 2 ^ t → 2 * ((iV u).natAbs : Int) ≤ 2 ^ (t + B - 1074) := fun t ht => by
    have h1 := prod_lt ht hB1 hB2 hTk
    have h2 := nr_err nT (i := t + B - 1074) (by have := p2 (t + B - 1074); omega)
    rw [eu]
    omega
  have hs1 : ∀ t : Nat, ((iV (d (k + 1))).natAbs : Int) < 2 ^ t → ∀ i, i < (L.add l1).n → ((iV ((L.add l1).d i)).natAbs : Int) < 2 ^ (t + B - 1074) := fun t ht => by
    refine add_all (fun x => ((iV x).natAbs : Int) < 2 ^ (t + B - 1074)) (fun i hi => ?_) fun _ => ?_
    · obtain ⟨t0, k1, k2⟩ := hd.lo k (by omega)
      have h1 := hsmall t0 k1 i hi
      have h2 := dvd_abs_le k2 xne (p2 t0)
      have h3 : t0 < t := p2lt (Int.lt_of_le_of_lt h2 ht)
      exact Int.lt_of_lt_of_le h1 (p2le (by omega))
    · have := half_lt (hu t ht)
      omega
  have hl2 : ∀ t : Nat, ((iV (d (k + 1))).natAbs : Int) < 2 ^ t → ((iV l2).natAbs : Int) < 2 ^ (t + B - 1074) := fun t ht => by
    have h1 := lsm_all hxv1 (hs1 t ht)
    rw [lsm_add rl1] at h1
    have hxk : XV d (k + 1 + 1) := ⟨fun i hi => hd.fin i (by omega), fun i hi => hd.lo i (by omega)⟩
    have h2 := prod_lt (lsm_lt hxk t ht) hB1 hB2 (tsm_prod hT (k + 1 + 1) (by omega))
    rw [tsm_succ] at h2
    have h3 := nr_err n2 (i := t + B - 1074) (by
      generalize (2 : Int) ^ (t + B - 1074) = Y at *
      omega)
    refine half_lt ?_
    rw [el2]
    omega
  have hl1s : rg l1 ≠ 0 → ∃ s : Nat, ((iV l1).natAbs : Int) < 2 ^ s ∧ (2 ^ s : Int) ∣ iV l2 ∧ (2 ^ s : Int) ∣ iV q2 ∧ ∀ j, k + 1 < j → j ≤ N → (2 ^ s : Int) ∣ T j := fun hz => by
    have hne := (iV_some rl1 hx2 hz).1
    obtain ⟨u1, a1, a2⟩ := nr_unit n1 (fun c => hne (by omega))
    rw [← el1] at a2
    obtain ⟨u2, b1, b2⟩ := nr_unit nT (fun c => hne (by omega))
    rw [← eu] at b2
    obtain ⟨t, k1, k2⟩ := xv_next hd hB1 hT (k := k + 1) (by omega)
    have c2 := half_lt (hu t k1)
    obtain ⟨s, hs1, hs2, hs3, hs4⟩ : ∃ s : Nat, s ≤ u1 ∧ s ≤ u2 ∧ s ≤ t + B - 1074 ∧ ((iV l1).natAbs : Int) < 2 ^ s := by
      by_cases h1 : u1 ≤ u2 ∧ u1 ≤ t + B - 1074
      · exact ⟨u1, Nat.le_refl _, h1.1, h1.2, a2⟩
      · by_cases h2 : u2 ≤ t + B - 1074 ∧ u2 ≤ u1
        · exact ⟨u2, h2.2, Nat.le_refl _, h2.1, by omega⟩
        · exact ⟨t + B - 1074, by omega, by omega, Nat.le_refl _, by omega⟩
    have d6 : (2 ^ s : Int) ∣ iV Tp + iV q1 := Int.dvd_add (Int.dvd_trans (p2dvd hs2) b1) (Int.dvd_trans (p2dvd hs1) a1)
    have d7 := nr_dvd n2 d6
    exact ⟨s, hs4, by rw [el2]; exact Int.dvd_sub d6 d7, d7, fun j hj hjn => Int.dvd_trans (p2dvd hs3) (k2 j hj hjn)⟩
  have hl2s : rg l2 ≠ 0 → ∃ s : Nat, ((iV l2).natAbs : Int) < 2 ^ s ∧ (2 ^ s : Int) ∣ iV q2 ∧ ∀ j, k + 1 < j → j ≤ N → (2 ^ s : Int) ∣ T j := fun hz => by
    have hne := (iV_some rl2 pl2 hz).1
    obtain ⟨u3, a1, a2⟩ := nr_unit n2 (fun c => hne (by omega))
    rw [← el2] at a2
    obtain ⟨t, k1, k2⟩ := xv_next hd hB1 hT (k := k + 1) (by omega)
    have c2 := hl2 t k1
    by_cases hut : u3 ≤ t + B - 1074
    · exact ⟨u3, a2, a1, fun j hj hjn => Int.dvd_trans (p2dvd hut) (k2 j hj hjn)⟩
    · exact ⟨t + B - 1074, c2, Int.dvd_trans (p2dvd (by omega)) a1, k2⟩
  refine ⟨hxv1.add rl2 pl2 ?_, ?_, ?_, fun t ht => add_all (fun x => ((iV x).natAbs : Int) < 2 ^ (t + B - 1074)) (hs1 t ht) fun _ => hl2 t ht⟩
  · refine add_all (fun x => Lo (iV x) (iV l2)) (fun i hi => ?_) fun hz => ?_
    · obtain ⟨s, h1, _, h3, _⟩ := hold i hi
      exact ⟨s, h1, h3⟩
    · obtain ⟨s, h1, h2, _⟩ := hl1s hz
      exact ⟨s, h1, h2⟩
  · rw [lsm_add rl2, lsm_add rl1, tsm_succ]
    omega
  · refine add_all (fun x => ∃ s : Nat, ((iV x).natAbs : Int) < 2 ^ s ∧ (2 ^ s : Int) ∣ iV q2 ∧ ∀ j, k + 1 < j → j ≤ N → (2 ^ s : Int) ∣ T j) ?_ hl2s
    refine add_all (fun x => ∃ s : Nat, ((iV x).natAbs : Int) < 2 ^ s ∧ (2 ^ s : Int) ∣ iV q2 ∧ ∀ j, k + 1 < j → j ≤ N → (2 ^ s : Int) ∣ T j) (fun i hi => ?_) fun hz => ?_
    · obtain ⟨s, h1, _, _, h4, h5⟩ := hold i hi
      exact ⟨s, h1, h4, h5⟩
    · obtain ⟨s, h1, _, h3, h4⟩ := hl1s hz
      exact ⟨s, h1, h3, h4⟩
end Go.Proofs.YtcpjdgfnblkfpaaGreatDoor
