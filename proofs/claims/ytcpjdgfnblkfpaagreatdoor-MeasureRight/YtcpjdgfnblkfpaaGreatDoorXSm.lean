/-
  Plain mathematics: expansions grown by a float stay expansions (Shewchuk), of the exact sum; one whose sum is 0 is empty.
-/
import Derived.Test.YtcpjdgfnblkfpaaGreatDoorXB
import Derived.Test.YtcpjdgfnblkfpaaGreatDoorEPrem
import Derived.Test.YtcpjdgfnblkfpaaGreatDoorP7M
namespace Go.Proofs.YtcpjdgfnblkfpaaGreatDoor
open Go Go.RowKit Go.Proofs.YtcpjdgfnblkfpaaGreatDoor.M
set_option linter.unusedSimpArgs false
set_option linter.unusedVariables false

/-- Below the lowest bit. -/
def Lo (x y : Int) : Prop := ∃ s : Nat, (x.natAbs : Int) < 2 ^ s ∧ (2 ^ s : Int) ∣ y
theorem dvd_abs_le {x y : Int} (h : x ∣ y) (h0 : y ≠ 0) (hx : 0 < x) : x ≤ (y.natAbs : Int) := by
  have h1 : x ∣ (y.natAbs : Int) := Int.dvd_natAbs.2 h
  exact Int.le_of_dvd (by omega) h1
/-- What is rounded, if not itself, is told in units that are greater than what was lost. -/
theorem nr_unit {S x : Int} (n : Nr S x) (hne : x ≠ S) : ∃ u : Nat, (2 ^ u : Int) ∣ x ∧ ((S - x).natAbs : Int) < 2 ^ u := by
  obtain ⟨k, h1, h2⟩ := binade (S.natAbs : Int) (by omega)
  rcases h2 with rfl | h2
  · exfalso
    have : Fl S := ⟨0, ⟨S, by simp⟩, by simpa using h1⟩
    exact hne (nr_self this n)
  · have f : Fl (4503599627370496 * 2 ^ k : Int) := by
      have := fl_p2 k (m := 4503599627370496) (by decide)
      exact this
    have h3 := dk5 n f h2
    have h4 := nr_err n (i := k) (by omega)
    have p := p2 k
    exact ⟨k, fl_units n.1 h3, by omega⟩
theorem nr_loss {a b x : Int} (ha : Fl a) (n : Nr (a + b) x) : (a + b - x).natAbs ≤ b.natAbs := by
  have := n.2 a ha
  omega
theorem Lo.trans {x y z : Int} (h : Lo x y) (hy : y ≠ 0) (k : Lo y z) : Lo x z := by
  obtain ⟨s, h1, h2⟩ := h
  obtain ⟨t, k1, k2⟩ := k
  have h3 := dvd_abs_le h2 hy (p2 s)
  have h4 : s < t := p2lt (Int.lt_of_le_of_lt h3 k1)
  exact ⟨s, h1, Int.dvd_trans (p2dvd (by omega)) k2⟩
theorem iV_nought {b : Int} (hb : rng b) (h : rg b = 0) : iV b = 0 := by
  have := iV_abs b
  rw [h] at this
  have h2 : (V Ieee.double (0 : Int).toNat : Int) = 0 := by decide +kernel
  omega
theorem iV_some {b : Int} (hb : rng b) (pb : pok b = true) (h : rg b ≠ 0) : iV b ≠ 0 ∧ pmag b ≠ 0 := by
  have e := iV_form hb pb
  have hm : pmag b ≠ 0 := by
    intro q
    have hc : cls b = 0 := by
      have hf : fld b ≠ 2047 := by simpa [pok] using pb
      have := frc_le b
      unfold pmag at q
      rw [if_neg hf] at q
      unfold cls
      rw [if_neg hf]
      by_cases h0 : fld b = 0
      · rw [if_pos h0] at q ⊢
        rw [if_pos q]
      · rw [if_neg h0] at q
        omega
    exact h ((cls_nought hb).1 hc)
  refine ⟨fun q => ?_, hm⟩
  obtain ⟨i0, _⟩ := pmag_in pb
  have p1 := two_pos (pexp b + 1074).toNat
  have : 0 < pmag b * 2 ^ (pexp b + 1074).toNat := Int.mul_pos (by omega) p1
  rw [q] at e
  omega
theorem odd_dvd {s t : Nat} {m : Int} (h : (2 ^ s : Int) ∣ 2 ^ t * (2 * m + 1)) : s ≤ t := by
  apply Classical.byContradiction
  intro hn
  obtain ⟨r, rfl⟩ : ∃ r, s = t + 1 + r := ⟨s - t - 1, by omega⟩
  obtain ⟨c, hc⟩ := h
  rw [Int.pow_add, Int.pow_add, Int.mul_assoc, Int.mul_assoc] at hc
  have := Int.eq_of_mul_eq_mul_left (Int.ne_of_gt (two_pos t)) hc
  omega
/-- Two floats that don't overlap. -/
theorem lo_iff {a b : Int} (ha : rng a) (hb : rng b) (pa : pok a = true) (pb : pok b = true) (ma : pmag a ≠ 0) (mb : pmag b ≠ 0) : (pexp a + blen (pmag a) ≤ pexp b + jz (pmag b)) ↔ Lo (iV a) (iV b) := by
  obtain ⟨i0, i1, i2, i3⟩ := pmag_in pa
  obtain ⟨j0, j1, j2, j3⟩ := pmag_in pb
  obtain ⟨m, hm, _, _⟩ := jz_spec (show 0 < pmag b by omega) (by omega)
  have e1 := iV_form ha pa
  have e2 := iV_form hb pb
  have hl := blen_lt (pmag a)
  obtain ⟨_, hg⟩ := blen_pos (show 0 < pmag a by omega)
  have hb1 : 1 ≤ blen (pmag a) := (blen_pos (show 0 < pmag a by omega)).1
  have p1 := two_pos (pexp a + 1074).toNat
  have p2' := two_pos (pexp b + 1074).toNat
  have s1 : pmag a * 2 ^ (pexp a + 1074).toNat < 2 ^ blen (pmag a) * 2 ^ (pexp a + 1074).toNat := Int.mul_lt_mul_of_pos_right hl p1
  rw [← Int.pow_add] at s1
  have s2 : (2 : Int) ^ (blen (pmag a) - 1) * 2 ^ (pexp a + 1074).toNat ≤ pmag a * 2 ^ (pexp a + 1074).toNat := Int.mul_le_mul_of_nonneg_right hg (by omega)
  rw [← Int.pow_add] at s2
  have e3 : ((iV b).natAbs : Int) = 2 ^ (jz (pmag b) + (pexp b + 1074).toNat) * (2 * (m : Int) + 1) := by
    rw [e2, Int.pow_add]
    calc pmag b * 2 ^ (pexp b + 1074).toNat = 2 ^ jz (pmag b) * (2 * (m : Int) + 1) * 2 ^ (pexp b + 1074).toNat := by rw [← hm]
      _ = _ := by rw [Int.mul_assoc, Int.mul_comm (2 * (m : Int) + 1), ← Int.mul_assoc]
  constructor
  · intro h
    refine ⟨blen (pmag a) + (pexp a + 1074).toNat, by rw [e1]; exact s1, ?_⟩
    apply Int.dvd_natAbs.1
    rw [e3]
    exact Int.dvd_trans (p2dvd (by omega)) ⟨_, rfl⟩
  · rintro ⟨s, h1, h2⟩
    have h3 : (2 ^ s : Int) ∣ 2 ^ (jz (pmag b) + (pexp b + 1074).toNat) * (2 * (m : Int) + 1) := by
      rw [← e3]
      exact Int.dvd_natAbs.2 h2
    have h4 := odd_dvd h3
    rw [e1] at h1
    have h5 := p2lt (Int.lt_of_le_of_lt s2 h1)
    omega
/-- An expansion, by its worths. -/
structure XV (d : Nat → Int) (n : Nat) : Prop where
  fin : ∀ i, i < n → rng (d i) ∧ pok (d i) = true ∧ rg (d i) ≠ 0
  lo : ∀ i, i + 1 < n → Lo (iV (d i)) (iV (d (i + 1)))
theorem XV.ne {d : Nat → Int} {n : Nat} (h : XV d n) {i : Nat} (hi : i < n) : iV (d i) ≠ 0 := (iV_some (h.fin i hi).1 (h.fin i hi).2.1 (h.fin i hi).2.2).1
theorem xval_of {d : Nat → Int} : ∀ {n}, XV d n → xval d n = true
  | 0, _ => rfl
  | n + 1, h => by
    have ih : xval d n = true := xval_of ⟨fun i hi => h.fin i (by omega), fun i hi => h.lo i (by omega)⟩
    rw [xval_succ, ih, Bool.true_and]
    obtain ⟨r, p, z⟩ := h.fin n (by omega)
    have hm := (iV_some r p z).2
    have hx := xmag_in (d n)
    unfold xok
    have hz : decide (pmag (d n) = 0) = false := decide_eq_false hm
    rw [hz]
    cases n with
    | zero =>
      have : xab d 0 = -9223372036854775808 := rfl
      rw [this]
      have : ¬ (pexp (d 0) + jz (pmag (d 0)) < -9223372036854775808) := by omega
      simp [this]
    | succ j =>
      have e : xab d (j + 1) = pexp (d j) + blen (pmag (d j)) := rfl
      obtain ⟨r', p', z'⟩ := h.fin j (by omega)
      have := (lo_iff r' r p' p (iV_some r' p' z').2 hm).2 (h.lo j (by omega))
      rw [e]
      have : ¬ (pexp (d (j + 1)) + jz (pmag (d (j + 1))) < pexp (d j) + blen (pmag (d j))) := by omega
      simp [this]
theorem XV.far {d : Nat → Int} {n : Nat} (h : XV d n) {i : Nat} : ∀ {j}, i < j → j < n → Lo (iV (d i)) (iV (d j))
  | 0, hij, _ => absurd hij (Nat.not_lt_zero _)
  | j + 1, hij, hj => by
    by_cases e : i = j
    · subst e; exact h.lo i hj
    · exact (h.far (show i < j by omega) (by omega)).trans (h.ne (by omega)) (h.lo j hj)
/-- Where a step stands: the list so far is an expansion, and all that is to come lies above each of its floats. -/
structure GI (d : Nat → Int) (q : Int) (n k : Nat) : Prop where
  xv : XV (gs d q k).d (gs d q k).n
  up : ∀ i, i < (gs d q k).n → ∃ s : Nat, ((iV ((gs d q k).d i)).natAbs : Int) < 2 ^ s ∧ (2 ^ s : Int) ∣ iV (gq d q k) ∧ ∀ j, k ≤ j → j < n → (2 ^ s : Int) ∣ iV (d j)
theorem XV.add {s : Ls} (h : XV s.d s.n) {b : Int} (hb : rng b) (pb : pok b = true) (hlo : ∀ i, i < s.n → Lo (iV (s.d i)) (iV b)) : XV (s.add b).d (s.add b).n := by
  unfold Ls.add
  split
  · exact h
  · rename_i hz
    refine ⟨fun i hi => ?_, fun i hi => ?_⟩
    · show rng (upd s.d s.n b i) ∧ pok (upd s.d s.n b i) = true ∧ rg (upd s.d s.n b i) ≠ 0
      by_cases e : i = s.n
      · subst e; rw [upd_same]; exact ⟨hb, pb, hz⟩
      · rw [upd_other _ _ e]; exact h.fin i (by have : i < s.n + 1 := hi; omega)
    · have hi' : i + 1 < s.n + 1 := hi
      show Lo (iV (upd s.d s.n b i)) (iV (upd s.d s.n b (i + 1)))
      rw [upd_other _ _ (show i ≠ s.n by omega)]
      by_cases e : i + 1 = s.n
      · rw [e, upd_same]; exact hlo i (by omega)
      · rw [upd_other _ _ e]; exact h.lo i (by omega)
/-- The sum, as it is rounded. -/
theorem fsum_nr {p q : Int} (hp : rng p) (hq : rng q) (h : pok (sL p q) = true) : Nr (iV p + iV q) (iV (fsum p q)) := by
  obtain ⟨⟨pp, pq⟩, ps, e⟩ := sL_exact hp hq h
  exact (stp_sum hp hq pp pq).nr ps
theorem gi_step {d : Nat → Int} {q : Int} {n k : Nat} (hd : XV d n) (hq : rng q) (pq : pok q = true) (hk : k < n) (hx : gx d q (k + 1) = true) (h : GI d q n k) : GI d q n (k + 1) := by
  have hfin : ∀ i, i < n → rng (d i) ∧ pok (d i) = true := fun i hi => ⟨(hd.fin i hi).1, (hd.fin i hi).2.1⟩
  have hx' : (gx d q k && pok (gl d q k)) = true := hx
  rw [Bool.and_eq_true] at hx'
  obtain ⟨r1, r2⟩ := gq_fin hfin hq pq k (by omega) hx'.1
  obtain ⟨d1, d2⟩ := hfin k hk
  have hl : pok (sL (gq d q k) (d k)) = true := hx'.2
  obtain ⟨_, ps, e⟩ := sL_exact r1 d1 hl
  have nr := fsum_nr r1 d1 hl
  have rl : rng (gl d q k) := sL_rng r1 d1
  have eq1 : gq d q (k + 1) = fsum (gq d q k) (d k) := rfl
  have egl : gl d q k = sL (gq d q k) (d k) := rfl
  have es : gs d q (k + 1) = (gs d q k).add (gl d q k) := rfl
  rw [← egl, ← eq1] at e
  rw [← eq1] at nr
  have herr : iV (gl d q k) = iV (gq d q k) + iV (d k) - iV (gq d q (k + 1)) := by omega
  have hold : ∀ i, i < (gs d q k).n → ∃ s : Nat, ((iV ((gs d q k).d i)).natAbs : Int) < 2 ^ s ∧ (2 ^ s : Int) ∣ iV (gq d q (k + 1)) ∧ (2 ^ s : Int) ∣ iV (gl d q k) ∧ ∀ j, k + 1 ≤ j → j < n → (2 ^ s : Int) ∣ iV (d j) := fun i hi => by
    obtain ⟨s, h1, h2, h3⟩ := h.up i hi
    have h4 : (2 ^ s : Int) ∣ iV (gq d q k) + iV (d k) := Int.dvd_add h2 (h3 k (Nat.le_refl _) hk)
    have h5 := nr_dvd nr h4
    exact ⟨s, h1, h5, by rw [herr]; exact Int.dvd_sub h4 h5, fun j hj hjn => h3 j (by omega) hjn⟩
  have hnew : rg (gl d q k) ≠ 0 → ∃ s : Nat, ((iV (gl d q k)).natAbs : Int) < 2 ^ s ∧ (2 ^ s : Int) ∣ iV (gq d q (k + 1)) ∧ ∀ j, k + 1 ≤ j → j < n → (2 ^ s : Int) ∣ iV (d j) := fun hz => by
    have hne := (iV_some rl hx'.2 hz).1
    obtain ⟨u, h1, h2⟩ := nr_unit nr (fun c => hne (by rw [herr, c]; omega))
    rw [← herr] at h2
    by_cases hlast : k + 1 < n
    · obtain ⟨t, k1, k2⟩ := hd.lo k hlast
      have h3 := nr_loss (fl_iV (gq d q k)) nr
      rw [← herr] at h3
      have hup : ∀ j, k + 1 ≤ j → j < n → (2 ^ t : Int) ∣ iV (d j) := fun j hj hjn => by
        by_cases e : j = k + 1
        · subst e; exact k2
        · obtain ⟨t2, m1, m2⟩ := hd.far (show k + 1 < j by omega) hjn
          have h4 := dvd_abs_le k2 (hd.ne hlast) (p2 t)
          have h5 : t < t2 := p2lt (Int.lt_of_le_of_lt h4 m1)
          exact Int.dvd_trans (p2dvd (by omega)) m2
      by_cases hut : u ≤ t
      · exact ⟨u, h2, h1, fun j hj hjn => Int.dvd_trans (p2dvd hut) (hup j hj hjn)⟩
      · exact ⟨t, by omega, Int.dvd_trans (p2dvd (by omega)) h1, hup⟩
    · exact ⟨u, h2, h1, fun j hj hjn => by omega⟩
  refine ⟨?_, ?_⟩
  · rw [es]
    exact h.xv.add rl hx'.2 fun i hi => by
      obtain ⟨s, h1, _, h3, _⟩ := hold i hi
      exact ⟨s, h1, h3⟩
  · rw [es]
    intro i hi
    by_cases hz : rg (gl d q k) = 0
    · have ea : (gs d q k).add (gl d q k) = gs d q k := by unfold Ls.add; rw [if_pos hz]
      rw [ea] at hi ⊢
      obtain ⟨s, h1, h2, _, h4⟩ := hold i hi
      exact ⟨s, h1, h2, h4⟩
    · have ea : (gs d q k).add (gl d q k) = ⟨(gs d q k).n + 1, upd (gs d q k).d (gs d q k).n (gl d q k)⟩ := by unfold Ls.add; rw [if_neg hz]
      rw [ea] at hi ⊢
      have hi' : i < (gs d q k).n + 1 := hi
      show ∃ s : Nat, ((iV (upd (gs d q k).d (gs d q k).n (gl d q k) i)).natAbs : Int) < 2 ^ s ∧ _
      by_cases e : i = (gs d q k).n
      · subst e
        rw [upd_same]
        exact hnew hz
      · rw [upd_other _ _ e]
        obtain ⟨s, h1, h2, _, h4⟩ := hold i (by omega)
        exact ⟨s, h1, h2, h4⟩
theorem gi_all {d : Nat → Int} {q : Int} {n : Nat} (hd : XV d n) (hq : rng q) (pq : pok q = true) : ∀ k, k ≤ n → gx d q k = true → GI d q n k
  | 0, _, _ => ⟨⟨fun i hi => absurd hi (Nat.not_lt_zero _), fun i hi => absurd hi (Nat.not_lt_zero _)⟩, fun i hi => absurd hi (Nat.not_lt_zero _)⟩
  | k + 1, hk, hx => by
    have hx' : (gx d q k && pok (gl d q k)) = true := hx
    rw [Bool.and_eq_true] at hx'
    exact gi_step hd hq pq (by omega) hx (gi_all hd hq pq k (by omega) hx'.1)
/-- An expansion that a float is grown into is one. -/
theorem grw_xv {d : Nat → Int} {q : Int} {n : Nat} (hd : XV d n) (hq : rng q) (pq : pok q = true) (hx : gx d q n = true) : XV (grw n d q).d (grw n d q).n := by
  have hfin : ∀ i, i < n → rng (d i) ∧ pok (d i) = true := fun i hi => ⟨(hd.fin i hi).1, (hd.fin i hi).2.1⟩
  obtain ⟨r1, r2⟩ := gq_fin hfin hq pq n (Nat.le_refl _) hx
  have h := gi_all hd hq pq n (Nat.le_refl _) hx
  exact h.xv.add r1 r2 fun i hi => by
    obtain ⟨s, h1, h2, _⟩ := h.up i hi
    exact ⟨s, h1, h2⟩
/-- The exact sum, in units of the least float. -/
def lsm (d : Nat → Int) : Nat → Int
  | 0 => 0
  | k + 1 => lsm d k + iV (d k)
theorem lsm_succ (d : Nat → Int) (k : Nat) : lsm d (k + 1) = lsm d k + iV (d k) := rfl
theorem lsm_congr {d e : Nat → Int} : ∀ {n}, (∀ i, i < n → d i = e i) → lsm d n = lsm e n
  | 0, _ => rfl
  | n + 1, h => by rw [lsm_succ, lsm_succ, lsm_congr fun i hi => h i (by omega), h n (by omega)]
theorem lsm_add {s : Ls} {b : Int} (hb : rng b) : lsm (s.add b).d (s.add b).n = lsm s.d s.n + iV b := by
  unfold Ls.add
  split
  · rename_i hz
    rw [iV_nought hb hz, Int.add_zero]
  · show lsm (upd s.d s.n b) s.n + iV (upd s.d s.n b s.n) = _
    rw [upd_same, lsm_congr (e := s.d) fun i hi => upd_other _ _ (by omega)]
theorem gs_sum {d : Nat → Int} {q : Int} {n : Nat} (hd : ∀ i, i < n → rng (d i) ∧ pok (d i) = true) (hq : rng q) (pq : pok q = true) : ∀ k, k ≤ n → gx d q k = true → lsm (gs d q k).d (gs d q k).n + iV (gq d q k) = iV q + lsm d k
  | 0, _, _ => by show 0 + iV q = iV q + 0; omega
  | k + 1, hk, hx => by
    have hx' : (gx d q k && pok (gl d q k)) = true := hx
    rw [Bool.and_eq_true] at hx'
    have ih := gs_sum hd hq pq k (by omega) hx'.1
    obtain ⟨r1, r2⟩ := gq_fin hd hq pq k (by omega) hx'.1
    obtain ⟨d1, d2⟩ := hd k (by omega)
    have rl : rng (gl d q k) := sL_rng r1 d1
    obtain ⟨_, ps, e⟩ := sL_exact r1 d1 (show pok (sL (gq d q k) (d k)) = true from hx'.2)
    have eq1 : gq d q (k + 1) = fsum (gq d q k) (d k) := rfl
    have egl : gl d q k = sL (gq d q k) (d k) := rfl
    have es : gs d q (k + 1) = (gs d q k).add (gl d q k) := rfl
    rw [← egl, ← eq1] at e
    rw [es, lsm_add rl, lsm_succ]
    omega
theorem grw_sum {d : Nat → Int} {q : Int} {n : Nat} (hd : ∀ i, i < n → rng (d i) ∧ pok (d i) = true) (hq : rng q) (pq : pok q = true) (hx : gx d q n = true) : lsm (grw n d q).d (grw n d q).n = iV q + lsm d n := by
  have h := gs_sum hd hq pq n (Nat.le_refl _) hx
  obtain ⟨r1, r2⟩ := gq_fin hd hq pq n (Nat.le_refl _) hx
  show lsm ((gs d q n).add (gq d q n)).d ((gs d q n).add (gq d q n)).n = _
  rw [lsm_add r1]
  exact h
theorem mult_lt {x u t : Int} {s : Nat} (hs : (2 ^ s : Int) ∣ x) (hu : (2 ^ s : Int) ∣ t) (h : (x.natAbs : Int) < t) : (x.natAbs : Int) + 2 ^ s ≤ t := by
  obtain ⟨a, ha⟩ := Int.dvd_natAbs.2 hs
  obtain ⟨b, hb⟩ := hu
  have p := p2 s
  rw [ha, hb] at h ⊢
  have : a < b := Int.lt_of_mul_lt_mul_left h (Int.le_of_lt p)
  have h2 : (2 : Int) ^ s * (a + 1) ≤ 2 ^ s * b := Int.mul_le_mul_of_nonneg_left (by omega) (Int.le_of_lt p)
  rw [Int.mul_add, Int.mul_one] at h2
  exact h2
/-- What lies below the last float of an expansion is less than its lowest bit; with it, it is less than what the last is less than. -/
theorem lsm_lt {d : Nat → Int} : ∀ {n}, XV d (n + 1) → ∀ t : Nat, ((iV (d n)).natAbs : Int) < 2 ^ t → ((lsm d (n + 1)).natAbs : Int) < 2 ^ t
  | 0, h, t, ht => by
    have : lsm d 1 = iV (d 0) := by rw [lsm_succ]; show 0 + _ = _; omega
    rw [this]; exact ht
  | n + 1, h, t, ht => by
    obtain ⟨s, h1, h2⟩ := h.lo n (by omega)
    have ih := lsm_lt (n := n) ⟨fun i hi => h.fin i (by omega), fun i hi => h.lo i (by omega)⟩ s h1
    have hge := dvd_abs_le h2 (h.ne (by omega)) (p2 s)
    have hst : s < t := p2lt (Int.lt_of_le_of_lt hge ht)
    have h3 := mult_lt (u := 0) h2 (p2dvd (show s ≤ t by omega)) ht
    rw [lsm_succ]
    omega
theorem lsm_ne {d : Nat → Int} {n : Nat} (h : XV d (n + 1)) : lsm d (n + 1) ≠ 0 := by
  cases n with
  | zero =>
    have : lsm d 1 = iV (d 0) := by rw [lsm_succ]; show 0 + _ = _; omega
    rw [this]; exact h.ne (by omega)
  | succ n =>
    obtain ⟨s, h1, h2⟩ := h.lo n (by omega)
    have ih := lsm_lt (n := n) ⟨fun i hi => h.fin i (by omega), fun i hi => h.lo i (by omega)⟩ s h1
    have hge := dvd_abs_le h2 (h.ne (by omega)) (p2 s)
    rw [lsm_succ]
    omega
/-- An expansion of 0 is empty. -/
theorem xv_zero {d : Nat → Int} {n : Nat} (h : XV d n) (h0 : lsm d n = 0) : n = 0 := by
  cases n with
  | zero => rfl
  | succ n => exact absurd h0 (lsm_ne h)
end Go.Proofs.YtcpjdgfnblkfpaaGreatDoor
