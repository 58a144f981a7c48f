/-
  Parts of the proof, one behind another.
-/
import Derived.Test.YtmgndnabaemgkaaDoorPart12
import Derived.Test.YtmgndnabaemgkaaDoorPart11
import Derived.Test.YtmgndnabaemgkaaDoorPart6
import Derived.Lib.AppendZerosOnto
/-
  Plain mathematics: expansions grown by a float stay expansions (Shewchuk), of the exact sum; one whose sum is 0 is empty.
-/
namespace Go.Proofs.YtmgndnabaemgkaaDoor
open Go Go.RowKit Go.Proofs.YtmgndnabaemgkaaDoor.M
set_option linter.unusedSimpArgs false
set_option linter.unusedVariables false

/-- Below the lowest bit. -/
def Lo (x y : Int) : Prop := ∃ s : Nat, (x.natAbs : Int) < 2 ^ s ∧ (2 ^ s : Int) ∣ y
theorem dvd_abs_le {x y : Int} (h : x ∣ y) (h0 : y ≠ 0) (hx : 0 < x) : x ≤ (y.natAbs : Int) := by
  have h1 : x ∣ (y.natAbs : Int) := Int.dvd_natAbs.2 h
  exact Int.le_of_dvd (by omega) h1
/-- What is rounded, if not itself, is told in units that are greater than what was lost. -/
theorem nr_unit {S x : Int} (n : Nr S x) (hne : x ≠ S) : ∃ u : Nat, (2 ^ u : Int) ∣ x ∧ ((S - x).natAbs : Int) < 2 ^ u := by
  obtain ⟨k, h1, h2⟩ := binade (S.natAbs : Int) (by omega)
  rcases h2 with rfl | h2
  · exfalso
    have : Fl S := ⟨0, ⟨S, by simp⟩, by simpa using h1⟩
    exact hne (nr_self this n)
  · have f : Fl (4503599627370496 * 2 ^ k : Int) := by
      have := fl_p2 k (m := 4503599627370496) (by decide)
      exact this
    have h3 := dk5 n f h2
    have h4 := nr_err n (i := k) (by omega)
    have p := p2 k
    exact ⟨k, fl_units n.1 h3, by omega⟩
theorem nr_loss {a b x : Int} (ha : Fl a) (n : Nr (a + b) x) : (a + b - x).natAbs ≤ b.natAbs := by
  have := n.2 a ha
  omega
theorem Lo.trans {x y z : Int} (h : Lo x y) (hy : y ≠ 0) (k : Lo y z) : Lo x z := by
  obtain ⟨s, h1, h2⟩ := h
  obtain ⟨t, k1, k2⟩ := k
  have h3 := dvd_abs_le h2 hy (p2 s)
  have h4 : s < t := p2lt (Int.lt_of_le_of_lt h3 k1)
  exact ⟨s, h1, Int.dvd_trans (p2dvd (by omega)) k2⟩
theorem iV_nought {b : Int} (hb : rng b) (h : rg b = 0) : iV b = 0 := by
  have := iV_abs b
  rw [h] at this
  have h2 : (V Ieee.double (0 : Int).toNat : Int) = 0 := by decide +kernel
  omega
theorem iV_some {b : Int} (hb : rng b) (pb : pok b = true) (h : rg b ≠ 0) : iV b ≠ 0 ∧ pmag b ≠ 0 := by
  have e := iV_form hb pb
  have hm : pmag b ≠ 0 := by
    intro q
    have hc : cls b = 0 := by
      have hf : fld b ≠ 2047 := by simpa [pok] using pb
      have := frc_le b
      unfold pmag at q
      rw [if_neg hf] at q
      unfold cls
      rw [if_neg hf]
      by_cases h0 : fld b = 0
      · rw [if_pos h0] at q ⊢
        rw [if_pos q]
      · rw [if_neg h0] at q
        omega
    exact h ((cls_nought hb).1 hc)
  refine ⟨fun q => ?_, hm⟩
  obtain ⟨i0, _⟩ := pmag_in pb
  have p1 := two_pos (pexp b + 1074).toNat
  have : 0 < pmag b * 2 ^ (pexp b + 1074).toNat := Int.mul_pos (by omega) p1
  rw [q] at e
  omega
theorem odd_dvd {s t : Nat} {m : Int} (h : (2 ^ s : Int) ∣ 2 ^ t * (2 * m + 1)) : s ≤ t := by
  apply Classical.byContradiction
  intro hn
  obtain ⟨r, rfl⟩ : ∃ r, s = t + 1 + r := ⟨s - t - 1, by omega⟩
  obtain ⟨c, hc⟩ := h
  rw [Int.pow_add, Int.pow_add, Int.mul_assoc, Int.mul_assoc] at hc
  have := Int.eq_of_mul_eq_mul_left (Int.ne_of_gt (two_pos t)) hc
  omega
/-- Two floats that don't overlap. -/
theorem lo_iff {a b : Int} (ha : rng a) (hb : rng b) (pa : pok a = true) (pb : pok b = true) (ma : pmag a ≠ 0) (mb : pmag b ≠ 0) : (pexp a + blen (pmag a) ≤ pexp b + jz (pmag b)) ↔ Lo (iV a) (iV b) := by
  obtain ⟨i0, i1, i2, i3⟩ := pmag_in pa
  obtain ⟨j0, j1, j2, j3⟩ := pmag_in pb
  obtain ⟨m, hm, _, _⟩ := jz_spec (show 0 < pmag b by omega) (by omega)
  have e1 := iV_form ha pa
  have e2 := iV_form hb pb
  have hl := blen_lt (pmag a)
  obtain ⟨_, hg⟩ := blen_pos (show 0 < pmag a by omega)
  have hb1 : 1 ≤ blen (pmag a) := (blen_pos (show 0 < pmag a by omega)).1
  have p1 := two_pos (pexp a + 1074).toNat
  have p2' := two_pos (pexp b + 1074).toNat
  have s1 : pmag a * 2 ^ (pexp a + 1074).toNat < 2 ^ blen (pmag a) * 2 ^ (pexp a + 1074).toNat := Int.mul_lt_mul_of_pos_right hl p1
  rw [← Int.pow_add] at s1
  have s2 : (2 : Int) ^ (blen (pmag a) - 1) * 2 ^ (pexp a + 1074).toNat ≤ pmag a * 2 ^ (pexp a + 1074).toNat := Int.mul_le_mul_of_nonneg_right hg (by omega)
  rw [← Int.pow_add] at s2
  have e3 : ((iV b).natAbs : Int) = 2 ^ (jz (pmag b) + (pexp b + 1074).toNat) * (2 * (m : Int) + 1) := by
    rw [e2, Int.pow_add]
    calc pmag b * 2 ^ (pexp b + 1074).toNat = 2 ^ jz (pmag b) * (2 * (m : Int) + 1) * 2 ^ (pexp b + 1074).toNat := by rw [← hm]
      _ = _ := by rw [Int.mul_assoc, Int.mul_comm (2 * (m : Int) + 1), ← Int.mul_assoc]
  constructor
  · intro h
    refine ⟨blen (pmag a) + (pexp a + 1074).toNat, by rw [e1]; exact s1, ?_⟩
    apply Int.dvd_natAbs.1
    rw [e3]
    exact Int.dvd_trans (p2dvd (by omega)) ⟨_, rfl⟩
  · rintro ⟨s, h1, h2⟩
    have h3 : (2 ^ s : Int) ∣ 2 ^ (jz (pmag b) + (pexp b + 1074).toNat) * (2 * (m : Int) + 1) := by
      rw [← e3]
      exact Int.dvd_natAbs.2 h2
    have h4 := odd_dvd h3
    rw [e1] at h1
    have h5 := p2lt (Int.lt_of_le_of_lt s2 h1)
    omega
/-- An expansion, by its worths. -/
structure XV (d : Nat → Int) (n : Nat) : Prop where
  fin : ∀ i, i < n → rng (d i) ∧ pok (d i) = true ∧ rg (d i) ≠ 0
  lo : ∀ i, i + 1 < n → Lo (iV (d i)) (iV (d (i + 1)))
theorem XV.ne {d : Nat → Int} {n : Nat} (h : XV d n) {i : Nat} (hi : i < n) : iV (d i) ≠ 0 := (iV_some (h.fin i hi).1 (h.fin i hi).2.1 (h.fin i hi).2.2).1
theorem xval_of {d : Nat → Int} : ∀ {n}, XV d n → xval d n = true
  | 0, _ => rfl
  | n + 1, h => by
    have ih : xval d n = true := xval_of ⟨fun i hi => h.fin i (by omega), fun i hi => h.lo i (by omega)⟩
    rw [xval_succ, ih, Bool.true_and]
    obtain ⟨r, p, z⟩ := h.fin n (by omega)
    have hm := (iV_some r p z).2
    have hx := xmag_in (d n)
    unfold xok
    have hz : decide (pmag (d n) = 0) = false := decide_eq_false hm
    rw [hz]
    cases n with
    | zero =>
      have : xab d 0 = -9223372036854775808 := rfl
      rw [this]
      have : ¬ (pexp (d 0) + jz (pmag (d 0)) < -9223372036854775808) := by omega
      simp [this]
    | succ j =>
      have e : xab d (j + 1) = pexp (d j) + blen (pmag (d j)) := rfl
      obtain ⟨r', p', z'⟩ := h.fin j (by omega)
      have := (lo_iff r' r p' p (iV_some r' p' z').2 hm).2 (h.lo j (by omega))
      rw [e]
      have : ¬ (pexp (d (j + 1)) + jz (pmag (d (j + 1))) < pexp (d j) + blen (pmag (d j))) := by omega
      simp [this]
theorem XV.far {d : Nat → Int} {n : Nat} (h : XV d n) {i : Nat} : ∀ {j}, i < j → j < n → Lo (iV (d i)) (iV (d j))
  | 0, hij, _ => absurd hij (Nat.not_lt_zero _)
  | j + 1, hij, hj => by
    by_cases e : i = j
    · subst e; exact h.lo i hj
    · exact (h.far (show i < j by omega) (by omega)).trans (h.ne (by omega)) (h.lo j hj)
/-- Where a step stands: the list so far is an expansion, and all that is to come lies above each of its floats. -/
structure GI (d : Nat → Int) (q : Int) (n k : Nat) : Prop where
  xv : XV (gs d q k).d (gs d q k).n
  up : ∀ i, i < (gs d q k).n → ∃ s : Nat, ((iV ((gs d q k).d i)).natAbs : Int) < 2 ^ s ∧ (2 ^ s : Int) ∣ iV (gq d q k) ∧ ∀ j, k ≤ j → j < n → (2 ^ s : Int) ∣ iV (d j)
theorem XV.add {s : Ls} (h : XV s.d s.n) {b : Int} (hb : rng b) (pb : pok b = true) (hlo : ∀ i, i < s.n → Lo (iV (s.d i)) (iV b)) : XV (s.add b).d (s.add b).n := by
  unfold Ls.add
  split
  · exact h
  · rename_i hz
    refine ⟨fun i hi => ?_, fun i hi => ?_⟩
    · show rng (upd s.d s.n b i) ∧ pok (upd s.d s.n b i) = true ∧ rg (upd s.d s.n b i) ≠ 0
      by_cases e : i = s.n
      · subst e; rw [upd_same]; exact ⟨hb, pb, hz⟩
      · rw [upd_other _ _ e]; exact h.fin i (by have : i < s.n + 1 := hi; omega)
    · have hi' : i + 1 < s.n + 1 := hi
      show Lo (iV (upd s.d s.n b i)) (iV (upd s.d s.n b (i + 1)))
      rw [upd_other _ _ (show i ≠ s.n by omega)]
      by_cases e : i + 1 = s.n
      · rw [e, upd_same]; exact hlo i (by omega)
      · rw [upd_other _ _ e]; exact h.lo i (by omega)
/-- The sum, as it is rounded. -/
theorem fsum_nr {p q : Int} (hp : rng p) (hq : rng q) (h : pok (sL p q) = true) : Nr (iV p + iV q) (iV (fsum p q)) := by
  obtain ⟨⟨pp, pq⟩, ps, e⟩ := sL_exact hp hq h
  exact (stp_sum hp hq pp pq).nr ps
theorem gi_step {d : Nat → Int} {q : Int} {n k : Nat} (hd : XV d n) (hq : rng q) (pq : pok q = true) (hk : k < n) (hx : gx d q (k + 1) = true) (h : GI d q n k) : GI d q n (k + 1) := by
  have hfin : ∀ i, i < n → rng (d i) ∧ pok (d i) = true := fun i hi => ⟨(hd.fin i hi).1, (hd.fin i hi).2.1⟩
  have hx' : (gx d q k && pok (gl d q k)) = true := hx
  rw [Bool.and_eq_true] at hx'
  obtain ⟨r1, r2⟩ := gq_fin hfin hq pq k (by omega) hx'.1
  obtain ⟨d1, d2⟩ := hfin k hk
  have hl : pok (sL (gq d q k) (d k)) = true := hx'.2
  obtain ⟨_, ps, e⟩ := sL_exact r1 d1 hl
  have nr := fsum_nr r1 d1 hl
  have rl : rng (gl d q k) := sL_rng r1 d1
  have eq1 : gq d q (k + 1) = fsum (gq d q k) (d k) := rfl
  have egl : gl d q k = sL (gq d q k) (d k) := rfl
  have es : gs d q (k + 1) = (gs d q k).add (gl d q k) := rfl
  rw [← egl, ← eq1] at e
  rw [← eq1] at nr
  have herr : iV (gl d q k) = iV (gq d q k) + iV (d k) - iV (gq d q (k + 1)) := by omega
  have hold : ∀ i, i < (gs d q k).n → ∃ s : Nat, ((iV ((gs d q k).d i)).natAbs : Int) < 2 ^ s ∧ (2 ^ s : Int) ∣ iV (gq d q (k + 1)) ∧ (2 ^ s : Int) ∣ iV (gl d q k) ∧ ∀ j, k + 1 ≤ j → j < n → (2 ^ s : Int) ∣ iV (d j) := fun i hi => by
    obtain ⟨s, h1, h2, h3⟩ := h.up i hi
    have h4 : (2 ^ s : Int) ∣ iV (gq d q k) + iV (d k) := Int.dvd_add h2 (h3 k (Nat.le_refl _) hk)
    have h5 := nr_dvd nr h4
    exact ⟨s, h1, h5, by rw [herr]; exact Int.dvd_sub h4 h5, fun j hj hjn => h3 j (by omega) hjn⟩
  have hnew : rg (gl d q k) ≠ 0 → ∃ s : Nat, ((iV (gl d q k)).natAbs : Int) < 2 ^ s ∧ (2 ^ s : Int) ∣ iV (gq d q (k + 1)) ∧ ∀ j, k + 1 ≤ j → j < n → (2 ^ s : Int) ∣ iV (d j) := fun hz => by
    have hne := (iV_some rl hx'.2 hz).1
    obtain ⟨u, h1, h2⟩ := nr_unit nr (fun c => hne (by rw [herr, c]; omega))
    rw [← herr] at h2
    by_cases hlast : k + 1 < n
    · obtain ⟨t, k1, k2⟩ := hd.lo k hlast
      have h3 := nr_loss (fl_iV (gq d q k)) nr
      rw [← herr] at h3
      have hup : ∀ j, k + 1 ≤ j → j < n → (2 ^ t : Int) ∣ iV (d j) := fun j hj hjn => by
        by_cases e : j = k + 1
        · subst e; exact k2
        · obtain ⟨t2, m1, m2⟩ := hd.far (show k + 1 < j by omega) hjn
          have h4 := dvd_abs_le k2 (hd.ne hlast) (p2 t)
          have h5 : t < t2 := p2lt (Int.lt_of_le_of_lt h4 m1)
          exact Int.dvd_trans (p2dvd (by omega)) m2
      by_cases hut : u ≤ t
      · exact ⟨u, h2, h1, fun j hj hjn => Int.dvd_trans (p2dvd hut) (hup j hj hjn)⟩
      · exact ⟨t, by omega, Int.dvd_trans (p2dvd (by omega)) h1, hup⟩
    · exact ⟨u, h2, h1, fun j hj hjn => by omega⟩
  refine ⟨?_, ?_⟩
  · rw [es]
    exact h.xv.add rl hx'.2 fun i hi => by
      obtain ⟨s, h1, _, h3, _⟩ := hold i hi
      exact ⟨s, h1, h3⟩
  · rw [es]
    intro i hi
    by_cases hz : rg (gl d q k) = 0
    · have ea : (gs d q k).add (gl d q k) = gs d q k := by unfold Ls.add; rw [if_pos hz]
      rw [ea] at hi ⊢
      obtain ⟨s, h1, h2, _, h4⟩ := hold i hi
      exact ⟨s, h1, h2, h4⟩
    · have ea : (gs d q k).add (gl d q k) = ⟨(gs d q k).n + 1, upd (gs d q k).d (gs d q k).n (gl d q k)⟩ := by unfold Ls.add; rw [if_neg hz]
      rw [ea] at hi ⊢
      have hi' : i < (gs d q k).n + 1 := hi
      show ∃ s : Nat, ((iV (upd (gs d q k).d (gs d q k).n (gl d q k) i)).natAbs : Int) < 2 ^ s ∧ _
      by_cases e : i = (gs d q k).n
      · subst e
        rw [upd_same]
        exact hnew hz
      · rw [upd_other _ _ e]
        obtain ⟨s, h1, h2, _, h4⟩ := hold i (by omega)
        exact ⟨s, h1, h2, h4⟩
theorem gi_all {d : Nat → Int} {q : Int} {n : Nat} (hd : XV d n) (hq : rng q) (pq : pok q = true) : ∀ k, k ≤ n → gx d q k = true → GI d q n k
  | 0, _, _ => ⟨⟨fun i hi => absurd hi (Nat.not_lt_zero _), fun i hi => absurd hi (Nat.not_lt_zero _)⟩, fun i hi => absurd hi (Nat.not_lt_zero _)⟩
  | k + 1, hk, hx => by
    have hx' : (gx d q k && pok (gl d q k)) = true := hx
    rw [Bool.and_eq_true] at hx'
    exact gi_step hd hq pq (by omega) hx (gi_all hd hq pq k (by omega) hx'.1)
/-- An expansion that a float is grown into is one. -/
theorem grw_xv {d : Nat → Int} {q : Int} {n : Nat} (hd : XV d n) (hq : rng q) (pq : pok q = true) (hx : gx d q n = true) : XV (grw n d q).d (grw n d q).n := by
  have hfin : ∀ i, i < n → rng (d i) ∧ pok (d i) = true := fun i hi => ⟨(hd.fin i hi).1, (hd.fin i hi).2.1⟩
  obtain ⟨r1, r2⟩ := gq_fin hfin hq pq n (Nat.le_refl _) hx
  have h := gi_all hd hq pq n (Nat.le_refl _) hx
  exact h.xv.add r1 r2 fun i hi => by
    obtain ⟨s, h1, h2, _⟩ := h.up i hi
    exact ⟨s, h1, h2⟩
/-- The exact sum, in units of the least float. -/
def lsm (d : Nat → Int) : Nat → Int
  | 0 => 0
  | k + 1 => lsm d k + iV (d k)
theorem lsm_succ (d : Nat → Int) (k : Nat) : lsm d (k + 1) = lsm d k + iV (d k) := rfl
theorem lsm_congr {d e : Nat → Int} : ∀ {n}, (∀ i, i < n → d i = e i) → lsm d n = lsm e n
  | 0, _ => rfl
  | n + 1, h => by rw [lsm_succ, lsm_succ, lsm_congr fun i hi => h i (by omega), h n (by omega)]
theorem lsm_add {s : Ls} {b : Int} (hb : rng b) : lsm (s.add b).d (s.add b).n = lsm s.d s.n + iV b := by
  unfold Ls.add
  split
  · rename_i hz
    rw [iV_nought hb hz, Int.add_zero]
  · show lsm (upd s.d s.n b) s.n + iV (upd s.d s.n b s.n) = _
    rw [upd_same, lsm_congr (e := s.d) fun i hi => upd_other _ _ (by omega)]
theorem gs_sum {d : Nat → Int} {q : Int} {n : Nat} (hd : ∀ i, i < n → rng (d i) ∧ pok (d i) = true) (hq : rng q) (pq : pok q = true) : ∀ k, k ≤ n → gx d q k = true → lsm (gs d q k).d (gs d q k).n + iV (gq d q k) = iV q + lsm d k
  | 0, _, _ => by show 0 + iV q = iV q + 0; omega
  | k + 1, hk, hx => by
    have hx' : (gx d q k && pok (gl d q k)) = true := hx
    rw [Bool.and_eq_true] at hx'
    have ih := gs_sum hd hq pq k (by omega) hx'.1
    obtain ⟨r1, r2⟩ := gq_fin hd hq pq k (by omega) hx'.1
    obtain ⟨d1, d2⟩ := hd k (by omega)
    have rl : rng (gl d q k) := sL_rng r1 d1
    obtain ⟨_, ps, e⟩ := sL_exact r1 d1 (show pok (sL (gq d q k) (d k)) = true from hx'.2)
    have eq1 : gq d q (k + 1) = fsum (gq d q k) (d k) := rfl
    have egl : gl d q k = sL (gq d q k) (d k) := rfl
    have es : gs d q (k + 1) = (gs d q k).add (gl d q k) := rfl
    rw [← egl, ← eq1] at e
    rw [es, lsm_add rl, lsm_succ]
    omega
theorem grw_sum {d : Nat → Int} {q : Int} {n : Nat} (hd : ∀ i, i < n → rng (d i) ∧ pok (d i) = true) (hq : rng q) (pq : pok q = true) (hx : gx d q n = true) : lsm (grw n d q).d (grw n d q).n = iV q + lsm d n := by
  have h := gs_sum hd hq pq n (Nat.le_refl _) hx
  obtain ⟨r1, r2⟩ := gq_fin hd hq pq n (Nat.le_refl _) hx
  show lsm ((gs d q n).add (gq d q n)).d ((gs d q n).add (gq d q n)).n = _
  rw [lsm_add r1]
  exact h
theorem mult_lt {x u t : Int} {s : Nat} (hs : (2 ^ s : Int) ∣ x) (hu : (2 ^ s : Int) ∣ t) (h : (x.natAbs : Int) < t) : (x.natAbs : Int) + 2 ^ s ≤ t := by
  obtain ⟨a, ha⟩ := Int.dvd_natAbs.2 hs
  obtain ⟨b, hb⟩ := hu
  have p := p2 s
  rw [ha, hb] at h ⊢
  have : a < b := Int.lt_of_mul_lt_mul_left h (Int.le_of_lt p)
  have h2 : (2 : Int) ^ s * (a + 1) ≤ 2 ^ s * b := Int.mul_le_mul_of_nonneg_left (by omega) (Int.le_of_lt p)
  rw [Int.mul_add, Int.mul_one] at h2
  exact h2
/-- What lies below the last float of an expansion is less than its lowest bit; with it, it is less than what the last is less than. -/
theorem lsm_lt {d : Nat → Int} : ∀ {n}, XV d (n + 1) → ∀ t : Nat, ((iV (d n)).natAbs : Int) < 2 ^ t → ((lsm d (n + 1)).natAbs : Int) < 2 ^ t
  | 0, h, t, ht => by
    have : lsm d 1 = iV (d 0) := by rw [lsm_succ]; show 0 + _ = _; omega
    rw [this]; exact ht
  | n + 1, h, t, ht => by
    obtain ⟨s, h1, h2⟩ := h.lo n (by omega)
    have ih := lsm_lt (n := n) ⟨fun i hi => h.fin i (by omega), fun i hi => h.lo i (by omega)⟩ s h1
    have hge := dvd_abs_le h2 (h.ne (by omega)) (p2 s)
    have hst : s < t := p2lt (Int.lt_of_le_of_lt hge ht)
    have h3 := mult_lt (u := 0) h2 (p2dvd (show s ≤ t by omega)) ht
    rw [lsm_succ]
    omega
end Go.Proofs.YtmgndnabaemgkaaDoor

/-
  Plain mathematics: sums of expansions, where no step is too great.
-/
namespace Go.Proofs.YtmgndnabaemgkaaDoor
open Go Go.RowKit Go.Proofs.YtmgndnabaemgkaaDoor.M
set_option linter.unusedSimpArgs false
set_option linter.unusedVariables false

theorem maxV_ge : (2 : Int) ^ 2097 ≤ maxV := by
  have h : (2 : Int) ^ 2097 ≤ (V Ieee.double 9218868437227405311 : Int) := by decide +kernel
  exact h
theorem p2_up {b c : Nat} {x : Int} (h : (x.natAbs : Int) ≤ 2 ^ b) (hbc : b ≤ c) : (x.natAbs : Int) ≤ 2 ^ c := Int.le_trans h (p2le hbc)
/-- No float of a list is greater. -/
def LB (s : Ls) (b : Nat) : Prop := ∀ i, i < s.n → ((iV (s.d i)).natAbs : Int) ≤ 2 ^ b
theorem LB.add {s : Ls} {b : Nat} (h : LB s b) {x : Int} (hx : ((iV x).natAbs : Int) ≤ 2 ^ b) : LB (s.add x) b := by
  unfold Ls.add
  split
  · exact h
  · intro i hi
    show ((iV (upd s.d s.n x i)).natAbs : Int) ≤ _
    by_cases e : i = s.n
    · subst e; rw [upd_same]; exact hx
    · rw [upd_other _ _ e]; exact h i (by have : i < s.n + 1 := hi; omega)
theorem gq_bd {d : Nat → Int} {q : Int} {n b : Nat} (hd : ∀ i, i < n → rng (d i) ∧ pok (d i) = true) (hq : rng q) (pq : pok q = true) (bd : ∀ i, i < n → ((iV (d i)).natAbs : Int) ≤ 2 ^ b) (bq : ((iV q).natAbs : Int) ≤ 2 ^ b) (hb : b + 2 * n ≤ 2090) :
    ∀ k, k ≤ n → gx d q k = true ∧ ((iV (gq d q k)).natAbs : Int) ≤ 2 ^ (b + 2 * k) ∧ LB (gs d q k) b
  | 0, _ => ⟨rfl, bq, fun i hi => absurd hi (Nat.not_lt_zero _)⟩
  | k + 1, hk => by
    obtain ⟨h1, h2, h3⟩ := gq_bd hd hq pq bd bq hb k (by omega)
    obtain ⟨r1, r2⟩ := gq_fin hd hq pq k (by omega) h1
    obtain ⟨d1, d2⟩ := hd k (by omega)
    have b1 := bd k (by omega)
    have hM := maxV_ge
    have p1 : (2 : Int) ^ (b + 2 * k + 1) ≤ 2 ^ 2097 := p2le (by omega)
    have p2' : (2 : Int) ^ (b + 1) ≤ 2 ^ 2097 := p2le (by omega)
    rw [p2s] at p1 p2'
    obtain ⟨f1, f2⟩ := sum_fin r1 d1 r2 d2 (by omega) (by omega)
    have nr := fsum_nr r1 d1 f2
    have hx : gx d q (k + 1) = true := by
      show (gx d q k && pok (gl d q k)) = true
      rw [h1]; exact f2
    have e := (sL_exact r1 d1 f2).2.2
    have hl := nr_loss (fl_iV (gq d q k)) nr
    have h0 := nr.2 0 fl_zero
    have hle : (2 : Int) ^ b ≤ 2 ^ (b + 2 * k) := p2le (by omega)
    have p3 : (2 : Int) ^ (b + 2 * (k + 1)) = 4 * 2 ^ (b + 2 * k) := by
      rw [show b + 2 * (k + 1) = b + 2 * k + 1 + 1 by omega, p2s, p2s]; omega
    refine ⟨hx, ?_, ?_⟩
    · show ((iV (fsum (gq d q k) (d k))).natAbs : Int) ≤ _
      rw [p3]
      omega
    · show LB ((gs d q k).add (gl d q k)) b
      refine h3.add ?_
      show ((iV (sL (gq d q k) (d k))).natAbs : Int) ≤ _
      have : iV (sL (gq d q k) (d k)) = iV (gq d q k) + iV (d k) - iV (fsum (gq d q k) (d k)) := by omega
      rw [this]
      omega
theorem grw_bd {s : Ls} {q : Int} {b : Nat} (hs : s.fin) (hq : rng q) (pq : pok q = true) (bd : LB s b) (bq : ((iV q).natAbs : Int) ≤ 2 ^ b) (hb : b + 2 * s.n ≤ 2090) : gx s.d q s.n = true ∧ LB (grw s.n s.d q) (b + 2 * s.n) := by
  obtain ⟨h1, h2, h3⟩ := gq_bd hs hq pq bd bq hb s.n (Nat.le_refl _)
  refine ⟨h1, ?_⟩
  show LB ((gs s.d q s.n).add (gq s.d q s.n)) _
  exact LB.add (fun i hi => p2_up (h3 i hi) (by omega)) h2
theorem XV.fn {s : Ls} (h : XV s.d s.n) : s.fin := fun i hi => ⟨(h.fin i hi).1, (h.fin i hi).2.1⟩
/-- Each float of a list grown into an expansion. -/
theorem gaS_all {s : Ls} {f : Nat → Int} {m b L : Nat} (hs : XV s.d s.n) (hf : ∀ i, i < m → rng (f i) ∧ pok (f i) = true) (bs : LB s b) (bf : ∀ i, i < m → ((iV (f i)).natAbs : Int) ≤ 2 ^ b) (hL : s.n + m ≤ L) (hb : b + 2 * L * m ≤ 2090) :
    ∀ k, k ≤ m → gaX s f k = true ∧ XV (gaS s f k).d (gaS s f k).n ∧ LB (gaS s f k) (b + 2 * L * k) ∧ lsm (gaS s f k).d (gaS s f k).n = lsm s.d s.n + lsm f k
  | 0, _ => ⟨rfl, hs, bs, by show lsm s.d s.n = lsm s.d s.n + 0; omega⟩
  | k + 1, hk => by
    obtain ⟨h1, h2, h3, h4⟩ := gaS_all hs hf bs bf hL hb k (by omega)
    obtain ⟨f1, f2⟩ := hf k (by omega)
    have hn := gaS_le s f k
    have hmul : 2 * L * (k + 1) ≤ 2 * L * m := Nat.mul_le_mul_left _ (by omega)
    rw [Nat.mul_add, Nat.mul_one] at hmul
    obtain ⟨g1, g2⟩ := grw_bd h2.fn f1 f2 h3 (p2_up (bf k (by omega)) (by omega)) (by omega)
    rw [gaX_succ, gaS_succ, h1, g1, lsm_succ]
    refine ⟨rfl, grw_xv h2 f1 f2 g1, fun i hi => p2_up (g2 i hi) (by rw [Nat.mul_add, Nat.mul_one]; omega), ?_⟩
    rw [grw_sum h2.fn f1 f2 g1, h4]
    omega
end Go.Proofs.YtmgndnabaemgkaaDoor

/-
  Plain mathematics: a pattern whose exponent is brought to the middle.
-/
namespace Go.Proofs.YtmgndnabaemgkaaDoor
open Go Go.RowKit Go.Proofs.YtmgndnabaemgkaaDoor.M
set_option linter.unusedSimpArgs false
set_option linter.unusedVariables false

/-- plumblaw7.made's pattern. -/
def mdb (z : Int) : Int := bits .or .i64 (bits .andNot .i64 z 9218868437227405312) ((823 + z / 4503599627370496 % 256) * 4503599627370496)
theorem mid_nat (u e : Nat) (he : e < 2048) : ((u &&& 9227875636482146303) ||| (e * 4503599627370496)) / 4503599627370496 % 2048 = e := by
  have h1 : ∀ a : Nat, a / 4503599627370496 = a >>> 52 := fun a => (Nat.shiftRight_eq_div_pow a 52).symm
  rw [h1, Nat.shiftRight_or_distrib, Nat.shiftRight_and_distrib]
  have h2 : (9227875636482146303 : Nat) >>> 52 = 2048 := by decide
  have h3 : (e * 4503599627370496) >>> 52 = e := by
    rw [Nat.shiftRight_eq_div_pow]; exact Nat.mul_div_cancel _ (by decide)
  rw [h2, h3]
  have h4 : ((u >>> 52 &&& 2048) ||| e) % 2 ^ 11 = ((u >>> 52 &&& 2048) % 2 ^ 11) ||| (e % 2 ^ 11) := Nat.or_mod_two_pow
  have h5 : (u >>> 52 &&& 2048) % 2 ^ 11 = (u >>> 52 % 2 ^ 11) &&& (2048 % 2 ^ 11) := Nat.and_mod_two_pow
  have h6 : (u >>> 52 % 2 ^ 11 &&& 2048 % 2 ^ 11) = 0 := by
    rw [show (2048 : Nat) % 2 ^ 11 = 0 by decide, Nat.and_zero]
  show _ % 2 ^ 11 = e
  rw [h4, h5, h6, Nat.zero_or]
  exact Nat.mod_eq_of_lt he
theorem wrap_nat (x : Nat) (h : x < 18446744073709551616) : (IntKind.i64.wrap (x : Int) % 18446744073709551616).toNat = x := by
  rw [IntKind.wrap_i64]
  omega
theorem shl_nat (e : Nat) (h : e < 2048) : (((e : Int) * 4503599627370496) % 18446744073709551616).toNat = e * 4503599627370496 := by omega
theorem fld_wrap (W e : Nat) (h : W < 18446744073709551616) (h3 : W / 4503599627370496 % 2048 = e) : rng (IntKind.i64.wrap (W : Int)) ∧ fld (IntKind.i64.wrap (W : Int)) = e := by
  unfold rng fld
  rw [IntKind.wrap_i64]
  omega
theorem or_lt64 {x y : Nat} (hx : x < 18446744073709551616) (hy : y < 18446744073709551616) : (x ||| y) < 18446744073709551616 := by
  have := Nat.or_lt_two_pow (n := 64) (x := x) (y := y) (by exact hx) (by exact hy)
  exact this
theorem mid_e (z : Int) : ∃ e : Nat, 823 + z / 4503599627370496 % 256 = e ∧ e < 2048 := ⟨(823 + z / 4503599627370496 % 256).toNat, by omega, by omega⟩
theorem and_lt64 (u : Nat) : u &&& 9227875636482146303 < 18446744073709551616 := Nat.lt_of_le_of_lt Nat.and_le_right (by decide)
theorem mid_fld (z : Int) : rng (mdb z) ∧ fld (mdb z) = 823 + z / 4503599627370496 % 256 := by
  obtain ⟨e, he, he2⟩ := mid_e z
  unfold mdb
  rw [he, bits_andNot64, bits_or64]
  have m1 : (18446744073709551615 - ((9218868437227405312 : Int) % 18446744073709551616).toNat) = 9227875636482146303 := by decide
  rw [m1, wrap_nat _ (and_lt64 _), shl_nat e he2]
  exact fld_wrap _ e (or_lt64 (and_lt64 _) (by omega)) (mid_nat _ e he2)
theorem mdb_eq (z : Int) : bits .or .i64 (bits .andNot .i64 z 9218868437227405312) (wrap64 (wrap64 (823 + bits .and .i64 (z / 4503599627370496) 255) * 4503599627370496)) = mdb z := by
  obtain ⟨e, he, he2⟩ := mid_e z
  rw [and_i64_255]
  unfold mdb
  rw [he, IntWalk.wrap64_in (e : Int) ⟨by omega, by omega⟩, IntWalk.wrap64_in ((e : Int) * 4503599627370496) ⟨by omega, by omega⟩]
theorem mid_facts (z : Int) : rng (mdb z) ∧ pok (mdb z) = true ∧ rg (mdb z) ≠ 0 ∧ ((iV (mdb z)).natAbs : Int) ≤ 2 ^ 1130 := by
  obtain ⟨h1, h2⟩ := mid_fld z
  have hf0 : fld (mdb z) ≠ 2047 := by omega
  have hf1 : fld (mdb z) ≠ 0 := by omega
  have hp : pok (mdb z) = true := by simp [pok, hf0]
  have hc : cls (mdb z) = 2 := by unfold cls; rw [if_neg hf0, if_neg hf1]
  have hfr := frc_le (mdb z)
  refine ⟨h1, hp, fun q => ?_, ?_⟩
  · have := (cls_nought h1).2 q
    omega
  · rw [iV_form h1 hp]
    have e1 : pmag (mdb z) = 4503599627370496 + frc (mdb z) := by unfold pmag; rw [if_neg hf0, if_neg hf1]
    have e2 : pexp (mdb z) = fld (mdb z) - 1075 := by unfold pexp; rw [if_neg hf0, if_neg hf1]
    have hm : pmag (mdb z) ≤ 2 ^ 53 := by
      rw [e1]
      show _ ≤ 9007199254740992
      omega
    have hx : (pexp (mdb z) + 1074).toNat ≤ 1077 := by rw [e2]; omega
    have p1 : (2 : Int) ^ (pexp (mdb z) + 1074).toNat ≤ 2 ^ 1077 := p2le hx
    have p0 := p2 (pexp (mdb z) + 1074).toNat
    calc pmag (mdb z) * 2 ^ (pexp (mdb z) + 1074).toNat ≤ 2 ^ 53 * 2 ^ (pexp (mdb z) + 1074).toNat := Int.mul_le_mul_of_nonneg_right hm (by omega)
      _ ≤ 2 ^ 53 * 2 ^ 1077 := Int.mul_le_mul_of_nonneg_left p1 (by decide)
      _ = 2 ^ 1130 := by rw [← Int.pow_add]
end Go.Proofs.YtmgndnabaemgkaaDoor

/-
  plumblaw7.made, by its contract.
-/
namespace Go.Proofs.YtmgndnabaemgkaaDoor
open Go Go.RowKit Go.Proofs.YtmgndnabaemgkaaDoor.M
set_option linter.unusedSimpArgs false
set_option linter.unusedVariables false

theorem mdS_all (z : Nat → Int) (k : Nat) (hk : k ≤ 12) : gaX ⟨0, fun _ => 0⟩ (fun i => mdb (z i)) k = true ∧ XV (gaS ⟨0, fun _ => 0⟩ (fun i => mdb (z i)) k).d (gaS ⟨0, fun _ => 0⟩ (fun i => mdb (z i)) k).n ∧ LB (gaS ⟨0, fun _ => 0⟩ (fun i => mdb (z i)) k) (1130 + 2 * 12 * k) := by
  obtain ⟨h1, h2, h3, _⟩ := gaS_all (s := ⟨0, fun _ => 0⟩) (f := fun i => mdb (z i)) (m := 12) (b := 1130) (L := 12) ⟨fun i hi => absurd hi (Nat.not_lt_zero _), fun i hi => absurd hi (Nat.not_lt_zero _)⟩ (fun i _ => ⟨(mid_facts (z i)).1, (mid_facts (z i)).2.1⟩) (fun i hi => absurd hi (Nat.not_lt_zero _)) (fun i _ => (mid_facts (z i)).2.2.2) (by decide) (by decide) k hk
  exact ⟨h1, h2, h3⟩
end Go.Proofs.YtmgndnabaemgkaaDoor

/-
  Plain mathematics: expansions times a float are expansions (Shewchuk), of the exact product.
-/
namespace Go.Proofs.YtmgndnabaemgkaaDoor
open Go Go.RowKit Go.Proofs.YtmgndnabaemgkaaDoor.M
set_option linter.unusedSimpArgs false
set_option linter.unusedVariables false

/-- Exact products, in units of the least float. -/
def PTs (d T : Nat → Int) (b : Int) (n : Nat) : Prop := ∀ j, j < n → 2 ^ 1074 * T j = iV (d j) * iV b
def tsm (T : Nat → Int) : Nat → Int
  | 0 => 0
  | k + 1 => tsm T k + T k
theorem tsm_succ (T : Nat → Int) (k : Nat) : tsm T (k + 1) = tsm T k + T k := rfl
theorem tsm_prod {d T : Nat → Int} {b : Int} {n : Nat} (h : PTs d T b n) : ∀ k, k ≤ n → 2 ^ 1074 * tsm T k = lsm d k * iV b
  | 0, _ => by show 2 ^ 1074 * (0 : Int) = 0 * iV b; rw [Int.mul_zero, Int.zero_mul]
  | k + 1, hk => by rw [tsm_succ, lsm_succ, Int.mul_add, Int.add_mul, tsm_prod h k (by omega), h k (by omega)]
theorem dvd_units {t B : Nat} {x b T : Int} (hx : (2 ^ t : Int) ∣ x) (hb : (2 ^ B : Int) ∣ b) (hT : 2 ^ 1074 * T = x * b) : (2 ^ (t + B - 1074) : Int) ∣ T := by
  by_cases h : t + B ≤ 1074
  · rw [Nat.sub_eq_zero_of_le h, Int.pow_zero]; exact Int.one_dvd _
  · obtain ⟨a, ha⟩ := hx
    obtain ⟨c, hc⟩ := hb
    refine ⟨a * c, ?_⟩
    have e : (2 : Int) ^ 1074 * T = 2 ^ 1074 * (2 ^ (t + B - 1074) * (a * c)) := by
      rw [hT, ha, hc, ← Int.mul_assoc (2 ^ 1074), ← Int.pow_add, show 1074 + (t + B - 1074) = t + B by omega, Int.pow_add]
      generalize (2 : Int) ^ t = X
      generalize (2 : Int) ^ B = Y
      grind
    exact Int.eq_of_mul_eq_mul_left (Int.ne_of_gt (p2 1074)) e
theorem fl_top {b : Int} {B : Nat} (h1 : (2 ^ B : Int) ∣ b) (h2 : (b.natAbs : Int) < 9007199254740992 * 2 ^ B) : (b.natAbs : Int) ≤ 9007199254740991 * 2 ^ B := by
  have h3 := mult_lt (u := 0) h1 (⟨9007199254740992, by rw [Int.mul_comm]⟩ : (2 ^ B : Int) ∣ 9007199254740992 * 2 ^ B) h2
  generalize (2 : Int) ^ B = Y at *
  omega
theorem k_prod2 {A C X Y M : Int} (hA : 0 ≤ A) (hC : 0 ≤ C) (h1 : A ≤ X - 1) (h2 : C ≤ M * Y) (hM : 0 < M) (hY : 0 < Y) : A * C < X * Y * M := by
  have e1 : A * C ≤ (X - 1) * C := Int.mul_le_mul_of_nonneg_right h1 hC
  have e2 : (X - 1) * C ≤ (X - 1) * (M * Y) := Int.mul_le_mul_of_nonneg_left h2 (by omega)
  have e3 : 0 < M * Y := Int.mul_pos hM hY
  have e4 : (X - 1) * (M * Y) = X * Y * M - M * Y := by grind
  omega
/-- A product with a float, of what is less than 2^t. -/
theorem prod_lt {t B : Nat} {x b T : Int} (hx : (x.natAbs : Int) < 2 ^ t) (h1 : (2 ^ B : Int) ∣ b) (h2 : (b.natAbs : Int) < 9007199254740992 * 2 ^ B) (hT : 2 ^ 1074 * T = x * b) : (T.natAbs : Int) < 9007199254740991 * 2 ^ (t + B - 1074) := by
  have h3 := fl_top h1 h2
  have e1 : ((2 ^ 1074 * T).natAbs : Int) = 2 ^ 1074 * (T.natAbs : Int) := natAbs_p2 1074 T
  have e2 : ((x * b).natAbs : Int) = (x.natAbs : Int) * (b.natAbs : Int) := by rw [Int.natAbs_mul, Int.natCast_mul]
  have e3 := k_prod2 (A := (x.natAbs : Int)) (C := (b.natAbs : Int)) (X := 2 ^ t) (Y := 2 ^ B) (M := 9007199254740991) (by omega) (by omega) (by omega) h3 (by decide) (p2 B)
  rw [← e2, ← hT, e1, ← Int.pow_add] at e3
  have e4 : (2 : Int) ^ (t + B) ≤ 2 ^ (1074 + (t + B - 1074)) := p2le (by omega)
  rw [Int.pow_add 2 1074] at e4
  have e5 : (2 : Int) ^ (t + B) * 9007199254740991 ≤ 2 ^ 1074 * 2 ^ (t + B - 1074) * 9007199254740991 := Int.mul_le_mul_of_nonneg_right e4 (by decide)
  have e6 : (2 : Int) ^ 1074 * (T.natAbs : Int) < 2 ^ 1074 * (9007199254740991 * 2 ^ (t + B - 1074)) := by
    refine Int.lt_of_lt_of_le e3 (Int.le_trans e5 ?_)
    rw [Int.mul_assoc, Int.mul_comm (2 ^ (t + B - 1074)) 9007199254740991]
    exact Int.le_refl _
  exact Int.lt_of_mul_lt_mul_left e6 (Int.le_of_lt (p2 1074))
theorem add_all {L : Ls} {l : Int} (P : Int → Prop) (h : ∀ i, i < L.n → P (L.d i)) (hl : rg l ≠ 0 → P l) : ∀ i, i < (L.add l).n → P ((L.add l).d i) := by
  intro i
  unfold Ls.add
  split
  · exact h i
  · rename_i hz
    intro hi
    have hi' : i < L.n + 1 := hi
    show P (upd L.d L.n l i)
    by_cases e : i = L.n
    · subst e; rw [upd_same]; exact hl hz
    · rw [upd_other _ _ e]; exact h i (by omega)
theorem lsm_all {d : Nat → Int} {n t : Nat} (h : XV d n) (ht : ∀ i, i < n → ((iV (d i)).natAbs : Int) < 2 ^ t) : ((lsm d n).natAbs : Int) < 2 ^ t := by
  cases n with
  | zero => have := p2 t; show (((0 : Int).natAbs : Nat) : Int) < _; omega
  | succ n => exact lsm_lt h t (ht n (by omega))
/-- Where Scale stands behind the float k: the list, and what was gathered. -/
structure SI (d T : Nat → Int) (B N k : Nat) (L : Ls) (q : Int) : Prop where
  xv : XV L.d L.n
  sum : lsm L.d L.n + iV q = tsm T (k + 1)
  up : ∀ i, i < L.n → ∃ s : Nat, ((iV (L.d i)).natAbs : Int) < 2 ^ s ∧ (2 ^ s : Int) ∣ iV q ∧ ∀ j, k < j → j ≤ N → (2 ^ s : Int) ∣ T j
  small : ∀ t : Nat, ((iV (d k)).natAbs : Int) < 2 ^ t → ∀ i, i < L.n → ((iV (L.d i)).natAbs : Int) < 2 ^ (t + B - 1074)
/-- Above a float: what all later ones are multiples of. -/
theorem xv_next {d T : Nat → Int} {b : Int} {B N k : Nat} (hd : XV d (N + 1)) (hB1 : (2 ^ B : Int) ∣ iV b) (hT : PTs d T b (N + 1)) (hk : k ≤ N) : ∃ t : Nat, ((iV (d k)).natAbs : Int) < 2 ^ t ∧ ∀ j, k < j → j ≤ N → (2 ^ (t + B - 1074) : Int) ∣ T j := by
  by_cases h : k < N
  · obtain ⟨t, k1, k2⟩ := hd.lo k (by omega)
    refine ⟨t, k1, fun j hj hjn => dvd_units ?_ hB1 (hT j (by omega))⟩
    by_cases e : j = k + 1
    · subst e; exact k2
    · obtain ⟨t2, m1, m2⟩ := hd.far (show k + 1 < j by omega) (by omega)
      have h4 := dvd_abs_le k2 (hd.ne (by omega)) (p2 t)
      have h5 : t < t2 := p2lt (Int.lt_of_le_of_lt h4 m1)
      exact Int.dvd_trans (p2dvd (by omega)) m2
  · refine ⟨(iV (d k)).natAbs, ?_, fun j hj hjn => by omega⟩
    have : (iV (d k)).natAbs < 2 ^ (iV (d k)).natAbs := Nat.lt_two_pow_self
    have h2 : (((iV (d k)).natAbs : Nat) : Int) < ((2 ^ (iV (d k)).natAbs : Nat) : Int) := by omega
    rwa [k_pow] at h2
theorem half_lt {x : Int} {g : Nat} (h : 2 * (x.natAbs : Int) ≤ 2 ^ g) : (x.natAbs : Int) < 2 ^ g := by
  have := p2 g
  omega
/-- The float nearest to a product, and what it lost. -/
theorem prod_facts {x b T : Int} (rx : rng x) (rb : rng b) (hx : pX x b = true) (hT : 2 ^ 1074 * T = iV x * iV b) : pok (fprod x b) = true ∧ pok (prL x b) = true ∧ iV (fprod x b) + iV (prL x b) = T ∧ Nr T (iV (fprod x b)) := by
  unfold pX at hx
  rw [Bool.and_eq_true] at hx
  obtain ⟨⟨px, pb⟩, pf, e⟩ := prL_exact rx rb hx.1 hT
  exact ⟨pf, hx.1, e, (stp_prod rx rb px pb hT).nr pf⟩
theorem si_zero {d T : Nat → Int} {b : Int} {B N : Nat} (hd : XV d (N + 1)) (rb : rng b) (hB1 : (2 ^ B : Int) ∣ iV b) (hB2 : ((iV b).natAbs : Int) < 9007199254740992 * 2 ^ B) (hT : PTs d T b (N + 1)) (hx : pX (d 0) b = true) : SI d T B N 0 ((⟨0, fun _ => 0⟩ : Ls).add (prL (d 0) b)) (fprod (d 0) b) := by
  obtain ⟨r0, p0, z0⟩ := hd.fin 0 (by omega)
  obtain ⟨pf, pl, e, nr⟩ := prod_facts r0 rb hx (hT 0 (by omega))
  have rl := prL_rng r0 rb
  have small : ∀ t : Nat, ((iV (d 0)).natAbs : Int) < 2 ^ t → ((iV (prL (d 0) b)).natAbs : Int) < 2 ^ (t + B - 1074) := fun t ht => by
    have h1 := prod_lt ht hB1 hB2 (hT 0 (by omega))
    have h2 := nr_err nr (i := t + B - 1074) (by have := p2 (t + B - 1074); omega)
    have h3 : iV (prL (d 0) b) = T 0 - iV (fprod (d 0) b) := by omega
    refine half_lt ?_
    rw [h3]
    omega
  refine ⟨XV.add ⟨fun i hi => absurd hi (Nat.not_lt_zero _), fun i hi => absurd hi (Nat.not_lt_zero _)⟩ rl pl (fun i hi => absurd hi (Nat.not_lt_zero _)), ?_, ?_, fun t ht => add_all (fun x => ((iV x).natAbs : Int) < 2 ^ (t + B - 1074)) (fun i hi => absurd hi (Nat.not_lt_zero _)) fun _ => small t ht⟩
  · rw [lsm_add rl, tsm_succ]
    show (0 : Int) + _ + _ = 0 + _
    omega
  · refine add_all (fun x => ∃ s : Nat, ((iV x).natAbs : Int) < 2 ^ s ∧ (2 ^ s : Int) ∣ iV (fprod (d 0) b) ∧ ∀ j, 0 < j → j ≤ N → (2 ^ s : Int) ∣ T j) (fun i hi => absurd hi (Nat.not_lt_zero _)) fun hz => ?_
    have hne := (iV_some rl pl hz).1
    obtain ⟨u, h1, h2⟩ := nr_unit nr (fun c => hne (by omega))
    obtain ⟨t, k1, k2⟩ := xv_next hd hB1 hT (k := 0) (by omega)
    have h3 := small t k1
    have h4 : iV (prL (d 0) b) = T 0 - iV (fprod (d 0) b) := by omega
    rw [← h4] at h2
    by_cases hut : u ≤ t + B - 1074
    · exact ⟨u, h2, h1, fun j hj hjn => Int.dvd_trans (p2dvd hut) (k2 j hj hjn)⟩
    · exact ⟨t + B - 1074, h3, Int.dvd_trans (p2dvd (by omega)) h1, k2⟩
theorem si_step {d T : Nat → Int} {b : Int} {B N k : Nat} (hd : XV d (N + 1)) (rb : rng b) (hB1 : (2 ^ B : Int) ∣ iV b) (hB2 : ((iV b).natAbs : Int) < 9007199254740992 * 2 ^ B) (hT : PTs d T b (N + 1)) (hk : k < N) {L : Ls} {q : Int} (rq : rng q) (pq : pok q = true) (h : SI d T B N k L q)
    (hx1 : pX (d (k + 1)) b = true) (hx2 : pok (sL q (prL (d (k + 1)) b)) = true) (hx3 : fX (fprod (d (k + 1)) b) (fsum q (prL (d (k + 1)) b)) = true) :
    SI d T B N (k + 1) ((L.add (sL q (prL (d (k + 1)) b))).add (fL (fprod (d (k + 1)) b) (fsum q (prL (d (k + 1)) b)))) (fsum (fprod (d (k + 1)) b) (fsum q (prL (d (k + 1)) b))) := by
  obtain ⟨rx, px, zx⟩ := hd.fin (k + 1) (by omega)
  have xne := hd.ne (show k + 1 < N + 1 by omega)
  have hTk := hT (k + 1) (by omega)
  obtain ⟨pT, pu, eT, nT⟩ := prod_facts rx rb hx1 hTk
  have ru := prL_rng rx rb
  have rT := fprod_rng rx rb
  have n1 := fsum_nr rq ru hx2
  obtain ⟨_, p1, e1⟩ := sL_exact rq ru hx2
  have r1 := fsum_rng rq ru
  have rl1 : rng (sL q (prL (d (k + 1)) b)) := sL_rng rq ru
  obtain ⟨p2', pl2⟩ := fX_fin rT r1 hx3
  have e2 : iV (fsum (fprod (d (k + 1)) b) (fsum q (prL (d (k + 1)) b))) + iV (fL (fprod (d (k + 1)) b) (fsum q (prL (d (k + 1)) b))) = iV (fprod (d (k + 1)) b) + iV (fsum q (prL (d (k + 1)) b)) := by
    have := fX_iff rT r1 pl2
    rw [hx3] at this
    exact of_decide_eq_true this.symm
  have n2 := (stp_sum rT r1 pT p1).nr p2'
  have rl2 : rng (fL (fprod (d (k + 1)) b) (fsum q (prL (d (k + 1)) b))) := fL_rng rT r1
  obtain ⟨hxv, hsum, hup, hsmall⟩ := h
  have hl1 := nr_loss (fl_iV q) n1
  generalize fL (fprod (d (k + 1)) b) (fsum q (prL (d (k + 1)) b)) = l2 at *
  generalize fsum (fprod (d (k + 1)) b) (fsum q (prL (d (k + 1)) b)) = q2 at *
  generalize sL q (prL (d (k + 1)) b) = l1 at *
  generalize fsum q (prL (d (k + 1)) b) = q1 at *
  generalize prL (d (k + 1)) b = u at *
  generalize fprod (d (k + 1)) b = Tp at *
  have eu : iV u = T (k + 1) - iV Tp := by omega
  have el1 : iV l1 = iV q + iV u - iV q1 := by omega
  have el2 : iV l2 = iV Tp + iV q1 - iV q2 := by omega
  rw [← el1] at hl1
  have hold : ∀ i, i < L.n → ∃ s : Nat, ((iV (L.d i)).natAbs : Int) < 2 ^ s ∧ (2 ^ s : Int) ∣ iV l1 ∧ (2 ^ s : Int) ∣ iV l2 ∧ (2 ^ s : Int) ∣ iV q2 ∧ ∀ j, k + 1 < j → j ≤ N → (2 ^ s : Int) ∣ T j := fun i hi => by
    obtain ⟨s, h1, h2, h3⟩ := hup i hi
    have d1 := h3 (k + 1) (by omega) (by omega)
    have d2 := nr_dvd nT d1
    have d3 : (2 ^ s : Int) ∣ iV u := by rw [eu]; exact Int.dvd_sub d1 d2
    have d4 : (2 ^ s : Int) ∣ iV q + iV u := Int.dvd_add h2 d3
    have d5 := nr_dvd n1 d4
    have d6 : (2 ^ s : Int) ∣ iV Tp + iV q1 := Int.dvd_add d2 d5
    have d7 := nr_dvd n2 d6
    exact ⟨s, h1, by rw [el1]; exact Int.dvd_sub d4 d5, by rw [el2]; exact Int.dvd_sub d6 d7, d7, fun j hj hjn => h3 j (by omega) hjn⟩
  have hxv1 : XV (L.add l1).d (L.add l1).n := hxv.add rl1 hx2 fun i hi => by
    obtain ⟨s, h1, h2, _⟩ := hold i hi
    exact ⟨s, h1, h2⟩
  have hu : ∀ t : Nat, ((iV (d (k + 1))).natAbs : Int) < 2 ^ t → 2 * ((iV u).natAbs : Int) ≤ 2 ^ (t + B - 1074) := fun t ht => by
    have h1 := prod_lt ht hB1 hB2 hTk
    have h2 := nr_err nT (i := t + B - 1074) (by have := p2 (t + B - 1074); omega)
    rw [eu]
    omega
  have hs1 : ∀ t : Nat, ((iV (d (k + 1))).natAbs : Int) < 2 ^ t → ∀ i, i < (L.add l1).n → ((iV ((L.add l1).d i)).natAbs : Int) < 2 ^ (t + B - 1074) := fun t ht => by
    refine add_all (fun x => ((iV x).natAbs : Int) < 2 ^ (t + B - 1074)) (fun i hi => ?_) fun _ => ?_
    · obtain ⟨t0, k1, k2⟩ := hd.lo k (by omega)
      have h1 := hsmall t0 k1 i hi
      have h2 := dvd_abs_le k2 xne (p2 t0)
      have h3 : t0 < t := p2lt (Int.lt_of_le_of_lt h2 ht)
      exact Int.lt_of_lt_of_le h1 (p2le (by omega))
    · have := half_lt (hu t ht)
      omega
  have hl2 : ∀ t : Nat, ((iV (d (k + 1))).natAbs : Int) < 2 ^ t → ((iV l2).natAbs : Int) < 2 ^ (t + B - 1074) := fun t ht => by
    have h1 := lsm_all hxv1 (hs1 t ht)
    rw [lsm_add rl1] at h1
    have hxk : XV d (k + 1 + 1) := ⟨fun i hi => hd.fin i (by omega), fun i hi => hd.lo i (by omega)⟩
    have h2 := prod_lt (lsm_lt hxk t ht) hB1 hB2 (tsm_prod hT (k + 1 + 1) (by omega))
    rw [tsm_succ] at h2
    have h3 := nr_err n2 (i := t + B - 1074) (by
      generalize (2 : Int) ^ (t + B - 1074) = Y at *
      omega)
    refine half_lt ?_
    rw [el2]
    omega
  have hl1s : rg l1 ≠ 0 → ∃ s : Nat, ((iV l1).natAbs : Int) < 2 ^ s ∧ (2 ^ s : Int) ∣ iV l2 ∧ (2 ^ s : Int) ∣ iV q2 ∧ ∀ j, k + 1 < j → j ≤ N → (2 ^ s : Int) ∣ T j := fun hz => by
    have hne := (iV_some rl1 hx2 hz).1
    obtain ⟨u1, a1, a2⟩ := nr_unit n1 (fun c => hne (by omega))
    rw [← el1] at a2
    obtain ⟨u2, b1, b2⟩ := nr_unit nT (fun c => hne (by omega))
    rw [← eu] at b2
    obtain ⟨t, k1, k2⟩ := xv_next hd hB1 hT (k := k + 1) (by omega)
    have c2 := half_lt (hu t k1)
    obtain ⟨s, hs1, hs2, hs3, hs4⟩ : ∃ s : Nat, s ≤ u1 ∧ s ≤ u2 ∧ s ≤ t + B - 1074 ∧ ((iV l1).natAbs : Int) < 2 ^ s := by
      by_cases h1 : u1 ≤ u2 ∧ u1 ≤ t + B - 1074
      · exact ⟨u1, Nat.le_refl _, h1.1, h1.2, a2⟩
      · by_cases h2 : u2 ≤ t + B - 1074 ∧ u2 ≤ u1
        · exact ⟨u2, h2.2, Nat.le_refl _, h2.1, by omega⟩
        · exact ⟨t + B - 1074, by omega, by omega, Nat.le_refl _, by omega⟩
    have d6 : (2 ^ s : Int) ∣ iV Tp + iV q1 := Int.dvd_add (Int.dvd_trans (p2dvd hs2) b1) (Int.dvd_trans (p2dvd hs1) a1)
    have d7 := nr_dvd n2 d6
    exact ⟨s, hs4, by rw [el2]; exact Int.dvd_sub d6 d7, d7, fun j hj hjn => Int.dvd_trans (p2dvd hs3) (k2 j hj hjn)⟩
  have hl2s : rg l2 ≠ 0 → ∃ s : Nat, ((iV l2).natAbs : Int) < 2 ^ s ∧ (2 ^ s : Int) ∣ iV q2 ∧ ∀ j, k + 1 < j → j ≤ N → (2 ^ s : Int) ∣ T j := fun hz => by
    have hne := (iV_some rl2 pl2 hz).1
    obtain ⟨u3, a1, a2⟩ := nr_unit n2 (fun c => hne (by omega))
    rw [← el2] at a2
    obtain ⟨t, k1, k2⟩ := xv_next hd hB1 hT (k := k + 1) (by omega)
    have c2 := hl2 t k1
    by_cases hut : u3 ≤ t + B - 1074
    · exact ⟨u3, a2, a1, fun j hj hjn => Int.dvd_trans (p2dvd hut) (k2 j hj hjn)⟩
    · exact ⟨t + B - 1074, c2, Int.dvd_trans (p2dvd (by omega)) a1, k2⟩
  refine ⟨hxv1.add rl2 pl2 ?_, ?_, ?_, fun t ht => add_all (fun x => ((iV x).natAbs : Int) < 2 ^ (t + B - 1074)) (hs1 t ht) fun _ => hl2 t ht⟩
  · refine add_all (fun x => Lo (iV x) (iV l2)) (fun i hi => ?_) fun hz => ?_
    · obtain ⟨s, h1, _, h3, _⟩ := hold i hi
      exact ⟨s, h1, h3⟩
    · obtain ⟨s, h1, h2, _⟩ := hl1s hz
      exact ⟨s, h1, h2⟩
  · rw [lsm_add rl2, lsm_add rl1, tsm_succ]
    omega
  · refine add_all (fun x => ∃ s : Nat, ((iV x).natAbs : Int) < 2 ^ s ∧ (2 ^ s : Int) ∣ iV q2 ∧ ∀ j, k + 1 < j → j ≤ N → (2 ^ s : Int) ∣ T j) ?_ hl2s
    refine add_all (fun x => ∃ s : Nat, ((iV x).natAbs : Int) < 2 ^ s ∧ (2 ^ s : Int) ∣ iV q2 ∧ ∀ j, k + 1 < j → j ≤ N → (2 ^ s : Int) ∣ T j) (fun i hi => ?_) fun hz => ?_
    · obtain ⟨s, h1, _, _, h4, h5⟩ := hold i hi
      exact ⟨s, h1, h4, h5⟩
    · obtain ⟨s, h1, _, h3, h4⟩ := hl1s hz
      exact ⟨s, h1, h3, h4⟩
end Go.Proofs.YtmgndnabaemgkaaDoor

/-
  Package expansion: add, grow, with blocks that stay, by their contracts.
-/
namespace Go.Proofs.YtmgndnabaemgkaaDoor
open Go Go.RowKit Go.Proofs.YtmgndnabaemgkaaDoor.M
set_option linter.unusedSimpArgs false
set_option linter.unusedVariables false

/-- The blocks P are there; they stay. -/
def PB (P : Nat → Prop) (w : World) : Prop := ∀ k, P k → k < w.heap.size
structure BelP (P : Nat → Prop) (w w' : World) : Prop where
  os : w'.os = w.os
  tape : w'.tape = w.tape
  output : w'.output = w.output
  size : w.heap.size ≤ w'.heap.size
  block : ∀ k, P k → w'.heap[k]? = w.heap[k]?
theorem BelP.refl (P : Nat → Prop) (w : World) : BelP P w w := ⟨rfl, rfl, rfl, Nat.le_refl _, fun _ _ => rfl⟩
theorem BelP.trans {P : Nat → Prop} {a b c : World} (h : BelP P a b) (k : BelP P b c) : BelP P a c :=
  ⟨k.os.trans h.os, k.tape.trans h.tape, k.output.trans h.output, Nat.le_trans h.size k.size, fun i hi => (k.block i hi).trans (h.block i hi)⟩
theorem BelP.of {P : Nat → Prop} {w w' : World} (h : Below w.heap.size w w') (hP : PB P w) : BelP P w w' := ⟨h.os, h.tape, h.output, h.size, fun k hk => h.block k (hP k hk)⟩
theorem PB.le {P : Nat → Prop} {w w' : World} (h : PB P w) (hs : w.heap.size ≤ w'.heap.size) : PB P w' := fun k hk => Nat.lt_of_lt_of_le (h k hk) hs
/-- A list of the call's own, of none of the blocks P. -/
def OutP (P : Nat → Prop) (w : World) (v : Value) (s : Ls) : Prop := Out 0 w v s.n s.d ∧ ∀ k, v.ownBlock = some k → ¬ P k
theorem OutP.shape {P : Nat → Prop} {w : World} {v : Value} {s : Ls} (h : OutP P w v s) : ∃ ao cap, v = .slice ao s.n cap := by
  obtain ⟨ao, cap, e, _⟩ := h.1.row
  exact ⟨ao, cap, e⟩
theorem OutP.stays {P : Nat → Prop} {w w' : World} {v : Value} {s : Ls} (h : OutP P w v s) (hb : Below w.heap.size w w') : OutP P w' v s := ⟨h.1.stays hb, h.2⟩
theorem OutP.gr {P : Nat → Prop} {w w' : World} {v : Value} {s : Ls} (h : OutP P w v s) (hP : PB P w) (g : w.grownBy w' v.ownBlock) : BelP P w w' :=
  ⟨g.os, g.tape, g.output, g.size, fun k hk => g.block k (hP k hk) fun e => h.2 k e.symm hk⟩
theorem wpList_appT {w : World} {ops : Array Oper} {rest : List Oper} {o : Oper} {a : Act} {Q : Exit → Act → World → Prop} (hgd : o.guard = none) (s x : Operand) (ho : o.op = .call { callee := .builtin .append, args := #[s, x], argTypes := #[22, 22] })
    (B : Nat) (v : Value) (n : Nat) (d : Nat → Int) (hs : a.eval s = v) (hO : Out B w v n d) (bo : Option Addr) (m cb : Nat) (e : Nat → Int) (hx : a.eval x = .slice bo m cb) (hR : Row w bo m cb e) (hlen : n + m ≤ 1000000) (hB : B ≤ w.heap.size)
    (h : ∀ v' w', Out B w' v' (n + m) (cat d n e) → w.grownBy w' v.ownBlock → (v'.ownBlock = v.ownBlock ∨ v'.ownBlock = some w.heap.size) → wpList Tryd.prog ops Q rest (a.put o.dst v') w') : wpList Tryd.prog ops Q (o :: rest) a w := by
  obtain ⟨v', w', hr, h2, h3, h4⟩ := run_app o.type B v n d hO bo m cb e hR hlen hB
  exact Lib.wpList_append_run w hgd s x _ _ ho v (.slice bo m cb) hs hx _ w' hr (h v' w' h2 h3 h4)
set_option maxRecDepth 100000 in
theorem xaddP {P : Nat → Prop} {v : Value} {s : Ls} {b : Int} (w : World) (h : OutP P w v s) (hb : rng b) (hn : s.n ≤ 900000) (hP : PB P w) :
    Calls Tryd.prog 59 #[v, .int .i64 b] w fun e w' => ∃ v', e = .returned v' ∧ OutP P w' v' (s.add b) ∧ BelP P w w' := by
  have hz := fun W => xnought hb W
  by_cases h0 : rg b = 0
  · have e : s.add b = s := by unfold Ls.add; rw [if_pos h0]
    rw [decide_eq_true h0] at hz
    rw [e]
    go_enter Tryd.func59, Tryd.ntmps59
    go_wp2_with (go_at_call 56; refine (hz _).mono ?_; rintro _ _ ⟨rfl, rfl⟩)
    go_ret
    exact ⟨v, rfl, h, BelP.refl _ _⟩
  · have e : s.add b = ⟨s.n + 1, upd s.d s.n b⟩ := by unfold Ls.add; rw [if_neg h0]
    rw [decide_eq_false h0] at hz
    rw [e]
    go_enter Tryd.func59, Tryd.ntmps59
    go_wp2_with (first
      | (go_at_call 56; refine (hz _).mono ?_; rintro _ _ ⟨rfl, rfl⟩)
      | (at_builtin; refine wpList_appT rfl _ _ rfl 0 _ s.n s.d rfl (h.1.stays (bel_alloc _ _)) _ 1 1 (fun _ => b) rfl (row1 _ _ rfl) (by omega) (Nat.zero_le _) ?_; intro v' w1 hO1 hg1 hat1))
    go_ret
    refine ⟨v', rfl, ⟨hO1.congr fun i hi => ?_, fun k hk => ?_⟩, h.gr hP (grown_past hg1)⟩
    · by_cases e : i < s.n
      · simp [cat, e, upd_other s.d _ (show i ≠ s.n by omega)]
      · obtain rfl : i = s.n := by omega
        simp [cat, upd_same]
    · rcases hat1 with q | q
      · exact h.2 k (q.symm.trans hk)
      · rw [hk] at q
        intro hPk
        have := hP k hPk
        simp at q
        omega
set_option maxRecDepth 100000 in
set_option maxHeartbeats 2000000 in
theorem xgrowP_some {P : Nat → Prop} {g n cap : Nat} {d : Nat → Int} {q : Int} (w : World) (h0 : OutP P w (.slice (some ⟨g, 0, none⟩) n cap) ⟨n, d⟩) (hd : ∀ i, i < n → rng (d i) ∧ pok (d i) = true) (hq : rng q) (pq : pok q = true) (hn : n ≤ 800000) (hP : PB P w) :
    Calls Tryd.prog 47 #[.slice (some ⟨g, 0, none⟩) n cap, .int .i64 q] w fun e w' => (gx d q n = true ∧ ∃ v', e = .returned v' ∧ OutP P w' v' (grw n d q) ∧ BelP P w w') ∨ (gx d q n = false ∧ e = gaveX ∧ BelP P w w') := by
  have h : Out 0 w (.slice (some ⟨g, 0, none⟩) n cap) n d := h0.1
  have HNP : Hid (¬ P g) := h0.2 g rfl
  have HPB : Hid (PB P w) := hP
  have HGP : Hid (∀ W, w.grownBy W (some g) → BelP P w W) := fun W hW => h0.gr hP hW
  clear h0 hP
  obtain ⟨hI, hnc, hcm, hBg⟩ := h.inB
  have HQ : Hid (∀ k, k ≤ n → gx d q k = true → rng (gq d q k) ∧ pok (gq d q k) = true) := gq_fin hd hq pq
  have HDD : Hid (∀ i, i < n → rng (d i) ∧ pok (d i) = true) := hd
  have hgl : g < w.heap.size := by obtain ⟨cur, h1, _⟩ := hI; exact (Array.getElem?_eq_some_iff.1 h1).1
  clear hd h hq pq
  go_enter Tryd.func47, Tryd.ntmps47
  go_wp2_with fail
  go_loopw [1, 5, 13] (fun qv gv iv wr => ∃ k : Nat, k ≤ n ∧ iv = .int .i64 k ∧ qv = .int .i64 (gq d q k) ∧ gv = .slice (some ⟨g, 0, none⟩) (gs d q k).n cap ∧ Hid (gx d q k = true) ∧ Hid (InB wr g cap n (gs d q k)) ∧ Hid (w.grownBy wr (some g))) (fun _ _ iv _ => n - (intOf iv).toNat)
  case atStart => exact ⟨0, Nat.zero_le _, rfl, rfl, rfl, rfl, hI, World.grownBy.refl _ _⟩
  case round =>
    obtain ⟨k, hk, rfl, rfl, rfl, HX, HI, HG⟩ := hrel
    clear hI
    have hsn := gs_le d q k
    by_cases hlt : k < n
    · obtain ⟨r1, r2⟩ := HQ.out k hk HX.out
      obtain ⟨d1, d2⟩ := HDD.out k hlt
      have c0 : wr.cell? ⟨g, k, none⟩ = some (.int .i64 (d k)) := by
        obtain ⟨cur, h1, h2, h3⟩ := HI.out
        rw [cell_of_row wr g k cur _ _ h1, h3 k hlt, gs_tail d q k k (Nat.le_refl _)]
      have CT : Hid (∀ W, Calls Tryd.prog 60 #[.int .i64 (gq d q k), .int .i64 (d k)] W fun e w' => e = .returned (.tuple #[.int .i64 (gq d q (k + 1)), .int .i64 (gl d q k), .bool (pok (gl d q k))]) ∧ Below W.heap.size W w') := fun W => xtwoSum r1 d1 r2 d2 W
      have rl : rng (gl d q k) := sL_rng r1 d1
      have i0 : (0 : Int) ≤ (k : Int) := by omega
      have i1 : (k : Int) < (n : Int) := by omega
      have HS : Hid (gs d q (k + 1) = (gs d q k).add (gl d q k)) := rfl
      have HXS : Hid (gx d q (k + 1) = (gx d q k && pok (gl d q k))) := rfl
      have HNO : Hid (pok (gl d q k) = false → gx d q n = false) := fun hno => by
        cases hx : gx d q n
        · rfl
        · have := gx_mono (show k + 1 ≤ n by omega) hx
          rw [HXS.out, hno, Bool.and_false] at this
          cases this
      obtain ⟨q', hq'⟩ : ∃ q', gq d q (k + 1) = q' := ⟨_, rfl⟩
      rw [hq'] at CT
      have HQ' : Hid (gq d q (k + 1) = q') := hq'
      clear hq'
      generalize gl d q k = l at *
      generalize gq d q k = q0 at *
      generalize hd0 : d k = dk at *
      have HD0 : Hid (d k = dk) := hd0
      clear hd0 r1 r2 d1 d2
      have CA := fun W h => xadd_in (g := g) (cap := cap) (N := n) (s := gs d q k) (b := l) W h rl (by omega)
      generalize hs0 : gs d q k = s0 at *
      have HS0 : Hid (gs d q k = s0) := hs0
      clear hs0
      cases hl : pok l
      · rw [hl] at CT
        go_wp2_with fail
        refine (CT.out _).mono ?_
        rintro _ w1 ⟨rfl, hb1⟩
        go_wp2_with fail
        refine (xsure_no _ _ _).mono ?_
        rintro _ _ ⟨rfl, rfl⟩
        unfold gaveX
        go_wp2
        exact ⟨rfl, .inr ⟨HNO.out hl, rfl, HGP.out _ (grown_bel2 HG.out hb1)⟩⟩
      · rw [hl] at CT
        go_wp2_with fail
        refine (CT.out _).mono ?_
        rintro _ w1 ⟨rfl, hb1⟩
        go_wp2_with fail
        refine (xsure_yes _ _ _).mono ?_
        rintro _ _ ⟨rfl, rfl⟩
        rename_i w1
        go_wp2_with fail
        refine (CA _ (HI.out.keeps hb1)).mono ?_
        rintro _ w2 ⟨rfl, hI2, hg2⟩
        go_wp2
        go_roundw
        case rel => exact ⟨k + 1, by omega, by go_num, by rw [HQ'.out], by rw [HS.out], by show _ = _; rw [HXS.out, HX.out, hl]; rfl, by show InB _ _ _ _ _; rw [HS.out]; exact hI2, xgr_trans (grown_bel2 HG.out hb1) hg2⟩
        case measure => simp [intOf]; omega
    · obtain rfl : k = n := by omega
      have hO : OutP P wr (.slice (some ⟨g, 0, none⟩) (gs d q k).n cap) (gs d q k) := ⟨HI.out.out (B := 0) hsn hnc (Nat.zero_le _) hcm, fun j hj => by cases hj; exact HNP.out⟩
      have HQ2 : Hid (rng (gq d q k) ∧ pok (gq d q k) = true) := HQ.out k hk HX.out
      have CA : Hid (∀ W, W = wr → Calls Tryd.prog 59 #[.slice (some ⟨g, 0, none⟩) (gs d q k).n cap, .int .i64 (gq d q k)] W fun e w' => ∃ v', e = .returned v' ∧ OutP P w' v' (grw k d q) ∧ BelP P W w') := fun W hW => by
        subst hW
        exact xaddP W hO HQ2.out.1 (by omega) (HPB.out.le HG.out.size)
      generalize gq d q k = q0 at *
      generalize gs d q k = s0 at *
      clear hO
      go_wp2_with fail
      refine (CA.out _ rfl).mono ?_
      rintro _ w2 ⟨v', rfl, hO2, hg2⟩
      go_wp2
      go_ret
      exact .inl ⟨HX.out, v', rfl, hO2, (HGP.out _ HG.out).trans hg2⟩
/-- grow of a list of the call's own. -/
theorem xgrowP {P : Nat → Prop} {v : Value} {s : Ls} {q : Int} (w : World) (h : OutP P w v s) (hd : s.fin) (hq : rng q) (pq : pok q = true) (hn : s.n ≤ 800000) (hP : PB P w) :
    Calls Tryd.prog 47 #[v, .int .i64 q] w fun e w' => (gx s.d q s.n = true ∧ ∃ v', e = .returned v' ∧ OutP P w' v' (grw s.n s.d q) ∧ BelP P w w') ∨ (gx s.d q s.n = false ∧ e = gaveX ∧ BelP P w w') := by
  obtain ⟨n, d⟩ := s
  rcases id h.1.2 with ⟨rfl, h0⟩ | ⟨g, cap, cur, rfl, _⟩
  · have h0' : n = 0 := h0
    subst h0'
    have CA : Hid (∀ W, W = w → Calls Tryd.prog 59 #[.slice none 0 0, .int .i64 q] W fun e w' => ∃ v', e = .returned v' ∧ OutP P w' v' (grw 0 d q) ∧ BelP P W w') := fun W hW => by
      subst hW
      exact xaddP (s := ⟨0, d⟩) W h hq (Nat.zero_le _) hP
    clear h hd hq pq
    go_enter Tryd.func47, Tryd.ntmps47
    go_wp2_with fail
    go_loopw [1, 5, 13] (fun qv gv iv wr => iv = .int .i64 0 ∧ qv = .int .i64 q ∧ gv = .slice none 0 0 ∧ wr = w) (fun _ _ iv _ => 0)
    case atStart => exact ⟨rfl, rfl, rfl, rfl⟩
    case round =>
      obtain ⟨rfl, rfl, rfl, rfl⟩ := hrel
      go_wp2_with fail
      refine (CA.out _ rfl).mono ?_
      rintro _ w2 ⟨v', rfl, hO2, hg2⟩
      go_wp2
      go_ret
      exact .inl ⟨rfl, v', rfl, hO2, hg2⟩
  · exact xgrowP_some w h hd hq pq hn hP
end Go.Proofs.YtmgndnabaemgkaaDoor

/-
  Package expansion: gather, with blocks that stay, by their contracts.
-/
namespace Go.Proofs.YtmgndnabaemgkaaDoor
open Go Go.RowKit Go.Proofs.YtmgndnabaemgkaaDoor.M
set_option linter.unusedSimpArgs false
set_option linter.unusedVariables false

set_option maxRecDepth 100000 in
set_option maxHeartbeats 400000 in
/-- gather, of a list f that lies below B. -/
theorem xgatherP {P : Nat → Prop} {v : Value} {s : Ls} {fo : Option Addr} {m fc : Nat} {f : Nat → Int} (w : World) (h : OutP P w v s) (hs : s.fin) (hf : ∀ W, BelP P w W → Row W fo m fc f) (hff : ∀ i, i < m → rng (f i) ∧ pok (f i) = true) (hn : s.n + m ≤ 700000) (hB : PB P w) :
    Calls Tryd.prog 35 #[v, .slice fo m fc] w fun e w' => (gaX s f m = true ∧ ∃ v', e = .returned v' ∧ OutP P w' v' (gaS s f m) ∧ BelP P w w') ∨ (gaX s f m = false ∧ e = gaveX ∧ BelP P w w') := by
  have hR := hf w (BelP.refl _ _)
  have hle := hR.le
  have hmx := hR.max
  have HF : Hid (∀ W, BelP P w W → Row W fo m fc f) := hf
  have HFF : Hid (∀ i, i < m → rng (f i) ∧ pok (f i) = true) := hff
  have HFI : Hid (∀ k, k ≤ m → gaX s f k = true → (gaS s f k).fin) := gaS_fin hs hff
  have hL := gaS_le s f
  obtain ⟨ao0, cap0, rfl⟩ := h.shape
  clear hf hff hR hs
  go_enter Tryd.func35, Tryd.ntmps35
  go_wp2_with fail
  go_loopw [0, 9] (fun hv iv wr => ∃ (k : Nat) (v0 : Value), k ≤ m ∧ iv = .int .i64 k ∧ hv = v0 ∧ Hid (gaX s f k = true) ∧ Hid (OutP P wr v0 (gaS s f k)) ∧ Hid (BelP P w wr)) (fun _ iv _ => m - (intOf iv).toNat)
  case atStart => exact ⟨0, _, Nat.zero_le _, rfl, rfl, rfl, h, BelP.refl _ _⟩
  case round =>
    obtain ⟨k, hv, hk, rfl, hve, HX, HL, HBW⟩ := hrel
    replace hve := hve.symm
    subst hve
    clear h
    have hLk := hL k
    by_cases hlt : k < m
    · obtain ⟨b, off, rfl, hbb, hc⟩ := (HF.out _ HBW.out).spot (by omega)
      have c0 := hc k hlt
      clear hc
      obtain ⟨d1, d2⟩ := HFF.out k hlt
      have hwr : PB P wr := PB.le hB HBW.out.size
      have CG : Hid (∀ W, W = wr → Calls Tryd.prog 47 #[hv, .int .i64 (f k)] W fun e w' => (gaX s f (k + 1) = true ∧ ∃ v', e = .returned v' ∧ OutP P w' v' (gaS s f (k + 1)) ∧ BelP P W w') ∨ (gaX s f m = false ∧ e = gaveX ∧ BelP P W w')) := fun W hW => by
        subst hW
        rw [gaS_succ, gaX_succ]
        refine (xgrowP W HL.out (HFI.out k hk HX.out) d1 d2 (by omega) hwr).mono ?_
        rintro e w' (⟨h1, v', h2, h3, h4⟩ | ⟨h1, h2, h3⟩)
        · exact .inl ⟨by rw [HX.out, h1]; rfl, v', h2, h3, h4⟩
        · refine .inr ⟨?_, h2, h3⟩
          cases hx : gaX s f m
          · rfl
          · have := gaX_mono (show k + 1 ≤ m by omega) hx
            rw [gaX_succ, h1, Bool.and_false] at this
            cases this
      generalize f k = fk at *
      have i0 : (0 : Int) ≤ (k : Int) := by omega
      have i1 : (k : Int) < (m : Int) := by omega
      go_wp2_with fail
      refine (CG.out _ rfl).mono ?_
      rintro _ w1 (⟨h1, v', rfl, h3, h4⟩ | ⟨h1, rfl, h3⟩)
      · go_wp2
        go_roundw
        case rel => exact ⟨k + 1, _, by omega, by go_num, rfl, h1, h3, HBW.out.trans h4⟩
        case measure => simp [intOf]; omega
      · unfold gaveX
        go_wp2
        exact ⟨rfl, .inr ⟨h1, rfl, HBW.out.trans h3⟩⟩
    · obtain rfl : k = m := by omega
      go_wp2
      go_ret
      exact .inl ⟨HX.out, _, rfl, HL.out, HBW.out⟩
end Go.Proofs.YtmgndnabaemgkaaDoor
