/-
  Plain mathematics: Scale of an expansion: no step fails, and what becomes of it; products of expansions.
-/
import Derived.Test.YtcpjdgfnblkfpaaGreatDoorXSs
import Derived.Test.YtcpjdgfnblkfpaaGreatDoorXD
import Derived.Test.YtcpjdgfnblkfpaaGreatDoorEPrem2
namespace Go.Proofs.YtcpjdgfnblkfpaaGreatDoor
open Go Go.RowKit Go.Proofs.YtcpjdgfnblkfpaaGreatDoor.M
set_option linter.unusedSimpArgs false
set_option linter.unusedVariables false

theorem si_all {d T : Nat → Int} {b : Int} {B N : Nat} (hd : XV d (N + 1)) (rb : rng b) (hB1 : (2 ^ B : Int) ∣ iV b) (hB2 : ((iV b).natAbs : Int) < 9007199254740992 * 2 ^ B) (hT : PTs d T b (N + 1)) : ∀ k, k ≤ N → sx d b k = true → SI d T B N k (ss ⟨0, fun _ => 0⟩ d b k) (sq d b k)
  | 0, _, hx => si_zero hd rb hB1 hB2 hT hx
  | k + 1, hk, hx => by
    rw [sx_succ, Bool.and_eq_true, Bool.and_eq_true, Bool.and_eq_true] at hx
    obtain ⟨h1, h2, h3, h4⟩ := hx
    have hfin : ∀ i, i ≤ N → rng (d i) ∧ pok (d i) = true := fun i hi => ⟨(hd.fin i (by omega)).1, (hd.fin i (by omega)).2.1⟩
    obtain ⟨r1, r2⟩ := sq_fin hfin rb k (by omega) h1
    rw [ss_succ, sq_succ]
    exact si_step hd rb hB1 hB2 hT (by omega) r1 r2 (si_all hd rb hB1 hB2 hT k (by omega) h1) h2 h3 h4
theorem odd_part {x : Int} (rx : rng x) (px : pok x = true) (zx : rg x ≠ 0) : ∃ (t : Nat) (c : Int), iV x = 2 ^ t * c ∧ c % 2 = 1 := by
  have hm := (iV_some rx px zx).2
  obtain ⟨j0, j1, j2, j3⟩ := pmag_in px
  obtain ⟨m, hmm, _, _⟩ := jz_spec (show 0 < pmag x by omega) (by omega)
  have e2 := iV_form rx px
  have e3 : ((iV x).natAbs : Int) = 2 ^ (jz (pmag x) + (pexp x + 1074).toNat) * (2 * (m : Int) + 1) := by
    rw [e2, Int.pow_add]
    calc pmag x * 2 ^ (pexp x + 1074).toNat = 2 ^ jz (pmag x) * (2 * (m : Int) + 1) * 2 ^ (pexp x + 1074).toNat := by rw [← hmm]
      _ = _ := by rw [Int.mul_assoc, Int.mul_comm (2 * (m : Int) + 1), ← Int.mul_assoc]
  by_cases h : 0 ≤ iV x
  · exact ⟨jz (pmag x) + (pexp x + 1074).toNat, 2 * (m : Int) + 1, by rw [← e3]; omega, by omega⟩
  · refine ⟨jz (pmag x) + (pexp x + 1074).toNat, -(2 * (m : Int) + 1), ?_, by omega⟩
    rw [Int.mul_neg]
    omega
theorem odd_cancel {s : Nat} {c Z : Int} (hc : c % 2 = 1) (h : (2 ^ s : Int) ∣ c * Z) : (2 ^ s : Int) ∣ Z := by
  induction s generalizing Z with
  | zero => rw [Int.pow_zero]; exact Int.one_dvd _
  | succ s ih =>
    obtain ⟨a, ha⟩ := h
    rw [p2s, Int.mul_assoc] at ha
    have hZ : Z % 2 = 0 := by
      have h1 : (c * Z) % 2 = 0 := by rw [ha]; omega
      rw [Int.mul_emod, hc] at h1
      omega
    obtain ⟨Y, rfl⟩ : ∃ Y, Z = 2 * Y := ⟨Z / 2, by omega⟩
    have h2 : (2 ^ s : Int) ∣ c * Y := ⟨a, by
      have : c * (2 * Y) = 2 * (c * Y) := by rw [Int.mul_left_comm]
      rw [this] at ha
      omega⟩
    obtain ⟨e, he⟩ := ih h2
    exact ⟨e, by rw [p2s, he, Int.mul_assoc]⟩
/-- What was gathered is no more than the next product's float: the quick sum is exact. -/
theorem fast_ok {d T : Nat → Int} {b : Int} {B N k : Nat} (hd : XV d (N + 1)) (rb : rng b) (zb : iV b ≠ 0) (hT : PTs d T b (N + 1)) (hk : k < N) {L : Ls} {q : Int} (rq : rng q) (pq : pok q = true) (h : SI d T B N k L q)
    (hx1 : pX (d (k + 1)) b = true) (hx2 : pok (sL q (prL (d (k + 1)) b)) = true) : ((iV (fsum q (prL (d (k + 1)) b))).natAbs : Int) ≤ ((iV (fprod (d (k + 1)) b)).natAbs : Int) := by
  obtain ⟨rx, px, zx⟩ := hd.fin (k + 1) (by omega)
  have hTk := hT (k + 1) (by omega)
  obtain ⟨pT, pu, eT, nT⟩ := prod_facts rx rb hx1 hTk
  have ru := prL_rng rx rb
  have n1 := fsum_nr rq ru hx2
  obtain ⟨t, c, hxc, hc⟩ := odd_part rx px zx
  have xne := hd.ne (show k + 1 < N + 1 by omega)
  obtain ⟨s0, l1, l2⟩ := hd.lo k (by omega)
  have hs0 : s0 ≤ t := by
    obtain ⟨m, hm⟩ : ∃ m, c = 2 * m + 1 := ⟨c / 2, by omega⟩
    rw [hxc, hm] at l2
    exact odd_dvd l2
  have hlt : ((iV (d k)).natAbs : Int) < 2 ^ t := Int.lt_of_lt_of_le l1 (p2le hs0)
  -- the unit of the product
  obtain ⟨Z, hZ⟩ : ∃ Z, 2 ^ 1074 * Z = 2 ^ t * iV b := by
    have h1 : (2 ^ 1074 : Int) ∣ c * (2 ^ t * iV b) := ⟨T (k + 1), by
      rw [hTk, hxc, Int.mul_assoc, Int.mul_left_comm]⟩
    obtain ⟨Z, h2⟩ := odd_cancel hc h1
    exact ⟨Z, h2.symm⟩
  have hTZ : T (k + 1) = c * Z := by
    have : (2 : Int) ^ 1074 * T (k + 1) = 2 ^ 1074 * (c * Z) := by
      rw [hTk, hxc, Int.mul_left_comm (2 ^ 1074) c Z, hZ, Int.mul_assoc, Int.mul_left_comm]
    exact Int.eq_of_mul_eq_mul_left (Int.ne_of_gt (p2 1074)) this
  have fZ : Fl Z := by
    have h1 := (fl_iV b).up t
    rw [← hZ] at h1
    exact h1.down
  have hxk : XV d (k + 1) := ⟨fun i hi => hd.fin i (by omega), fun i hi => hd.lo i (by omega)⟩
  have hpt : ((tsm T (k + 1)).natAbs : Int) < (Z.natAbs : Int) := by
    have h1 := tsm_prod hT (k + 1) (by omega)
    have h2 := lsm_lt hxk t hlt
    have e1 : ((2 ^ 1074 * tsm T (k + 1)).natAbs : Int) = 2 ^ 1074 * ((tsm T (k + 1)).natAbs : Int) := natAbs_p2 1074 _
    have e2 : ((2 ^ 1074 * Z).natAbs : Int) = 2 ^ 1074 * (Z.natAbs : Int) := natAbs_p2 1074 _
    have e3 : ((2 ^ t * iV b).natAbs : Int) = 2 ^ t * ((iV b).natAbs : Int) := natAbs_p2 t _
    have e4 : ((lsm d (k + 1) * iV b).natAbs : Int) = ((lsm d (k + 1)).natAbs : Int) * ((iV b).natAbs : Int) := by rw [Int.natAbs_mul, Int.natCast_mul]
    rw [h1, e4] at e1
    rw [hZ, e3] at e2
    have e5 : ((lsm d (k + 1)).natAbs : Int) * ((iV b).natAbs : Int) < 2 ^ t * ((iV b).natAbs : Int) := Int.mul_lt_mul_of_pos_right h2 (by omega)
    rw [e1, e2] at e5
    exact Int.lt_of_mul_lt_mul_left e5 (Int.le_of_lt (p2 1074))
  have hq : ((iV q).natAbs : Int) ≤ (Z.natAbs : Int) := by
    have hsum := h.sum
    by_cases hn : L.n = 0
    · have : lsm L.d L.n = 0 := by rw [hn]; rfl
      omega
    · obtain ⟨m, hm⟩ : ∃ m, L.n = m + 1 := ⟨L.n - 1, by omega⟩
      obtain ⟨s, a1, a2, a3⟩ := h.up m (by omega)
      have hxL := h.xv
      rw [hm] at hxL hsum
      have a4 := lsm_lt hxL s a1
      have a5 : (2 ^ s : Int) ∣ Z := odd_cancel hc (by rw [← hTZ]; exact a3 (k + 1) (by omega) (by omega))
      apply Classical.byContradiction
      intro hno
      have a6 := mult_lt (u := 0) a5 (Int.dvd_natAbs.2 a2) (show (Z.natAbs : Int) < ((iV q).natAbs : Int) by omega)
      omega
  have fZa : Fl (Z.natAbs : Int) := by
    by_cases h0 : 0 ≤ Z
    · rw [show (Z.natAbs : Int) = Z by omega]; exact fZ
    · rw [show (Z.natAbs : Int) = -Z by omega]; exact fZ.neg
  have fTa : Fl ((iV (fprod (d (k + 1)) b)).natAbs : Int) := by
    have f0 := fl_iV (fprod (d (k + 1)) b)
    by_cases h0 : 0 ≤ iV (fprod (d (k + 1)) b)
    · rw [show ((iV (fprod (d (k + 1)) b)).natAbs : Int) = iV (fprod (d (k + 1)) b) by omega]; exact f0
    · rw [show ((iV (fprod (d (k + 1)) b)).natAbs : Int) = -iV (fprod (d (k + 1)) b) by omega]; exact f0.neg
  have hS : ((iV q + iV (prL (d (k + 1)) b)).natAbs : Int) ≤ ((iV (fprod (d (k + 1)) b)).natAbs : Int) := by
    rw [hTZ] at eT nT
    by_cases h1 : c = 1 ∨ c = -1
    · have hTf : Fl (c * Z) := by
        rcases h1 with rfl | rfl
        · rw [Int.one_mul]; exact fZ
        · rw [Int.neg_mul, Int.one_mul]; exact fZ.neg
      have h2 := nr_self hTf nT
      have h3 : ((c * Z).natAbs : Int) = (Z.natAbs : Int) := by
        rcases h1 with rfl | rfl
        · rw [Int.one_mul]
        · rw [Int.neg_mul, Int.one_mul]; omega
      omega
    · have h2 := nr_rel nT
      have h3 : 3 * (Z.natAbs : Int) ≤ ((c * Z).natAbs : Int) := by
        rw [Int.natAbs_mul, Int.natCast_mul]
        exact Int.mul_le_mul_of_nonneg_right (by omega) (by omega)
      omega
  have g1 := nr_le n1 fTa (by omega)
  have g2 := nr_ge n1 fTa.neg (by omega)
  omega
end Go.Proofs.YtcpjdgfnblkfpaaGreatDoor
