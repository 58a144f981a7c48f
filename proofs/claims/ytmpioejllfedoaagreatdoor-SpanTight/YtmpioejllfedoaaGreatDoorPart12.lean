/-
  Parts of the proof, one behind another.
-/
import Derived.Test.YtmpioejllfedoaaGreatDoorPart11
import Derived.Test.YtmpioejllfedoaaGreatDoorPart8
import Derived.Test.YtmpioejllfedoaaGreatDoorPart9
import Derived.Test.YtmpioejllfedoaaGreatDoorPart10
/-
  TwoSum, FastTwoSum, Split, TwoProd on patterns: where the second answer is finite nothing gets lost.
-/
namespace Go.Proofs.YtmpioejllfedoaaGreatDoor
open Go Go.RowKit Go.Proofs.YtmpioejllfedoaaGreatDoor.M Ieee
set_option linter.unusedSimpArgs false
set_option linter.unusedVariables false

theorem fl_iV (p : Int) : Fl (iV p) := by
  unfold iV
  cases decide (p < 0)
  · exact fl_V _
  · exact (fl_V _).neg
theorem iV_abs (p : Int) : ((iV p).natAbs : Int) = (V Ieee.double (rg p).toNat : Int) := by
  unfold iV sg
  cases decide (p < 0)
  · simp
  · simp
theorem iV_max {p : Int} (hp : rng p) (h : pok p = true) : ((iV p).natAbs : Int) ≤ maxV := by
  rw [iV_abs]
  have := (pok_rg hp).1 h
  exact V_le (by omega)
theorem back_le {a b h : Int} (ha : Fl a) (hab : b.natAbs ≤ a.natAbs) (n : Nr (a + b) h) : (h - a).natAbs ≤ a.natAbs := by
  have e1 := n.2 _ ha
  have e2 := n.2 _ ha.dbl
  have e3 := n.2 _ fl_zero
  omega
theorem fL_fin {p q : Int} (hp : rng p) (hq : rng q) (pp : pok p = true) (pq : pok q = true) (ph : pok (fsum p q) = true) (hab : (iV q).natAbs ≤ (iV p).natAbs) : pok (fL p q) = true ∧ iV (fsum p q) + iV (fL p q) = iV p + iV q := by
  have rh := fsum_rng hp hq
  have rv : rng (fsum (fsum p q) (neg p)) := fsum_rng rh (neg_rng hp)
  have nh := (stp_sum hp hq pp pq).nr ph
  have sv := stp_diff rh hp ph pp
  have b1 := back_le (fl_iV p) hab nh
  have pv := sv.fin (by have := iV_max hp pp; omega)
  have ev := nr_self (back (fl_iV p) (fl_iV q) hab nh) (sv.nr pv)
  have sl := stp_diff hq rv pq pv
  have e3 := nh.2 _ (fl_iV p)
  have pl := sl.fin (by rw [ev]; have := iV_max hq pq; omega)
  have nl := sl.nr pl
  have e4 := fast_sum (fl_iV p) (fl_iV q) hab nh (sv.nr pv) nl
  exact ⟨pl, by unfold fL; omega⟩
theorem fsum_eqn {p q : Int} (hp : rng p) (hq : rng q) (pp : pok p = true) (pq : pok q = true) : fsum p q = if patV p + patV q = 0 then patS (decide (p < 0) && decide (q < 0)) 0 else nearP (patV p + patV q) := by
  obtain ⟨a1, a2⟩ := fin_cls hp pp
  obtain ⟨b1, b2⟩ := fin_cls hq pq
  unfold fsum
  rw [if_neg (fun c => c.elim a1 b1), if_neg a2, if_neg b2]
end Go.Proofs.YtmpioejllfedoaaGreatDoor

/-
  Package span: sum: what it tells of finite ends: the exact sum lies between, with nothing between but it. Plain mathematics.
-/
namespace Go.Proofs.YtmpioejllfedoaaGreatDoor
open Go Go.RowKit Go.Proofs.YtmpioejllfedoaaGreatDoor.M
set_option linter.unusedSimpArgs false
set_option linter.unusedVariables false

theorem rg_iV {p q : Int} (h : rg p ≤ rg q) (hp : 0 ≤ rg p) : (iV p).natAbs ≤ (iV q).natAbs := by
  have a := iV_abs p
  have b := iV_abs q
  have c := V_le (show (rg p).toNat ≤ (rg q).toNat by omega)
  omega
theorem su_exact {p q : Int} (hp : rng p) (hq : rng q) (pp : pok p = true) (pq : pok q = true) (hf : pok (suN p q) = true) : pok (suL p q) = true ∧ iV (suN p q) + iV (suL p q) = iV p + iV q := by
  by_cases h : rg p < rg q
  · have ex : hiM p q = q := if_pos h
    have ey : loM p q = p := if_pos h
    unfold suL suN at *
    rw [ex, ey] at hf ⊢
    obtain ⟨a, b⟩ := fL_fin hq hp pq pp hf (rg_iV (by omega) (q_rg hp).2)
    exact ⟨a, by unfold fL at b; omega⟩
  · have ex : hiM p q = p := if_neg h
    have ey : loM p q = q := if_neg h
    unfold suL suN at *
    rw [ex, ey] at hf ⊢
    obtain ⟨a, b⟩ := fL_fin hp hq pp pq hf (rg_iV (by omega) (q_rg hq).2)
    exact ⟨a, by unfold fL at b; omega⟩
theorem V_zero_iff {r : Nat} : (V Ieee.double r : Int) = 0 ↔ r = 0 := by
  constructor
  · intro h
    by_cases h0 : r = 0
    · exact h0
    · have := V_lt Ieee.double (show 0 < r by omega)
      rw [V_zero] at this
      omega
  · rintro rfl
    rw [V_zero]
    rfl
/-- the sign of a value -/
theorem iV_key {p : Int} (hp : rng p) : (iV p < 0 ↔ key p < 0) ∧ (0 < iV p ↔ 0 < key p) := by
  have hz := @V_zero_iff (rg p).toNat
  have hr := q_rg hp
  unfold rng at hp
  have hv : (0 : Int) ≤ (V Ieee.double (rg p).toNat : Int) := by omega
  by_cases h : p < 0
  · have e1 : iV p = -(V Ieee.double (rg p).toNat : Int) := by unfold iV sg; simp [h]
    have e2 : key p = -(rg p) := by unfold key rg; rw [if_pos h, if_pos h]
    rw [e1, e2]
    constructor <;> constructor <;> intro g <;> omega
  · have e1 : iV p = (V Ieee.double (rg p).toNat : Int) := by unfold iV sg; simp [h]
    have e2 : key p = rg p := by unfold key rg; rw [if_neg h, if_neg h]
    rw [e1, e2]
    constructor <;> constructor <;> intro g <;> omega
theorem iV_mono {p q : Int} (hp : rng p) (hq : rng q) (h : key p < key q) : iV p < iV q := by
  have rp := q_rg hp
  have rq := q_rg hq
  have ep : iV p = if p < 0 then -(V Ieee.double (rg p).toNat : Int) else (V Ieee.double (rg p).toNat : Int) := by unfold iV sg; by_cases g : p < 0 <;> simp [g]
  have eq' : iV q = if q < 0 then -(V Ieee.double (rg q).toNat : Int) else (V Ieee.double (rg q).toNat : Int) := by unfold iV sg; by_cases g : q < 0 <;> simp [g]
  have kp : key p = if p < 0 then -(rg p) else rg p := by unfold key rg; by_cases g : p < 0 <;> simp [g]
  have kq : key q = if q < 0 then -(rg q) else rg q := by unfold key rg; by_cases g : q < 0 <;> simp [g]
  have zp := @V_zero_iff (rg p).toNat
  have zq := @V_zero_iff (rg q).toNat
  have m1 : rg p < rg q → (V Ieee.double (rg p).toNat : Int) < V Ieee.double (rg q).toNat := fun g => by
    have := V_lt Ieee.double (show (rg p).toNat < (rg q).toNat by omega)
    omega
  have m2 : rg q < rg p → (V Ieee.double (rg q).toNat : Int) < V Ieee.double (rg p).toNat := fun g => by
    have := V_lt Ieee.double (show (rg q).toNat < (rg p).toNat by omega)
    omega
  rw [kp, kq] at h
  rw [ep, eq']
  have hA0 : (0 : Int) ≤ (V Ieee.double (rg p).toNat : Int) := by omega
  have hB0 : (0 : Int) ≤ (V Ieee.double (rg q).toNat : Int) := by omega
  clear ep eq' kp kq
  generalize (V Ieee.double (rg p).toNat : Int) = A at *
  generalize (V Ieee.double (rg q).toNat : Int) = B at *
  by_cases a : p < 0 <;> by_cases b : q < 0 <;> simp only [a, b, if_true, if_false] at h ⊢ <;> omega
/-- below the nearest float: the one before it is not above the exact number -/
theorem nr_prev {n S : Int} (hn : nn n) (hi : ¬ n = -4503599627370496) (hp : rng (prev n)) (h : Nr S (iV n)) (g : S < iV n) : iV (prev n) ≤ S := by
  obtain ⟨k1, _⟩ := key_prev hn.1 hn.2 hi
  have m := iV_mono hp hn.1 (by omega)
  have := h.2 (iV (prev n)) (fl_iV _)
  omega
theorem nr_next {n S : Int} (hn : nn n) (hi : ¬ n = 9218868437227405312) (hp : rng (next n)) (h : Nr S (iV n)) (g : iV n < S) : S ≤ iV (next n) := by
  obtain ⟨k1, _, _, _⟩ := key_next hn.1 hn.2 hi
  have m := iV_mono hn.1 hp (by omega)
  have := h.2 (iV (next n)) (fl_iV _)
  omega
theorem rng_prev' {p : Int} (h : rng p) : rng (prev p) := by unfold prev; exact rng_neg (rng_next (rng_neg h))
/-- What sum tells of finite ends whose sum is finite: the exact sum lies between; it is both ends, or they are neighbours and it lies above the lower and below the upper one, or on one that is not the nearest. -/
theorem su_btw {p q : Int} (hp : rng p) (hq : rng q) (pp : pok p = true) (pq : pok q = true) (hf : pok (suN p q) = true) (hn : nn (suN p q)) :
    iV (beLo (suN p q) (suL p q)) ≤ iV p + iV q ∧ iV p + iV q ≤ iV (beHi (suN p q) (suL p q)) ∧ ((iV (suN p q) = iV p + iV q ∧ beLo (suN p q) (suL p q) = suN p q ∧ beHi (suN p q) (suL p q) = suN p q) ∨ (iV p + iV q < iV (suN p q) ∧ beLo (suN p q) (suL p q) = prev (suN p q) ∧ beHi (suN p q) (suL p q) = suN p q) ∨ (iV (suN p q) < iV p + iV q ∧ beLo (suN p q) (suL p q) = suN p q ∧ beHi (suN p q) (suL p q) = next (suN p q))) := by
  obtain ⟨pl, he⟩ := su_exact hp hq pp pq hf
  have hNr : Nr (iV p + iV q) (iV (suN p q)) := by
    by_cases h : rg p < rg q
    · have ex : hiM p q = q := if_pos h
      have ey : loM p q = p := if_pos h
      unfold suN at hf ⊢
      rw [ex, ey] at hf ⊢
      have := (stp_sum hq hp pq pp).nr hf
      rwa [Int.add_comm] at this
    · have ex : hiM p q = p := if_neg h
      have ey : loM p q = q := if_neg h
      unfold suN at hf ⊢
      rw [ex, ey] at hf ⊢
      exact (stp_sum hp hq pp pq).nr hf
  have i1 : ¬ suN p q = -4503599627370496 := fun e => by rw [e] at hf; revert hf; decide
  have i2 : ¬ suN p q = 9218868437227405312 := fun e => by rw [e] at hf; revert hf; decide
  have rl : rng (suL p q) := by
    unfold suL
    have a1 : rng (hiM p q) := by unfold hiM; split <;> assumption
    have a2 : rng (loM p q) := by unfold loM; split <;> assumption
    exact fsum_rng a2 (rng_neg (fsum_rng hn.1 (rng_neg a1)))
  obtain ⟨kl1, kl2⟩ := iV_key rl
  have c0 : ¬ cls 0 = 4 := by decide
  have k0 : key 0 = 0 := by decide
  have cl := q_fin pl
  have l1 : less (suL p q) 0 = decide (key (suL p q) < 0) := by unfold less; simp [cl, c0, k0]
  have l2 : less 0 (suL p q) = decide (0 < key (suL p q)) := by unfold less; simp [cl, c0, k0]
  unfold beLo beHi
  rw [l1, l2]
  generalize suN p q = n at *
  generalize suL p q = l at *
  by_cases a : key l < 0
  · have al : iV l < 0 := kl1.2 a
    simp only [a, decide_true, if_true]
    exact ⟨nr_prev hn i1 (rng_prev' hn.1) hNr (by omega), by omega, .inr (.inl ⟨by omega, by trivial, by trivial⟩)⟩
  · by_cases b : 0 < key l
    · have bl : 0 < iV l := kl2.2 b
      simp only [a, b, decide_true, decide_false, if_true, if_false, Bool.false_eq_true]
      exact ⟨by omega, nr_next hn i2 (rng_next hn.1) hNr (by omega), .inr (.inr ⟨by omega, by trivial, by trivial⟩)⟩
    · have z1 : ¬ iV l < 0 := fun h => a (kl1.1 h)
      have z2 : ¬ 0 < iV l := fun h => b (kl2.1 h)
      simp only [a, b, decide_false, if_false, Bool.false_eq_true]
      exact ⟨by omega, by omega, .inl ⟨by omega, by trivial, by trivial⟩⟩
end Go.Proofs.YtmpioejllfedoaaGreatDoor

/-
  Package span: sum at infinite ends, and beyond the range. Plain mathematics.
-/
namespace Go.Proofs.YtmpioejllfedoaaGreatDoor
open Go Go.RowKit Go.Proofs.YtmpioejllfedoaaGreatDoor.M
set_option linter.unusedSimpArgs false
set_option linter.unusedVariables false

theorem su_neg {p : Int} (h : nn p) : rg (neg p) = rg p ∧ (decide (neg p < 0) ≠ decide (p < 0)) := by
  have hr := h.1
  unfold rng at hr
  unfold neg
  rw [if_neg h.2]
  unfold rg
  by_cases g : p < 0
  · rw [if_pos g, if_neg (by omega)]
    refine ⟨by rw [if_pos g], ?_⟩
    rw [decide_eq_false (by omega), decide_eq_true g]
    decide
  · rw [if_neg g, if_pos (by omega)]
    refine ⟨by rw [if_neg g]; omega, ?_⟩
    rw [decide_eq_true (by omega), decide_eq_false g]
    decide
theorem hl_nn {p q : Int} (hp : nn p) (hq : nn q) : nn (hiM p q) ∧ nn (loM p q) ∧ (hiM p q = p ∧ loM p q = q ∨ hiM p q = q ∧ loM p q = p) ∧ rg (loM p q) ≤ rg (hiM p q) := by
  unfold hiM loM
  by_cases h : rg p < rg q
  · rw [if_pos h, if_pos h]; exact ⟨hq, hp, .inr ⟨rfl, rfl⟩, by omega⟩
  · rw [if_neg h, if_neg h]; exact ⟨hp, hq, .inl ⟨rfl, rfl⟩, by omega⟩
/-- Finite ends, beyond the range: the infinite one and the greatest float. -/
theorem su_over {p q : Int} (hp : nn p) (hq : nn q) (pp : ¬ rg p = 9218868437227405312) (pq : ¬ rg q = 9218868437227405312) (hn : nn (suN p q)) (h : rg (suN p q) = 9218868437227405312) :
    (0 < key (suN p q) → beLo (suN p q) (suL p q) = prev (suN p q) ∧ beHi (suN p q) (suL p q) = suN p q) ∧ (key (suN p q) < 0 → beLo (suN p q) (suL p q) = suN p q ∧ beHi (suN p q) (suL p q) = next (suN p q)) := by
  obtain ⟨nx, ny, hxy, _⟩ := hl_nn hp hq
  have fx : ¬ rg (hiM p q) = 9218868437227405312 := by rcases hxy with ⟨e1, _⟩ | ⟨e1, _⟩ <;> rw [e1] <;> assumption
  have fy : ¬ rg (loM p q) = 9218868437227405312 := by rcases hxy with ⟨_, e1⟩ | ⟨_, e1⟩ <;> rw [e1] <;> assumption
  obtain ⟨n1, _⟩ := nn_neg nx
  obtain ⟨m1, k1⟩ := nn_neg hn
  have e1 : fsum (suN p q) (neg (hiM p q)) = suN p q := by
    unfold fsum
    rw [if_neg (by rintro (c | c); exact hn.2 c; exact n1.2 c), if_pos h, if_neg (by rintro ⟨c, _⟩; rw [(su_neg nx).1] at c; exact fx c)]
  have e2 : suL p q = neg (suN p q) := by
    unfold suL
    rw [e1]
    unfold fsum
    rw [if_neg (by rintro (c | c); exact ny.2 c; exact m1.2 c), if_neg fy, if_pos (by rw [(su_neg hn).1]; exact h)]
  have c0 : ¬ cls 0 = 4 := by decide
  have k0 : key 0 = 0 := by decide
  have l1 : less (suL p q) 0 = decide (0 < key (suN p q)) := by
    rw [e2]; unfold less
    simp only [m1.2, c0, k0, k1, decide_false, Bool.not_false, Bool.true_and]
    exact decide_eq_decide.2 (by omega)
  have l2 : less 0 (suL p q) = decide (key (suN p q) < 0) := by
    rw [e2]; unfold less
    simp only [m1.2, c0, k0, k1, decide_false, Bool.not_false, Bool.true_and]
    exact decide_eq_decide.2 (by omega)
  unfold beLo beHi
  rw [l1, l2]
  refine ⟨fun g => ?_, fun g => ?_⟩
  · rw [decide_eq_true g]; exact ⟨rfl, rfl⟩
  · rw [decide_eq_false (by omega), decide_eq_true g]; exact ⟨rfl, rfl⟩
end Go.Proofs.YtmpioejllfedoaaGreatDoor

/-
  Plain mathematics: the interval around a product of two ends, by the nearest float and what it lost. No Go text in sight.
-/
namespace Go.Proofs.YtmpioejllfedoaaGreatDoor
open Go Go.RowKit Go.Proofs.YtmpioejllfedoaaGreatDoor.M
set_option linter.unusedSimpArgs false
set_option linter.unusedVariables false

/-- The ends of the least interval around a product of two ends (0 times an infinite one: 0). -/
def prLo (p q : Int) : Int := if rg p = 0 ∨ rg q = 0 then 0 else if rg p = 9218868437227405312 ∨ rg q = 9218868437227405312 then patS (xsg p q) 9218868437227405312 else rdP 1 (prV p q)
def prHi (p q : Int) : Int := if rg p = 0 ∨ rg q = 0 then 0 else if rg p = 9218868437227405312 ∨ rg q = 9218868437227405312 then patS (xsg p q) 9218868437227405312 else rdP 2 (prV p q)
theorem nn_rg {p : Int} (h : nn p) : 0 ≤ rg p ∧ rg p ≤ 9218868437227405312 := by
  have := (FW.pat h.2 h.1).of h.2
  exact this.2.2
theorem rg_pat0 {p : Int} (h : nn p) (hf : rg p ≠ 9218868437227405312) : pok p = true := (pok_rg h.1).2 (by have := nn_rg h; omega)
theorem patV_nz {p : Int} (h : rng p) (hp : pok p = true) (h0 : rg p ≠ 0) : patV p ≠ 0 := fun e => by
  have hv := patV_iV h hp
  have hi : iV p = 0 := by
    rcases Int.mul_eq_zero.1 (hv.symm.trans e) with q | q
    · exact q
    · have := pw_pos (-1074); omega
  have h5 := (rg_parts h).1
  unfold iV at hi
  have hV : (V Ieee.double (rg p).toNat : Int) = 0 := by
    cases hd : decide (p < 0) <;> rw [hd] at hi
    · exact hi
    · have : -(V Ieee.double (rg p).toNat : Int) = 0 := hi
      omega
  rcases Nat.eq_zero_or_pos (rg p).toNat with q | q
  · omega
  · have := V_lt Ieee.double q
    omega
theorem prV_nz {p q : Int} (rp : rng p) (rq : rng q) (hp : pok p = true) (hq : pok q = true) (p0 : rg p ≠ 0) (q0 : rg q ≠ 0) : prV p q ≠ 0 := fun e => by
  obtain ⟨_, _, _, _, hC⟩ := prV_parts rp rq hp hq
  rw [e, Int.zero_mul] at hC
  rcases Int.mul_eq_zero.1 hC.symm with h | h
  · exact patV_nz rp hp p0 h
  · exact patV_nz rq hq q0 h
theorem fprod_fin {p q : Int} (rp : rng p) (rq : rng q) (hp : pok p = true) (hq : pok q = true) (h : prV p q ≠ 0) : fprod p q = nearP (prV p q) := by
  have h1 := (pok_rg rp).1 hp
  have h2 := (pok_rg rq).1 hq
  have hz : fsize p q ≠ 0 := fun e => h (by unfold prV; rw [e]; cases xsg p q <;> rfl)
  have n4 : ¬ (cls p = 4 ∨ cls q = 4) := fun k => by rcases k with k | k; exact pok_clsF rp hp k; exact pok_clsF rq hq k
  have i2 : ¬ (rg p = 9218868437227405312 ∨ rg q = 9218868437227405312) := by omega
  unfold fprod
  rw [if_neg n4, if_neg i2, if_neg hz]
  rfl
theorem less_key {l : Int} (h : cls l ≠ 4) : (less l 0 = true ↔ key l < 0) ∧ (less 0 l = true ↔ 0 < key l) := by
  have c0 : ¬ cls 0 = 4 := by decide
  have k0 : key 0 = 0 := by decide
  unfold less
  rw [k0]
  simp [h, c0]
/-- The product of finite ends other than 0, not deep. -/
theorem pr_fin {p q : Int} (rp : rng p) (rq : rng q) (hp : pok p = true) (hq : pok q = true) (p0 : rg p ≠ 0) (q0 : rg q ≠ 0) (hd : 283726776524341248 ≤ rg (fprod p q)) :
    beLo (fprod p q) (ffma p q (neg (fprod p q))) = rdP 1 (prV p q) ∧ beHi (fprod p q) (ffma p q (neg (fprod p q))) = rdP 2 (prV p q) := by
  have hV := prV_nz rp rq hp hq p0 q0
  have hN := fprod_fin rp rq hp hq hV
  rw [hN] at hd ⊢
  obtain ⟨rn, cn⟩ := nearP_pat hV
  cases hf : pok (nearP (prV p q))
  · have hi := dir_inf hV hf
    have hm : ∀ r, rng r → rg r = 9218868437227405312 → cls r ≠ 4 → ffma p q r = r := fun r hr h1 h4 => by
      have h5 := (pok_rg rp).1 hp
      have h6 := (pok_rg rq).1 hq
      have n4 : ¬ (cls p = 4 ∨ cls q = 4 ∨ cls r = 4) := fun k => by rcases k with k | k | k; exact pok_clsF rp hp k; exact pok_clsF rq hq k; exact h4 k
      have i2 : ¬ (rg p = 9218868437227405312 ∨ rg q = 9218868437227405312) := by omega
      unfold ffma
      rw [if_neg n4, if_neg i2, if_pos h1]
    rcases Int.lt_or_gt_of_ne hV with hn | hn
    · obtain ⟨e0, e1, e2⟩ := hi.2 hn
      rw [e0, e1, e2, show neg (-4503599627370496) = 9218868437227405312 by decide, hm _ (by unfold rng; omega) (by decide) (by decide)]
      exact ⟨by decide, by decide⟩
    · obtain ⟨e0, e1, e2⟩ := hi.1 hn
      rw [e0, e1, e2, show neg 9218868437227405312 = -4503599627370496 by decide, hm _ (by unfold rng; omega) (by decide) (by decide)]
      exact ⟨by decide, by decide⟩
  · obtain ⟨d1, d2, d3⟩ := dir_fin hV hf
    have e0 := rdP_near hV
    have hr := (pok_rg rn).1 hf
    obtain ⟨S, hS, hF, hb⟩ := fused_any (way := 0) rp rq hp hq hV (by rw [e0]; exact hd) (.inr ⟨rfl, by rw [e0]; exact hr⟩)
    rw [e0] at hS
    generalize nearP (prV p q) = n at *
    obtain ⟨rm, pm, im⟩ := neg_facts rn hf
    have hfS : fmaS p q (neg n) = prV p q - patV n := by
      rw [fmaS_pr, patV_opp rn hf]
      omega
    by_cases h0 : prV p q - patV n = 0
    · have hl : ffma p q (neg n) = patS (xsg p q && decide (neg n < 0)) 0 := fma_zero rp rq rm hp hq pm (hfS.trans h0)
      have h1 : less (ffma p q (neg n)) 0 = false := by rw [hl]; cases (xsg p q && decide (neg n < 0)) <;> decide
      have h2 : less 0 (ffma p q (neg n)) = false := by rw [hl]; cases (xsg p q && decide (neg n < 0)) <;> decide
      unfold beLo beHi
      rw [h1, h2]
      have := d3 (by omega)
      exact ⟨this.1, this.2⟩
    · have hS0 : S ≠ 0 := fun e => h0 (by rw [hS, e, Int.zero_mul])
      obtain ⟨g1, g2, g3⟩ := near_exact hF hS0 hb
      have hl : ffma p q (neg n) = nearP (S * pw (-1074)) := by
        have h5 := (pok_rg rp).1 hp
        have h6 := (pok_rg rq).1 hq
        have h7 := (pok_rg rm).1 pm
        have n4 : ¬ (cls p = 4 ∨ cls q = 4 ∨ cls (neg n) = 4) := fun k => by rcases k with k | k | k; exact pok_clsF rp hp k; exact pok_clsF rq hq k; exact pok_clsF rm pm k
        have i2 : ¬ (rg p = 9218868437227405312 ∨ rg q = 9218868437227405312) := by omega
        have i3 : ¬ rg (neg n) = 9218868437227405312 := by omega
        unfold ffma
        rw [if_neg n4, if_neg i2, if_neg i3, hfS, if_neg h0, hS]
      rw [hl]
      generalize nearP (S * pw (-1074)) = l at *
      obtain ⟨k1, k2⟩ := iV_key g1
      rw [g3] at k1 k2
      obtain ⟨l1, l2⟩ := less_key (pok_clsF g1 g2)
      have hq2 := pw_pos (-1074)
      unfold beLo beHi
      rcases Int.lt_or_gt_of_ne hS0 with hn | hn
      · have hD : prV p q - patV n < 0 := by rw [hS]; exact Int.mul_neg_of_neg_of_pos hn hq2
        rw [l1.2 (k1.1 hn)]
        clear hS hq2
        have := d1 (by omega)
        exact ⟨this.1, this.2⟩
      · have hD : 0 < prV p q - patV n := by rw [hS]; exact Int.mul_pos hn hq2
        have hno : less l 0 = false := by
          cases h : less l 0
          · rfl
          · have := k1.2 (l1.1 h); omega
        rw [hno, l2.2 (k2.1 hn)]
        clear hS hq2
        have := d2 (by omega)
        exact ⟨this.1, this.2⟩
/-- An infinite end. -/
theorem pr_infE {p q : Int} (hp : nn p) (hq : nn q) (p0 : rg p ≠ 0) (q0 : rg q ≠ 0) (hi : rg p = 9218868437227405312 ∨ rg q = 9218868437227405312) :
    fprod p q = patS (xsg p q) 9218868437227405312 ∧ ffma p q (neg (fprod p q)) = 9221120237041090561 := by
  have n4 : ¬ (cls p = 4 ∨ cls q = 4) := fun k => by rcases k with k | k; exact hp.2 k; exact hq.2 k
  have i2 : ¬ (rg p = 0 ∨ rg q = 0) := by omega
  have e : fprod p q = patS (xsg p q) 9218868437227405312 := by
    unfold fprod
    rw [if_neg n4, if_pos hi, if_neg i2]
  refine ⟨e, ?_⟩
  rw [e]
  have hneg : neg (patS (xsg p q) 9218868437227405312) = patS (!xsg p q) 9218868437227405312 := by cases xsg p q <;> decide
  rw [hneg]
  have c4 : ¬ cls (patS (!xsg p q) 9218868437227405312) = 4 := by cases xsg p q <;> decide
  have r4 : rg (patS (!xsg p q) 9218868437227405312) = 9218868437227405312 := by cases xsg p q <;> decide
  have s4 : decide (patS (!xsg p q) 9218868437227405312 < 0) = !xsg p q := by cases xsg p q <;> decide
  have n5 : ¬ (cls p = 4 ∨ cls q = 4 ∨ cls (patS (!xsg p q) 9218868437227405312) = 4) := fun k => by rcases k with k | k | k; exact hp.2 k; exact hq.2 k; exact c4 k
  have n6 : rg (patS (!xsg p q) 9218868437227405312) = 9218868437227405312 ∧ ¬ xsg p q = decide (patS (!xsg p q) 9218868437227405312 < 0) := ⟨r4, by rw [s4]; cases xsg p q <;> decide⟩
  unfold ffma
  rw [if_neg n5, if_pos hi, if_neg i2, if_pos n6]
end Go.Proofs.YtmpioejllfedoaaGreatDoor

/-
  Plain mathematics: the least interval around a number, and what is told of it. No Go text in sight.
-/
namespace Go.Proofs.YtmpioejllfedoaaGreatDoor
open Go Go.RowKit Go.Proofs.YtmpioejllfedoaaGreatDoor.M
set_option linter.unusedSimpArgs false
set_option linter.unusedVariables false

/-- The ends of the least interval around a number. -/
def cLo (V : Int) : Int := if V = 0 then 0 else canon (rdP 1 V)
def cHi (V : Int) : Int := if V = 0 then 0 else canon (rdP 2 V)
theorem canon_patS {g : Bool} {r : Int} (h0 : 0 ≤ r) (h1 : r ≤ 9218868437227405312) : canon (patS g r) = patS (g && decide (0 < r)) r := by
  obtain ⟨a, b, c⟩ := patS_parts (ng := g) h0 h1
  obtain ⟨d1, d2⟩ := cls_rg a
  rw [b] at d1 d2
  unfold canon
  have n4 : ¬ cls (patS g r) = 4 := fun q => by have := d1.1 q; omega
  rw [if_neg n4]
  by_cases hr : r = 0
  · rw [if_pos (d2.2 hr), hr]
    cases g <;> decide
  · rw [if_neg (fun q => hr (d2.1 q)), decide_eq_true (show 0 < r by omega), Bool.and_true]
/-- What the three ways tell of a number, by its rung. -/
theorem c_rung {V : Int} (h0 : V ≠ 0) : ∃ (g : Bool) (A : Int) (r0 : Nat) (left : Int), V = sg g A ∧ 0 < A ∧ Rung A r0 left ∧ cLo V = patS (g && decide (0 < rTo 1 g r0 left)) (rTo 1 g r0 left) ∧ cHi V = patS (g && decide (0 < rTo 2 g r0 left)) (rTo 2 g r0 left) := by
  obtain ⟨g, A, r0, left, e, hA, hR, _, e1, e2⟩ := dir_cases h0
  have r1 := rTo_range 1 g r0 left
  have r2 := rTo_range 2 g r0 left
  refine ⟨g, A, r0, left, e, hA, hR, ?_, ?_⟩
  · unfold cLo; rw [if_neg h0, e1, canon_patS r1.1 r1.2]
  · unfold cHi; rw [if_neg h0, e2, canon_patS r2.1 r2.2]
theorem around_c {V : Int} {ng : Bool} {f : Int → Int × Bool} (h : RdOf V ng f) : (f 1).1 = cLo V ∧ (f 2).1 = cHi V := by
  obtain ⟨A, r0, left, e, hng, hR, hf⟩ := h
  rw [hf 1, hf 2]
  by_cases h0 : V = 0
  · have hA : A = 0 := by
      rw [h0] at e
      cases ng
      · exact e.symm
      · have : (0 : Int) = -A := e
        omega
    have hn : ng = false := by
      cases ng
      · rfl
      · have := hng rfl; omega
    subst hn
    rw [hA] at hR
    obtain ⟨u1, u2⟩ := hR.unique rung_zero
    subst u1 u2
    unfold cLo cHi
    rw [if_pos h0, if_pos h0]
    have t1 := rTo_zero 1
    have t2 := rTo_zero 2
    refine ⟨?_, ?_⟩
    · simp only [t1]; rfl
    · simp only [t2]; rfl
  · obtain ⟨g, B, s0, l, e', hB, hR', c1, c2⟩ := c_rung h0
    have hA : 0 < A := by
      have hA0 : 0 ≤ A := by
        have := hR.lo
        have hv : 0 ≤ vS r0 := Int.mul_nonneg (by omega) (Int.le_of_lt (pw_pos _))
        omega
      have : A ≠ 0 := fun q => h0 (by rw [e, q]; cases ng <;> rfl)
      omega
    have s1 : decide (V < 0) = ng := by rw [e]; exact sg_lt hA
    have s2 : decide (V < 0) = g := by rw [e']; exact sg_lt hB
    have hg : ng = g := s1.symm.trans s2
    subst hg
    have hAB := sg_inj (e.symm.trans e')
    subst hAB
    obtain ⟨u1, u2⟩ := hR.unique hR'
    subst u1 u2
    exact ⟨c1.symm, c2.symm⟩
theorem prod_c {p q : Int} (rp : rng p) (rq : rng q) (hp : pok p = true) (hq : pok q = true) : canon (prLo p q) = cLo (prV p q) ∧ canon (prHi p q) = cHi (prV p q) := by
  have h1 := (pok_rg rp).1 hp
  have h2 := (pok_rg rq).1 hq
  have i2 : ¬ (rg p = 9218868437227405312 ∨ rg q = 9218868437227405312) := by omega
  by_cases h0 : rg p = 0 ∨ rg q = 0
  · have hz : prV p q = 0 := by
      obtain ⟨_, _, _, _, hC⟩ := prV_parts rp rq hp hq
      have : patV p * patV q = 0 := by
        rcases h0 with h | h
        · have : patV p = 0 := by rw [patV_iV rp hp]; unfold iV; rw [h]; cases decide (p < 0) <;> exact Int.zero_mul _
          rw [this, Int.zero_mul]
        · have : patV q = 0 := by rw [patV_iV rq hq]; unfold iV; rw [h]; cases decide (q < 0) <;> exact Int.zero_mul _
          rw [this, Int.mul_zero]
      rw [this] at hC
      rcases Int.mul_eq_zero.1 hC with k | k
      · exact k
      · exact absurd k (Int.ne_of_gt (two_pos 4194304))
    unfold prLo prHi cLo cHi
    rw [if_pos h0, if_pos h0, if_pos hz, if_pos hz]
    exact ⟨by decide, by decide⟩
  · have hz := prV_nz rp rq hp hq (fun k => h0 (.inl k)) (fun k => h0 (.inr k))
    unfold prLo prHi cLo cHi
    rw [if_neg h0, if_neg h0, if_neg i2, if_neg i2, if_neg hz, if_neg hz]
    exact ⟨rfl, rfl⟩
theorem suN_near {p q : Int} (rp : rng p) (rq : rng q) (hp : pok p = true) (hq : pok q = true) : suN p q = if patV p + patV q = 0 then patS (decide (hiM p q < 0) && decide (loM p q < 0)) 0 else nearP (patV p + patV q) := by
  unfold suN hiM loM
  by_cases h : rg p < rg q
  · rw [if_pos h, if_pos h, fsum_eqn rq rp hq hp, Int.add_comm]
  · rw [if_neg h, if_neg h, fsum_eqn rp rq hp hq]
theorem sum_c {p q : Int} (rp : rng p) (rq : rng q) (hp : pok p = true) (hq : pok q = true) : nn (suN p q) ∧ canon (beLo (suN p q) (suL p q)) = cLo (patV p + patV q) ∧ canon (beHi (suN p q) (suL p q)) = cHi (patV p + patV q) := by
  have hN := suN_near rp rq hp hq
  have hVi : patV p + patV q = (iV p + iV q) * pw (-1074) := by rw [patV_iV rp hp, patV_iV rq hq, Int.add_mul]
  have hq0 := pw_pos (-1074)
  by_cases h0 : patV p + patV q = 0
  · rw [if_pos h0] at hN
    have hnn : nn (suN p q) := by rw [hN]; exact patS_nn (by decide) (by decide)
    have hz : iV p + iV q = 0 := by
      rcases Int.mul_eq_zero.1 (hVi.symm.trans h0) with k | k
      · exact k
      · omega
    have hpok : pok (suN p q) = true := by rw [hN]; cases (decide (hiM p q < 0) && decide (loM p q < 0)) <;> decide
    have hi0 : iV (suN p q) = 0 := by rw [hN]; cases (decide (hiM p q < 0) && decide (loM p q < 0)) <;> decide
    obtain ⟨_, _, hc⟩ := su_btw rp rq hp hq hpok hnn
    rw [hi0, hz] at hc
    refine ⟨hnn, ?_⟩
    rcases hc with ⟨_, b1, b2⟩ | ⟨k, _⟩ | ⟨k, _⟩
    · rw [b1, b2]
      unfold cLo cHi
      rw [if_pos h0, if_pos h0, hN]
      exact ⟨by cases (decide (hiM p q < 0) && decide (loM p q < 0)) <;> decide, by cases (decide (hiM p q < 0) && decide (loM p q < 0)) <;> decide⟩
    · omega
    · omega
  · rw [if_neg h0] at hN
    obtain ⟨g1, g2⟩ := nearP_pat h0
    have hnn : nn (suN p q) := by rw [hN]; exact ⟨g1, g2⟩
    refine ⟨hnn, ?_⟩
    unfold cLo cHi
    rw [if_neg h0, if_neg h0]
    cases hf : pok (nearP (patV p + patV q))
    · have hi := dir_inf h0 hf
      have hr : rg (suN p q) = 9218868437227405312 := by
        rw [hN]
        have k1 := nn_rg (show nn (nearP (patV p + patV q)) from ⟨g1, g2⟩)
        rcases Int.lt_or_le (rg (nearP (patV p + patV q))) 9218868437227405312 with k | k
        · rw [(pok_rg g1).2 k] at hf; cases hf
        · omega
      have h1 := (pok_rg rp).1 hp
      have h2 := (pok_rg rq).1 hq
      obtain ⟨o1, o2⟩ := su_over ⟨rp, pok_clsF rp hp⟩ ⟨rq, pok_clsF rq hq⟩ (by omega) (by omega) hnn hr
      rcases Int.lt_or_gt_of_ne h0 with k | k
      · obtain ⟨e0, e1, e2⟩ := hi.2 k
        obtain ⟨b1, b2⟩ := o2 (by rw [hN, e0]; decide)
        rw [b1, b2, hN, e0, e1, e2]
        exact ⟨by decide, by decide⟩
      · obtain ⟨e0, e1, e2⟩ := hi.1 k
        obtain ⟨b1, b2⟩ := o1 (by rw [hN, e0]; decide)
        rw [b1, b2, hN, e0, e1, e2]
        exact ⟨by decide, by decide⟩
    · obtain ⟨d1, d2, d3⟩ := dir_fin h0 hf
      rw [← hN] at d1 d2 d3 hf
      obtain ⟨_, _, hc⟩ := su_btw rp rq hp hq hf hnn
      have hvn := patV_iV hnn.1 hf
      rw [hvn, hVi] at d1 d2 d3
      rw [hVi]
      generalize pw (-1074) = w at *
      rcases hc with ⟨k, b1, b2⟩ | ⟨k, b1, b2⟩ | ⟨k, b1, b2⟩
      · rw [b1, b2]
        obtain ⟨f1, f2⟩ := d3 (by rw [k])
        rw [← f1, ← f2]
        exact ⟨rfl, rfl⟩
      · rw [b1, b2]
        obtain ⟨f1, f2⟩ := d1 (Int.mul_lt_mul_of_pos_right k hq0)
        rw [← f1, ← f2]
        exact ⟨rfl, rfl⟩
      · rw [b1, b2]
        obtain ⟨f1, f2⟩ := d2 (Int.mul_lt_mul_of_pos_right k hq0)
        rw [← f1, ← f2]
        exact ⟨rfl, rfl⟩
end Go.Proofs.YtmpioejllfedoaaGreatDoor

/-
  Plain mathematics: what dyadic.Float tells of a number, held against the least interval around it. No Go text in sight.
-/
namespace Go.Proofs.YtmpioejllfedoaaGreatDoor
open Go Go.RowKit Go.Proofs.YtmpioejllfedoaaGreatDoor.M
set_option linter.unusedSimpArgs false
set_option linter.unusedVariables false

/-- Does dyadic.Float tell a float? -/
def flOk (m e : Int) : Bool := decide (blen m ≤ 63) && jk 52 2047 (-1074) m e
theorem rung_at (r : Nat) : Rung (vS r) r 0 := by
  have h := vS_lt (show r < r + 1 by omega)
  refine ⟨Int.le_refl _, h, ⟨fun _ => rfl, fun _ => rfl⟩, ⟨fun q => by omega, fun q => by omega⟩, ⟨fun q => by omega, fun q => by omega⟩, ⟨fun q => by omega, fun q => by omega⟩⟩
theorem rTo_at (way : Int) (g : Bool) {r : Nat} (h : (r : Int) < 9218868437227405312) : rTo way g r 0 = (r : Int) := by
  rw [rTo_low way h, (rUp_dn (decide (r % 2 = 1)) 0).2.2.2.2 way g rfl]
  simp
/-- A float's value: both ends are the float. -/
theorem c_at {g : Bool} {r : Nat} (h : (r : Int) < 9218868437227405312) (h0 : 0 < r) : cLo (sg g (vS r)) = patS g (r : Int) ∧ cHi (sg g (vS r)) = patS g (r : Int) := by
  have hp : 0 < vS r := by
    have := vS_lt h0
    have hz : vS 0 = 0 := by unfold vS; rw [V_zero]; exact Int.zero_mul _
    omega
  have hn : sg g (vS r) ≠ 0 := fun q => by
    generalize vS r = y at *
    cases g
    · rw [sgFF] at q; omega
    · rw [sgTT] at q; omega
  obtain ⟨g', A, r0, left, e, hA, hR, c1, c2⟩ := c_rung hn
  have s1 : decide (sg g (vS r) < 0) = g := sg_lt hp
  have s2 : decide (sg g (vS r) < 0) = g' := by rw [e]; exact sg_lt hA
  have hg : g = g' := s1.symm.trans s2
  subst hg
  have hAB := sg_inj e
  rw [← hAB] at hR
  obtain ⟨u1, u2⟩ := hR.unique (rung_at r)
  subst u1 u2
  rw [c1, c2, rTo_at 1 g h, rTo_at 2 g h, decide_eq_true (show (0 : Int) < (r0 : Int) by omega), Bool.and_true]
  exact ⟨rfl, rfl⟩
/-- Where Float tells a float, it is both ends. -/
theorem tight_yes {V : Int} {ng : Bool} {m e : Int} (hy : Dy V ng m e) (h : flOk m e = true) : cLo V = canon (jp ng m e) ∧ cHi V = cLo V := by
  unfold flOk at h
  simp only [Bool.and_eq_true, decide_eq_true_eq] at h
  obtain ⟨h63, hk⟩ := h
  rcases hy.form with ⟨f1, f2, f3⟩ | ⟨f1, f2⟩
  · have hV := hy.eq_zero.2 f1
    subst f1 f2 f3
    rw [hV]
    unfold cLo cHi
    rw [if_pos rfl, if_pos rfl]
    exact ⟨by decide, rfl⟩
  · have hm63 : m < 9223372036854775808 := by
      have h1 := blen_lt m
      have h2 : (2 : Int) ^ blen m ≤ 2 ^ 63 := two_le h63
      rw [show (2 : Int) ^ 63 = 9223372036854775808 by decide] at h2
      omega
    have he : -1074 ≤ e := by
      rcases Int.lt_or_le e (-1074) with q | q
      · rw [j_low f1 hm63 f2 q] at hk; cases hk
      · exact q
    have hg : jgood 52 2047 (-1074) m e = true := by
      unfold jk at hk
      rw [if_neg (by omega), if_neg (by omega)] at hk
      exact hk
    have hj := V_join Ieee.double 52 dB 2047 (-1074) m e f1 hm63 hg he
    have hl := jv_le (mag := m) (exp := e) (by unfold rng; omega)
    have hj' : M.V Ieee.double (jv 52 2047 (-1074) m e).toNat = m.toNat * 2 ^ (e - -1074).toNat := hj
    obtain ⟨r, hr⟩ : ∃ r : Nat, (jv 52 2047 (-1074) m e).toNat = r := ⟨_, rfl⟩
    have hv : jv 52 2047 (-1074) m e = (r : Int) := by omega
    rw [hr] at hj'
    have hr1 : (r : Int) < 9218868437227405312 := by omega
    have hj2 : jp ng m e = patS ng (r : Int) := by
      unfold jp patS
      rw [hk, hv]
      cases ng <;> rfl
    have hV : V = sg ng (vS r) := by
      have ep := pw_add (e := -1074) (by omega) (e - -1074).toNat
      rw [show (-1074 : Int) + ((e - -1074).toNat : Int) = e by omega] at ep
      rw [hy.val, ep]
      unfold vS
      rw [hj']
      push_cast
      rw [show ((m.toNat : Nat) : Int) = m by omega]
      generalize pw (-1074) = z
      generalize (2 : Int) ^ (e - -1074).toNat = y
      cases ng
      · show m * (z * y) = m * y * z
        grind
      · show -m * (z * y) = -(m * y * z)
        grind
    have h0 : 0 < r := by
      rcases Nat.eq_zero_or_pos r with q | q
      · rw [q, V_zero] at hj'
        have h2 := Nat.two_pow_pos (e - -1074).toNat
        have h3 : 0 < m.toNat * 2 ^ (e - -1074).toNat := Nat.mul_pos (by omega) h2
        omega
      · exact q
    obtain ⟨c1, c2⟩ := c_at (g := ng) hr1 h0
    rw [hV, c1, c2, hj2, canon_patS (by omega) (by omega), decide_eq_true (show (0 : Int) < (r : Int) by omega), Bool.and_true]
    exact ⟨rfl, rfl⟩
/-- Where it tells none, the ends are neighbours. -/
theorem tight_no {V : Int} {ng : Bool} {m e : Int} (hy : Dy V ng m e) (h : flOk m e = false) : canon (next (cLo V)) = cHi V := by
  have h0 : V ≠ 0 := fun q => by
    rw [q] at hy
    obtain ⟨e1, e2, e3⟩ := hy.unique Dy.zero
    subst e1 e2 e3
    revert h
    decide
  obtain ⟨g, A, r0, left, eV, hA, hR, c1, c2⟩ := c_rung h0
  rw [c1, c2]
  by_cases hr0 : (r0 : Int) < 9218868437227405312
  · have hl : left ≠ 0 := fun q => by
      have ha := hR.l0.1 q
      have hp := patS_parts (ng := g) (r := (r0 : Int)) (by omega) (by omega)
      have hpk : pok (patS g (r0 : Int)) = true := by rw [patS_fin (by omega) (by omega)]; exact decide_eq_true hr0
      have hv : patV (patS g (r0 : Int)) = V := by
        rw [eV, ha]
        cases g
        · exact patV_patS hr0 (fun q => by cases q)
        · exact patV_neg hr0
      rw [← hv] at hy
      obtain ⟨f1, _, _, _, f5, _⟩ := float_form hp.1 hpk hy
      unfold flOk at h
      rw [decide_eq_true f1, f5] at h
      cases h
    obtain ⟨u1, u2, u3, u4, _⟩ := rUp_dn (decide (r0 % 2 = 1)) left
    rw [rTo_low 1 hr0, rTo_low 2 hr0]
    cases g
    · rw [u1, u4 hl]
      simp only [Bool.false_eq_true, if_false, if_true, Int.add_zero, Bool.false_and]
      rw [nextS_pos (by omega) hr0, canon_patS (by omega) (by omega), Bool.false_and]
    · rw [u2 hl, u3]
      simp only [Bool.false_eq_true, if_false, if_true, Int.add_zero, Bool.true_and]
      rw [decide_eq_true (show (0 : Int) < (r0 : Int) + 1 by omega), nextS_neg (by omega) hr0, canon_patS (by omega) (by omega), Bool.true_and]
  · have b1 : rTo 1 g r0 left = if g then 9218868437227405312 else 9218868437227405311 := by
      unfold rTo bRung
      rw [if_neg hr0]
      cases g <;> decide
    have b2 : rTo 2 g r0 left = if g then 9218868437227405311 else 9218868437227405312 := by
      unfold rTo bRung
      rw [if_neg hr0]
      cases g <;> decide
    rw [b1, b2]
    cases g <;> decide
end Go.Proofs.YtmpioejllfedoaaGreatDoor

/-
  Package point: Normal, by its contract; the document's Normal.
-/
namespace Go.Proofs.YtmpioejllfedoaaGreatDoor
open Go Go.RowKit Go.Proofs.YtmpioejllfedoaaGreatDoor.M
set_option linter.unusedSimpArgs false
set_option linter.unusedVariables false

theorem q_two_keep {p B : Nat} {x0 x1 : Value} {W W' : World} (h : p < B ∧ B ≤ W.heap.size ∧ W.cell? ⟨p, 0, none⟩ = some x0 ∧ W.cell? ⟨p, 1, none⟩ = some x1) (hb : Below W.heap.size W W') :
    p < B ∧ B ≤ W'.heap.size ∧ W'.cell? ⟨p, 0, none⟩ = some x0 ∧ W'.cell? ⟨p, 1, none⟩ = some x1 :=
  ⟨h.1, Nat.le_trans h.2.1 hb.size, q_cell h.2.2.1 hb, q_cell h.2.2.2 hb⟩
theorem Lays.below' {w w' : World} (h : Lays w) (hb : Below w.heap.size w w') : Lays w' :=
  ⟨q_cell h.a0 hb, q_cell h.a1 hb, q_cell h.a2 hb, trivial, trivial, trivial⟩
end Go.Proofs.YtmpioejllfedoaaGreatDoor

/-
  Package span: told, Around, by their contracts.
-/
namespace Go.Proofs.YtmpioejllfedoaaGreatDoor
open Go Go.RowKit Go.Proofs.YtmpioejllfedoaaGreatDoor.M
set_option linter.unusedSimpArgs false
set_option linter.unusedVariables false

set_option maxRecDepth 100000 in
set_option maxHeartbeats 1000000 in
theorem spanTold {lo hi : Int} (hl : nn lo) (hh : nn hi) (w : World) (L : Lays w) :
    Calls Tryz.prog 40 #[ivl lo hi] w fun e w' => e = .returned (spn (canon lo) (canon hi)) ∧ Below w.heap.size w w' := by
  unfold ivl spn
  have CO1 : Hid (∀ W, Calls Tryz.prog 69 #[.float .f64 (wd lo)] W fun e w' => e = .returned (.int .i64 lo) ∧ w' = W) := fun W => by
    have := bitsOf lo W hl.1
    rw [show told lo = lo from if_neg hl.2] at this
    exact this
  have CO2 : Hid (∀ W, Calls Tryz.prog 69 #[.float .f64 (wd hi)] W fun e w' => e = .returned (.int .i64 hi) ∧ w' = W) := fun W => by
    have := bitsOf hi W hh.1
    rw [show told hi = hi from if_neg hh.2] at this
    exact this
  have CX' : Hid (∀ W, Lays W → Calls Tryz.prog 49 #[.int .i64 lo] W fun e w' => e = .returned (.int .i64 (canon lo)) ∧ Gr W w') := fun W LW => bitsCanon lo W LW
  have CY' : Hid (∀ W, Lays W → Calls Tryz.prog 49 #[.int .i64 hi] W fun e w' => e = .returned (.int .i64 (canon hi)) ∧ Gr W w') := fun W LW => bitsCanon hi W LW
  generalize canon lo = X at *
  generalize canon hi = Y at *
  generalize wd lo = A at *
  generalize wd hi = B at *
  have hb2 := bel_alloc2 w (.cells #[.float .f64 A, .float .f64 B] 61) (.cells #[.int .i64 0, .int .i64 0] 23)
  have p0 := heap_a2 w (.cells #[.float .f64 A, .float .f64 B] 61) (.cells #[.int .i64 0, .int .i64 0] 23)
  have p1 := heap_b2 w (.cells #[.float .f64 A, .float .f64 B] 61) (.cells #[.int .i64 0, .int .i64 0] 23)
  have hs := size2 w (.cells #[.float .f64 A, .float .f64 B] 61) (.cells #[.int .i64 0, .int .i64 0] 23)
  have c0 := blkC p0 0 rfl
  have c1 := blkC p0 1 rfl
  have hbd := hb2.drew
  have L1 := L.below' hbd
  clear hl hh
  go_enter Tryz.func40, Tryz.ntmps40
  go_wp2_with fail
  generalize (w.alloc (.cells #[.float .f64 A, .float .f64 B] 61)).alloc (.cells #[.int .i64 0, .int .i64 0] 23) = w1 at *
  have hc : w.heap.size < w.heap.size + 1 ∧ w.heap.size + 1 ≤ w1.drew.heap.size ∧ w1.drew.cell? ⟨w.heap.size, 0, none⟩ = some (.float .f64 A) ∧ w1.drew.cell? ⟨w.heap.size, 1, none⟩ = some (.float .f64 B) := ⟨by omega, by show _ ≤ w1.heap.size; omega, c0, c1⟩
  have hd : w1.drew.heap[w.heap.size + 1]? = some (.cells #[.int .i64 0, .int .i64 0] 23 (0, 0)) := p1
  go_region_held3 (fun W => w.heap.size < w.heap.size + 1 ∧ w.heap.size + 1 ≤ W.heap.size ∧ W.cell? ⟨w.heap.size, 0, none⟩ = some (.float .f64 A) ∧ W.cell? ⟨w.heap.size, 1, none⟩ = some (.float .f64 B))
    (first | assumption | (repeat (first | exact hc | exact hc1 | exact hc2 | refine q_two_set (by omega) ?_)))
    (first
      | (go_at_call 69; have _t := LA; refine (CO2.out _).mono ?_; rintro _ _ ⟨rfl, rfl⟩)
      | (go_at_call 69; refine (CO1.out _).mono ?_; rintro _ _ ⟨rfl, rfl⟩)
      | (go_at_call 49; have _t := LA; refine (CY'.out _ LA).mono ?_; rintro _ w3 ⟨rfl, g3⟩; have hc2 := q_two_keep hc1 g3.be; have d2 := (g3.be.block _ (Array.getElem?_eq_some_iff.1 d1).1).trans d1; have d3 := q_heap_set d2 0 (.int .i64 X); have d4 := q_heap_set d3 1 (.int .i64 Y); have f0 := blkC d2 0 rfl; have z0 := blkF d2 0; have f1 := blkC d3 1 rfl; have z1 := blkF d3 1)
      | (go_at_call 49; refine (CX'.out _ L1).mono ?_; rintro _ w2 ⟨rfl, g2⟩; have LA := L1.grown g2; have hc1 := q_two_keep hc g2.be; have d1 := (g2.be.block _ (Array.getElem?_eq_some_iff.1 hd).1).trans hd))
  have e0 := blkC d4 0 rfl
  have e1 := blkC d4 1 rfl
  have hbe : Below w.heap.size w ((w3.setCell ⟨w.heap.size + 1, 0, none⟩ (.int .i64 X)).setCell ⟨w.heap.size + 1, 1, none⟩ (.int .i64 Y)) := ((bel_trans hbd (bel_trans g2.be g3.be)).setCell (p := ⟨w.heap.size + 1, 0, none⟩) (Nat.le_succ _) _).setCell (p := ⟨w.heap.size + 1, 1, none⟩) (Nat.le_succ _) _
  clear d1 d2 d3 d4 f0 f1 z0 z1 hd hc hc1 hc2
  generalize (w3.setCell ⟨w.heap.size + 1, 0, none⟩ (.int .i64 X)).setCell ⟨w.heap.size + 1, 1, none⟩ (.int .i64 Y) = wy at *
  go_wp2
  refine bodyPost_ret (v := .agg #[.int .i64 X, .int .i64 Y]) (by simp [results, Tryz.results40, go_sem, e0, e1]) rfl ⟨rfl, hbe⟩
end Go.Proofs.YtmpioejllfedoaaGreatDoor

/-
  Package span: ofTwo, by its contract, for any function that is handed over.
-/
namespace Go.Proofs.YtmpioejllfedoaaGreatDoor
open Go Go.RowKit Go.Proofs.YtmpioejllfedoaaGreatDoor.M
set_option linter.unusedSimpArgs false
set_option linter.unusedVariables false

/-- an interval, or nothing and an error -/
def twoV (ok : Bool) (v : Value) : Value := if ok then v else .agg #[.int .i64 0, .int .i64 0]
def errA (ok : Bool) : Int := if ok then 0 else 1
theorem hl_last {n : Nat} (w : World) (o : Obj) (h : n = w.heap.size) : (w.alloc o).heap[n]? = some o := by
  subst h
  show (w.heap.push o)[w.heap.size]? = _
  simp
theorem hl6 (w : World) (o0 o1 o2 o3 o4 o5 : Obj) : ((((((w.alloc o0).alloc o1).alloc o2).alloc o3).alloc o4).alloc o5).drew.drew.drew.heap = (((((w.heap.push o0).push o1).push o2).push o3).push o4).push o5 := rfl
theorem hl6_0 {n m : Nat} {w : World} {o0 o1 o2 o3 o4 o5 : Obj} (hs : w.heap.size = m) (h : n = m + 0) : (((((((w.alloc o0).alloc o1).alloc o2).alloc o3).alloc o4).alloc o5).drew.drew.drew).heap[n]? = some o0 := by
  subst hs
  subst h
  rw [hl6]
  rw [Array.getElem?_push, if_neg (by first | (simp; done) | (simp; omega))]
  rw [Array.getElem?_push, if_neg (by first | (simp; done) | (simp; omega))]
  rw [Array.getElem?_push, if_neg (by first | (simp; done) | (simp; omega))]
  rw [Array.getElem?_push, if_neg (by first | (simp; done) | (simp; omega))]
  rw [Array.getElem?_push, if_neg (by first | (simp; done) | (simp; omega))]
  rw [Array.getElem?_push, if_pos (by simp)]
theorem hl6_1 {n m : Nat} {w : World} {o0 o1 o2 o3 o4 o5 : Obj} (hs : w.heap.size = m) (h : n = m + 1) : (((((((w.alloc o0).alloc o1).alloc o2).alloc o3).alloc o4).alloc o5).drew.drew.drew).heap[n]? = some o1 := by
  subst hs
  subst h
  rw [hl6]
  rw [Array.getElem?_push, if_neg (by first | (simp; done) | (simp; omega))]
  rw [Array.getElem?_push, if_neg (by first | (simp; done) | (simp; omega))]
  rw [Array.getElem?_push, if_neg (by first | (simp; done) | (simp; omega))]
  rw [Array.getElem?_push, if_neg (by first | (simp; done) | (simp; omega))]
  rw [Array.getElem?_push, if_pos (by simp)]
theorem hl6_2 {n m : Nat} {w : World} {o0 o1 o2 o3 o4 o5 : Obj} (hs : w.heap.size = m) (h : n = m + 2) : (((((((w.alloc o0).alloc o1).alloc o2).alloc o3).alloc o4).alloc o5).drew.drew.drew).heap[n]? = some o2 := by
  subst hs
  subst h
  rw [hl6]
  rw [Array.getElem?_push, if_neg (by first | (simp; done) | (simp; omega))]
  rw [Array.getElem?_push, if_neg (by first | (simp; done) | (simp; omega))]
  rw [Array.getElem?_push, if_neg (by first | (simp; done) | (simp; omega))]
  rw [Array.getElem?_push, if_pos (by simp)]
theorem hl6_3 {n m : Nat} {w : World} {o0 o1 o2 o3 o4 o5 : Obj} (hs : w.heap.size = m) (h : n = m + 3) : (((((((w.alloc o0).alloc o1).alloc o2).alloc o3).alloc o4).alloc o5).drew.drew.drew).heap[n]? = some o3 := by
  subst hs
  subst h
  rw [hl6]
  rw [Array.getElem?_push, if_neg (by first | (simp; done) | (simp; omega))]
  rw [Array.getElem?_push, if_neg (by first | (simp; done) | (simp; omega))]
  rw [Array.getElem?_push, if_pos (by simp)]
theorem hl6_4 {n m : Nat} {w : World} {o0 o1 o2 o3 o4 o5 : Obj} (hs : w.heap.size = m) (h : n = m + 4) : (((((((w.alloc o0).alloc o1).alloc o2).alloc o3).alloc o4).alloc o5).drew.drew.drew).heap[n]? = some o4 := by
  subst hs
  subst h
  rw [hl6]
  rw [Array.getElem?_push, if_neg (by first | (simp; done) | (simp; omega))]
  rw [Array.getElem?_push, if_pos (by simp)]
theorem hl6_5 {n m : Nat} {w : World} {o0 o1 o2 o3 o4 o5 : Obj} (hs : w.heap.size = m) (h : n = m + 5) : (((((((w.alloc o0).alloc o1).alloc o2).alloc o3).alloc o4).alloc o5).drew.drew.drew).heap[n]? = some o5 := by
  subst hs
  subst h
  rw [hl6]
  rw [Array.getElem?_push, if_pos (by simp)]
theorem hl6_b {w : World} {o0 o1 o2 o3 o4 o5 : Obj} : Below w.heap.size w (((((((w.alloc o0).alloc o1).alloc o2).alloc o3).alloc o4).alloc o5).drew.drew.drew) :=
  (bel_trans (bel_alloc2 w o0 o1) (bel_trans (bel_alloc2 _ o2 o3) (bel_alloc2 _ o4 o5))).drew.drew.drew
theorem s4_keep {a b B : Nat} {x0 x1 x2 x3 : Value} {W W' : World} (h : (a < B ∧ b < B ∧ B ≤ W.heap.size) ∧ W.cell? ⟨a, 0, none⟩ = some x0 ∧ W.cell? ⟨a, 1, none⟩ = some x1 ∧ W.cell? ⟨b, 0, none⟩ = some x2 ∧ W.cell? ⟨b, 1, none⟩ = some x3) (hb : Below W.heap.size W W') :
    (a < B ∧ b < B ∧ B ≤ W'.heap.size) ∧ W'.cell? ⟨a, 0, none⟩ = some x0 ∧ W'.cell? ⟨a, 1, none⟩ = some x1 ∧ W'.cell? ⟨b, 0, none⟩ = some x2 ∧ W'.cell? ⟨b, 1, none⟩ = some x3 :=
  ⟨⟨h.1.1, h.1.2.1, Nat.le_trans h.1.2.2 hb.size⟩, q_cell h.2.1 hb, q_cell h.2.2.1 hb, q_cell h.2.2.2.1 hb, q_cell h.2.2.2.2 hb⟩
theorem s4_alloc {a b B : Nat} {x0 x1 x2 x3 : Value} {W : World} (o : Obj) (h : (a < B ∧ b < B ∧ B ≤ W.heap.size) ∧ W.cell? ⟨a, 0, none⟩ = some x0 ∧ W.cell? ⟨a, 1, none⟩ = some x1 ∧ W.cell? ⟨b, 0, none⟩ = some x2 ∧ W.cell? ⟨b, 1, none⟩ = some x3) :
    (a < B ∧ b < B ∧ B ≤ (W.alloc o).heap.size) ∧ (W.alloc o).cell? ⟨a, 0, none⟩ = some x0 ∧ (W.alloc o).cell? ⟨a, 1, none⟩ = some x1 ∧ (W.alloc o).cell? ⟨b, 0, none⟩ = some x2 ∧ (W.alloc o).cell? ⟨b, 1, none⟩ = some x3 := s4_keep h (bel_alloc _ _)
theorem s4_drew {a b B : Nat} {x0 x1 x2 x3 : Value} {W : World} (h : (a < B ∧ b < B ∧ B ≤ W.heap.size) ∧ W.cell? ⟨a, 0, none⟩ = some x0 ∧ W.cell? ⟨a, 1, none⟩ = some x1 ∧ W.cell? ⟨b, 0, none⟩ = some x2 ∧ W.cell? ⟨b, 1, none⟩ = some x3) :
    (a < B ∧ b < B ∧ B ≤ W.drew.heap.size) ∧ W.drew.cell? ⟨a, 0, none⟩ = some x0 ∧ W.drew.cell? ⟨a, 1, none⟩ = some x1 ∧ W.drew.cell? ⟨b, 0, none⟩ = some x2 ∧ W.drew.cell? ⟨b, 1, none⟩ = some x3 := h
set_option maxRecDepth 100000 in
set_option maxHeartbeats 8000000 in
theorem ofTwo_any (F : Nat) {a b c d x y : Int} (ha : rng a) (hb : rng b) (hc : rng c) (hd : rng d) (w : World) (L : Lays w)
    (hE : ∀ (cap : Array Value) (w : World), (callFunc F cap).run Tryz.prog w = .ok (.enter F cap) w)
    (CF : Hid (vld a b = true → vld c d = true → nn x ∧ nn y ∧ ∀ W, Lays W → Calls Tryz.prog F #[ivl a b, ivl c d] W fun e w' => e = .returned (ivl x y) ∧ Below W.heap.size W w')) :
    Calls Tryz.prog 34 #[spn a b, spn c d, .func (.func F) #[] #[]] w fun e w' => e = .returned (.tuple #[twoV (vld a b && vld c d) (spn (canon x) (canon y)), .int .i64 (errA (vld a b && vld c d))]) ∧ Below w.heap.size w w' := by
  have R1 := fun W => spanReadX a b W
  have R2 := fun W => spanReadX c d W
  have V1 : Hid (∀ W, Calls Tryz.prog 39 #[ivl a b] W fun e w' => e = .returned (.bool (vld a b)) ∧ Below W.heap.size W w') := fun W => ivlValid ha hb W
  have V2 : Hid (∀ W, Calls Tryz.prog 39 #[ivl c d] W fun e w' => e = .returned (.bool (vld c d)) ∧ Below W.heap.size W w') := fun W => ivlValid hc hd W
  unfold spn ivl at *
  obtain ⟨q0, q1, q2, hs, hb3⟩ := heap3 w (.cells #[.int .i64 a, .int .i64 b] 23) (.cells #[.int .i64 c, .int .i64 d] 23) (.cells #[.int .i64 0, .int .i64 0] 23)
  go_enter Tryz.func34, Tryz.ntmps34
  go_wp2_with fail
  have k0 := blkC q0 0 rfl
  have k1 := blkC q0 1 rfl
  have k2 := blkC q1 0 rfl
  have k3 := blkC q1 1 rfl
  generalize ((w.alloc (.cells #[.int .i64 a, .int .i64 b] 23)).alloc (.cells #[.int .i64 c, .int .i64 d] 23)).alloc (.cells #[.int .i64 0, .int .i64 0] 23) = wx at *
  have hst : ∀ (p : Addr) (n : Nat) (m : Mode) (w : World), (store p (.float .f64 n) m).run Tryz.prog w = stored Tryz.prog w p (.float .f64 n) m := fun p n m w => run_store _ w p _ m rfl
  have hc : (w.heap.size < w.heap.size + 3 ∧ w.heap.size + 1 < w.heap.size + 3 ∧ w.heap.size + 3 ≤ wx.drew.heap.size) ∧ wx.drew.cell? ⟨w.heap.size, 0, none⟩ = some (.int .i64 a) ∧ wx.drew.cell? ⟨w.heap.size, 1, none⟩ = some (.int .i64 b) ∧ wx.drew.cell? ⟨w.heap.size + 1, 0, none⟩ = some (.int .i64 c) ∧ wx.drew.cell? ⟨w.heap.size + 1, 1, none⟩ = some (.int .i64 d) := ⟨⟨by omega, by omega, by show _ ≤ wx.heap.size; omega⟩, k0, k1, k2, k3⟩
  rename_i Q' K haK
  have H : ∀ (gi gj : Nat) (W : World), W.heap[gi]? = some (.cells #[.float .f64 (wd a), .float .f64 (wd b)] 61 (0, 0)) → W.heap[gj]? = some (.cells #[.float .f64 (wd c), .float .f64 (wd d)] 61 (0, 0)) → Below wx.heap.size wx W →
      Exit.then K Q' Exit.normal { tmps := #[.agg #[.int .i64 a, .int .i64 b], .agg #[.int .i64 c, .int .i64 d], .func (.func F) #[] #[], .pointer (some ⟨w.heap.size, 0, none⟩), .pointer (some ⟨w.heap.size + 1, 0, none⟩), undef, .pointer (some ⟨w.heap.size + 1 + 1, 0, none⟩), .int .i64 0, .pointer (some ⟨gi, 0, none⟩), .pointer (some ⟨gj, 0, none⟩), .agg #[.int .i64 a, .int .i64 b], .agg #[.float .f64 (wd a), .float .f64 (wd b)], .agg #[.int .i64 c, .int .i64 d], .agg #[.float .f64 (wd c), .float .f64 (wd d)], undef, undef, undef, undef, undef, undef, undef, undef, undef, undef, undef, undef, undef, undef], defers := [] } W := by
    intro gi gj W hgi hgj hbW
    clear hc k0 k1 k2 k3 q0 q1 R1 R2 hst
    have i0 := blkC hgi 0 rfl
    have i1 := blkC hgi 1 rfl
    have j0 := blkC hgj 0 rfl
    have j1 := blkC hgj 1 rfl
    go_wp2_with fail
    refine (V1.out _).mono ?_
    rintro _ w1 ⟨rfl, hb4⟩
    have hgi1 := (hb4.block _ (Array.getElem?_eq_some_iff.1 hgi).1).trans hgi
    have hgj1 := (hb4.block _ (Array.getElem?_eq_some_iff.1 hgj).1).trans hgj
    clear i0 i1 j0 j1
    have j0 := blkC hgj1 0 rfl
    have j1 := blkC hgj1 1 rfl
    by_cases h1 : vld a b = false
    · rw [h1]
      have hbR := bel_trans hbW hb4
      have d2 := (hbR.block _ (Array.getElem?_eq_some_iff.1 q2).1).trans q2
      have d3 := q_heap_set d2 0 (.int .i64 0)
      have d4 := q_heap_set d3 1 (.int .i64 0)
      have f0 := blkC d2 0 rfl
      have z0 := blkF d2 0
      have f1 := blkC d3 1 rfl
      have z1 := blkF d3 1
      have e0 := blkC d4 0 rfl
      have e1 := blkC d4 1 rfl
      have hbe := ((bel_trans hb3 hbR).setCell (p := ⟨w.heap.size + 1 + 1, 0, none⟩) (show w.heap.size ≤ w.heap.size + 1 + 1 by omega) (.int .i64 0)).setCell (p := ⟨w.heap.size + 1 + 1, 1, none⟩) (show w.heap.size ≤ w.heap.size + 1 + 1 by omega) (.int .i64 0)
      clear d2 d3 d4
      go_wp2
      refine bodyPost_ret (v := .tuple #[.agg #[.int .i64 0, .int .i64 0], .int .i64 1]) (by simp [results, Tryz.results34, go_sem, e0, e1]) rfl ⟨by rw [h1]; rfl, hbe⟩
    replace h1 : vld a b = true := by simpa using h1
    rw [h1]
    go_wp2_with fail
    refine (V2.out _).mono ?_
    rintro _ w2 ⟨rfl, hb5⟩
    have hgi2 := (hb5.block _ (Array.getElem?_eq_some_iff.1 hgi1).1).trans hgi1
    have hgj2 := (hb5.block _ (Array.getElem?_eq_some_iff.1 hgj1).1).trans hgj1
    clear j0 j1
    have i0 := blkC hgi2 0 rfl
    have i1 := blkC hgi2 1 rfl
    have j0 := blkC hgj2 0 rfl
    have j1 := blkC hgj2 1 rfl
    have hbR := bel_trans hbW (bel_trans hb4 hb5)
    by_cases h2 : vld c d = false
    · rw [h2]
      have d2 := (hbR.block _ (Array.getElem?_eq_some_iff.1 q2).1).trans q2
      have d3 := q_heap_set d2 0 (.int .i64 0)
      have d4 := q_heap_set d3 1 (.int .i64 0)
      have f0 := blkC d2 0 rfl
      have z0 := blkF d2 0
      have f1 := blkC d3 1 rfl
      have z1 := blkF d3 1
      have e0 := blkC d4 0 rfl
      have e1 := blkC d4 1 rfl
      have hbe := ((bel_trans hb3 hbR).setCell (p := ⟨w.heap.size + 1 + 1, 0, none⟩) (show w.heap.size ≤ w.heap.size + 1 + 1 by omega) (.int .i64 0)).setCell (p := ⟨w.heap.size + 1 + 1, 1, none⟩) (show w.heap.size ≤ w.heap.size + 1 + 1 by omega) (.int .i64 0)
      clear d2 d3 d4
      go_wp2
      refine bodyPost_ret (v := .tuple #[.agg #[.int .i64 0, .int .i64 0], .int .i64 1]) (by simp [results, Tryz.results34, go_sem, e0, e1]) rfl ⟨by rw [h2, Bool.and_false]; rfl, hbe⟩
    replace h2 : vld c d = true := by simpa using h2
    rw [h2]
    obtain ⟨nx, ny, CF'⟩ := CF.out h1 h2
    have L2 := L.below' (bel_trans hb3 hbR)
    have CT := fun W LW => spanTold nx ny W LW
    unfold ivl spn at CT
    go_wp2_with fail
    refine (CF' _ L2).mono ?_
    rintro _ w3 ⟨rfl, hb6⟩
    have L3 := L2.below' hb6
    go_wp2_with fail
    refine (CT _ L3).mono ?_
    rintro _ w4 ⟨rfl, hb7⟩
    replace hbR := bel_trans hbR (bel_trans hb6 hb7)
    have d2 := (hbR.block _ (Array.getElem?_eq_some_iff.1 q2).1).trans q2
    generalize hX : canon x = X at *
    generalize hY : canon y = Y at *
    have d3 := q_heap_set d2 0 (.int .i64 X)
    have d4 := q_heap_set d3 1 (.int .i64 Y)
    have f0 := blkC d2 0 rfl
    have z0 := blkF d2 0
    have f1 := blkC d3 1 rfl
    have z1 := blkF d3 1
    have e0 := blkC d4 0 rfl
    have e1 := blkC d4 1 rfl
    have hbe := ((bel_trans hb3 hbR).setCell (p := ⟨w.heap.size + 1 + 1, 0, none⟩) (show w.heap.size ≤ w.heap.size + 1 + 1 by omega) (.int .i64 X)).setCell (p := ⟨w.heap.size + 1 + 1, 1, none⟩) (show w.heap.size ≤ w.heap.size + 1 + 1 by omega) (.int .i64 Y)
    clear d2 d3 d4 CT CF CF'
    go_wp2
    refine bodyPost_ret (v := .tuple #[.agg #[.int .i64 X, .int .i64 Y], .int .i64 0]) (by simp [results, Tryz.results34, go_sem, e0, e1]) rfl ⟨by rw [h1, h2, hX, hY]; rfl, hbe⟩
  go_region_held3 (fun W => (w.heap.size < w.heap.size + 3 ∧ w.heap.size + 1 < w.heap.size + 3 ∧ w.heap.size + 3 ≤ W.heap.size) ∧ W.cell? ⟨w.heap.size, 0, none⟩ = some (.int .i64 a) ∧ W.cell? ⟨w.heap.size, 1, none⟩ = some (.int .i64 b) ∧ W.cell? ⟨w.heap.size + 1, 0, none⟩ = some (.int .i64 c) ∧ W.cell? ⟨w.heap.size + 1, 1, none⟩ = some (.int .i64 d))
    (first | assumption | (repeat (first | exact hc | refine s4_drew ?_ | refine s4_alloc _ ?_ | refine s4_set (by first | omega | (simp; omega)) ?_)))
    (first
      | (go_at_call 38; have _t := T1; refine (R2 _).mono ?_; rintro _ _ ⟨rfl, rfl⟩)
      | (go_at_call 38; refine (R1 _).mono ?_; rintro _ _ ⟨rfl, rfl⟩; have T1 : True := trivial))
  all_goals
    refine H _ _ _ ?_ ?_ hl6_b
    all_goals first
      | exact hl6_0 hs rfl
      | exact hl6_1 hs rfl
      | exact hl6_2 hs rfl
      | exact hl6_3 hs rfl
      | exact hl6_4 hs rfl
      | exact hl6_5 hs rfl
end Go.Proofs.YtmpioejllfedoaaGreatDoor

/-
  Package span: Join; plumblaw8's alive: it answers true.
-/
namespace Go.Proofs.YtmpioejllfedoaaGreatDoor
open Go Go.RowKit Go.Proofs.YtmpioejllfedoaaGreatDoor.M
set_option linter.unusedSimpArgs false
set_option linter.unusedVariables false

set_option maxRecDepth 100000 in
theorem besideZ (x : Nat) (w : World) :
    Calls Tryz.prog 81 #[.float .f64 x, .float .f64 0] w fun e w' => e = .returned (.agg #[.float .f64 x, .float .f64 x]) ∧ w' = w.alloc (.cells #[.float .f64 x, .float .f64 x] 61) := by
  have hst : ∀ (p : Addr) (n : Nat) (m : Mode) (w : World), (store p (.float .f64 n) m).run Tryz.prog w = stored Tryz.prog w p (.float .f64 n) m := fun p n m w => run_store _ w p _ m rfl
  have o : FloatKind.f64.format.order 0 0 = some .eq := by decide +kernel
  have hg : (w.alloc (.cells #[.float .f64 x, .float .f64 x] 61)).heap[w.heap.size]? = some (.cells #[.float .f64 x, .float .f64 x] 61 (0, 0)) := hl_last _ _ rfl
  have e0 := blkC hg 0 rfl
  have e1 := blkC hg 1 rfl
  go_enter Tryz.func81, Tryz.ntmps81
  go_wp2
  refine bodyPost_ret (v := .agg #[.float .f64 x, .float .f64 x]) (by simp [results, Tryz.results81, go_sem, e0, e1]) rfl ⟨rfl, rfl⟩
end Go.Proofs.YtmpioejllfedoaaGreatDoor
