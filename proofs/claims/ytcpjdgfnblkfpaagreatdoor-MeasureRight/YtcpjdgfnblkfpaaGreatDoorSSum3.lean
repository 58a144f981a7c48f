/-
  Package span: sum: what it tells of finite ends: the exact sum lies between, with nothing between but it. Plain mathematics.
-/
import Derived.Test.YtcpjdgfnblkfpaaGreatDoorSSum2
import Derived.Test.YtcpjdgfnblkfpaaGreatDoorELaw
namespace Go.Proofs.YtcpjdgfnblkfpaaGreatDoor
open Go Go.RowKit Go.Proofs.YtcpjdgfnblkfpaaGreatDoor.M
set_option linter.unusedSimpArgs false
set_option linter.unusedVariables false

theorem rg_iV {p q : Int} (h : rg p ≤ rg q) (hp : 0 ≤ rg p) : (iV p).natAbs ≤ (iV q).natAbs := by
  have a := iV_abs p
  have b := iV_abs q
  have c := V_le (show (rg p).toNat ≤ (rg q).toNat by omega)
  omega
theorem su_exact {p q : Int} (hp : rng p) (hq : rng q) (pp : pok p = true) (pq : pok q = true) (hf : pok (suN p q) = true) : pok (suL p q) = true ∧ iV (suN p q) + iV (suL p q) = iV p + iV q := by
  by_cases h : rg p < rg q
  · have ex : hiM p q = q := if_pos h
    have ey : loM p q = p := if_pos h
    unfold suL suN at *
    rw [ex, ey] at hf ⊢
    obtain ⟨a, b⟩ := fL_fin hq hp pq pp hf (rg_iV (by omega) (q_rg hp).2)
    exact ⟨a, by unfold fL at b; omega⟩
  · have ex : hiM p q = p := if_neg h
    have ey : loM p q = q := if_neg h
    unfold suL suN at *
    rw [ex, ey] at hf ⊢
    obtain ⟨a, b⟩ := fL_fin hp hq pp pq hf (rg_iV (by omega) (q_rg hq).2)
    exact ⟨a, by unfold fL at b; omega⟩
theorem V_zero_iff {r : Nat} : (V Ieee.double r : Int) = 0 ↔ r = 0 := by
  constructor
  · intro h
    by_cases h0 : r = 0
    · exact h0
    · have := V_lt Ieee.double (show 0 < r by omega)
      rw [V_zero] at this
      omega
  · rintro rfl
    rw [V_zero]
    rfl
/-- the sign of a value -/
theorem iV_key {p : Int} (hp : rng p) : (iV p < 0 ↔ key p < 0) ∧ (0 < iV p ↔ 0 < key p) := by
  have hz := @V_zero_iff (rg p).toNat
  have hr := q_rg hp
  unfold rng at hp
  have hv : (0 : Int) ≤ (V Ieee.double (rg p).toNat : Int) := by omega
  by_cases h : p < 0
  · have e1 : iV p = -(V Ieee.double (rg p).toNat : Int) := by unfold iV sg; simp [h]
    have e2 : key p = -(rg p) := by unfold key rg; rw [if_pos h, if_pos h]
    rw [e1, e2]
    constructor <;> constructor <;> intro g <;> omega
  · have e1 : iV p = (V Ieee.double (rg p).toNat : Int) := by unfold iV sg; simp [h]
    have e2 : key p = rg p := by unfold key rg; rw [if_neg h, if_neg h]
    rw [e1, e2]
    constructor <;> constructor <;> intro g <;> omega
theorem iV_mono {p q : Int} (hp : rng p) (hq : rng q) (h : key p < key q) : iV p < iV q := by
  have rp := q_rg hp
  have rq := q_rg hq
  have ep : iV p = if p < 0 then -(V Ieee.double (rg p).toNat : Int) else (V Ieee.double (rg p).toNat : Int) := by unfold iV sg; by_cases g : p < 0 <;> simp [g]
  have eq' : iV q = if q < 0 then -(V Ieee.double (rg q).toNat : Int) else (V Ieee.double (rg q).toNat : Int) := by unfold iV sg; by_cases g : q < 0 <;> simp [g]
  have kp : key p = if p < 0 then -(rg p) else rg p := by unfold key rg; by_cases g : p < 0 <;> simp [g]
  have kq : key q = if q < 0 then -(rg q) else rg q := by unfold key rg; by_cases g : q < 0 <;> simp [g]
  have zp := @V_zero_iff (rg p).toNat
  have zq := @V_zero_iff (rg q).toNat
  have m1 : rg p < rg q → (V Ieee.double (rg p).toNat : Int) < V Ieee.double (rg q).toNat := fun g => by
    have := V_lt Ieee.double (show (rg p).toNat < (rg q).toNat by omega)
    omega
  have m2 : rg q < rg p → (V Ieee.double (rg q).toNat : Int) < V Ieee.double (rg p).toNat := fun g => by
    have := V_lt Ieee.double (show (rg q).toNat < (rg p).toNat by omega)
    omega
  rw [kp, kq] at h
  rw [ep, eq']
  have hA0 : (0 : Int) ≤ (V Ieee.double (rg p).toNat : Int) := by omega
  have hB0 : (0 : Int) ≤ (V Ieee.double (rg q).toNat : Int) := by omega
  clear ep eq' kp kq
  generalize (V Ieee.double (rg p).toNat : Int) = A at *
  generalize (V Ieee.double (rg q).toNat : Int) = B at *
  by_cases a : p < 0 <;> by_cases b : q < 0 <;> simp only [a, b, if_true, if_false] at h ⊢ <;> omega
/-- below the nearest float: the one before it is not above the exact number -/
theorem nr_prev {n S : Int} (hn : nn n) (hi : ¬ n = -4503599627370496) (hp : rng (prev n)) (h : Nr S (iV n)) (g : S < iV n) : iV (prev n) ≤ S := by
  obtain ⟨k1, _⟩ := key_prev hn.1 hn.2 hi
  have m := iV_mono hp hn.1 (by omega)
  have := h.2 (iV (prev n)) (fl_iV _)
  omega
theorem nr_next {n S : Int} (hn : nn n) (hi : ¬ n = 9218868437227405312) (hp : rng (next n)) (h : Nr S (iV n)) (g : iV n < S) : S ≤ iV (next n) := by
  obtain ⟨k1, _, _, _⟩ := key_next hn.1 hn.2 hi
  have m := iV_mono hn.1 hp (by omega)
  have := h.2 (iV (next n)) (fl_iV _)
  omega
theorem rng_prev' {p : Int} (h : rng p) : rng (prev p) := by unfold prev; exact rng_neg (rng_next (rng_neg h))
/-- What sum tells of finite ends whose sum is finite: the exact sum lies between; it is both ends, or they are neighbours and it lies above the lower and below the upper one, or on one that is not the nearest. -/
theorem su_btw {p q : Int} (hp : rng p) (hq : rng q) (pp : pok p = true) (pq : pok q = true) (hf : pok (suN p q) = true) (hn : nn (suN p q)) :
    iV (beLo (suN p q) (suL p q)) ≤ iV p + iV q ∧ iV p + iV q ≤ iV (beHi (suN p q) (suL p q)) ∧ ((iV (suN p q) = iV p + iV q ∧ beLo (suN p q) (suL p q) = suN p q ∧ beHi (suN p q) (suL p q) = suN p q) ∨ (iV p + iV q < iV (suN p q) ∧ beLo (suN p q) (suL p q) = prev (suN p q) ∧ beHi (suN p q) (suL p q) = suN p q) ∨ (iV (suN p q) < iV p + iV q ∧ beLo (suN p q) (suL p q) = suN p q ∧ beHi (suN p q) (suL p q) = next (suN p q))) := by
  obtain ⟨pl, he⟩ := su_exact hp hq pp pq hf
  have hNr : Nr (iV p + iV q) (iV (suN p q)) := by
    by_cases h : rg p < rg q
    · have ex : hiM p q = q := if_pos h
      have ey : loM p q = p := if_pos h
      unfold suN at hf ⊢
      rw [ex, ey] at hf ⊢
      have := (stp_sum hq hp pq pp).nr hf
      rwa [Int.add_comm] at this
    · have ex : hiM p q = p := if_neg h
      have ey : loM p q = q := if_neg h
      unfold suN at hf ⊢
      rw [ex, ey] at hf ⊢
      exact (stp_sum hp hq pp pq).nr hf
  have i1 : ¬ suN p q = -4503599627370496 := fun e => by rw [e] at hf; revert hf; decide
  have i2 : ¬ suN p q = 9218868437227405312 := fun e => by rw [e] at hf; revert hf; decide
  have rl : rng (suL p q) := by
    unfold suL
    have a1 : rng (hiM p q) := by unfold hiM; split <;> assumption
    have a2 : rng (loM p q) := by unfold loM; split <;> assumption
    exact fsum_rng a2 (rng_neg (fsum_rng hn.1 (rng_neg a1)))
  obtain ⟨kl1, kl2⟩ := iV_key rl
  have c0 : ¬ cls 0 = 4 := by decide
  have k0 : key 0 = 0 := by decide
  have cl := q_fin pl
  have l1 : less (suL p q) 0 = decide (key (suL p q) < 0) := by unfold less; simp [cl, c0, k0]
  have l2 : less 0 (suL p q) = decide (0 < key (suL p q)) := by unfold less; simp [cl, c0, k0]
  unfold beLo beHi
  rw [l1, l2]
  generalize suN p q = n at *
  generalize suL p q = l at *
  by_cases a : key l < 0
  · have al : iV l < 0 := kl1.2 a
    simp only [a, decide_true, if_true]
    exact ⟨nr_prev hn i1 (rng_prev' hn.1) hNr (by omega), by omega, .inr (.inl ⟨by omega, by trivial, by trivial⟩)⟩
  · by_cases b : 0 < key l
    · have bl : 0 < iV l := kl2.2 b
      simp only [a, b, decide_true, decide_false, if_true, if_false, Bool.false_eq_true]
      exact ⟨by omega, nr_next hn i2 (rng_next hn.1) hNr (by omega), .inr (.inr ⟨by omega, by trivial, by trivial⟩)⟩
    · have z1 : ¬ iV l < 0 := fun h => a (kl1.1 h)
      have z2 : ¬ 0 < iV l := fun h => b (kl2.1 h)
      simp only [a, b, decide_false, if_false, Bool.false_eq_true]
      exact ⟨by omega, by omega, .inl ⟨by omega, by trivial, by trivial⟩⟩
end Go.Proofs.YtcpjdgfnblkfpaaGreatDoor
