/-
  Patterns and whole numbers: a finite float in units of the least one; the float that a sum, a product is rounded to is a nearest one.
-/
import Derived.Test.YtcpjdgfnblkfpaaGreatDoorRFw4
import Derived.Test.YtcpjdgfnblkfpaaGreatDoorEMat3
namespace Go.Proofs.YtcpjdgfnblkfpaaGreatDoor
open Go Go.RowKit Go.Proofs.YtcpjdgfnblkfpaaGreatDoor.M Ieee
set_option linter.unusedSimpArgs false
set_option linter.unusedVariables false

/-- A finite float in units of the least one. -/
def iV (p : Int) : Int := sg (decide (p < 0)) (V Ieee.double (rg p).toNat : Int)
theorem patV_iV {p : Int} (hp : rng p) (h : pok p = true) : patV p = iV p * pw (-1074) := by
  rw [patV_dec hp h]; unfold iV vS; rw [sg_prod]
theorem nat_two (n k : Nat) : ((n * 2 ^ k : Nat) : Int) = 2 ^ k * (n : Int) := by rw [Int.natCast_mul, Int.mul_comm]; simp
theorem k_ne {S q : Int} (hq : 0 < q) (h : S ≠ 0) : S * q ≠ 0 := fun c => by
  rcases Int.mul_eq_zero.1 c with d | d <;> omega
theorem k_neg {S q : Int} (hq : 0 < q) : decide (S * q < 0) = decide (S < 0) := by
  congr 1
  exact propext (lt_zero_iff hq).symm
theorem k_abs {S q A : Int} (hq : 0 < q) (h : S * q = sg (decide (S < 0)) A) : A = (S.natAbs : Int) * q := by
  have := natAbs_sg (t := S) hq
  rw [this] at h
  exact (sg_inj h).symm
theorem k_back {S h : Int} (n : Nr (S.natAbs : Int) h) : Nr S (sg (decide (S < 0)) h) := by
  by_cases c : S < 0
  · rw [decide_eq_true c]
    have n2 := n.neg
    have e : -(S.natAbs : Int) = S := by omega
    rw [e] at n2
    exact n2
  · rw [decide_eq_false c]
    have e : (S.natAbs : Int) = S := by omega
    rw [e] at n
    exact n
theorem fl_V (r : Nat) : Fl (V Ieee.double r : Int) := by
  unfold V
  rw [dBin]
  by_cases h : r < 4503599627370496
  · rw [if_pos h]
    exact ⟨0, ⟨r, by simp⟩, by simp; omega⟩
  · rw [if_neg h]
    have hm := Nat.mod_lt r (show 0 < 4503599627370496 by decide)
    obtain ⟨n, hn⟩ : ∃ n, 4503599627370496 + r % 4503599627370496 = n := ⟨_, rfl⟩
    rw [hn]
    refine ⟨r / 4503599627370496 - 1, ⟨n, nat_two _ _⟩, ?_⟩
    rw [Int.natAbs_natCast, nat_two, Int.mul_comm]
    exact Int.mul_lt_mul_of_pos_right (by omega) (p2 _)
theorem V_fl {f : Int} (h : Fl f) : ∃ r : Nat, (f.natAbs : Int) = (V Ieee.double r : Int) := by
  obtain ⟨k, b, c⟩ := binade (f.natAbs : Int) (by omega)
  rcases Nat.eq_zero_or_pos k with g | g
  · subst g
    have := V_parts Ieee.double 0 f.natAbs (.inl ⟨rfl, by rw [dBin]; simp at b; omega⟩)
    exact ⟨_, by rw [this]; simp⟩
  · have c2 : 4503599627370496 * 2 ^ k ≤ (f.natAbs : Int) := by
      rcases c with c | c
      · omega
      · exact c
    obtain ⟨t, ht⟩ := fl_units h c2
    have e : (f.natAbs : Int) = 2 ^ k * (t.natAbs : Int) := by rw [ht, natAbs_p2]
    rw [e] at b c2
    have hk := p2 k
    have b2 : (t.natAbs : Int) < 9007199254740992 := Int.lt_of_mul_lt_mul_left (by rw [Int.mul_comm (2 ^ k) 9007199254740992]; exact b) (Int.le_of_lt hk)
    have c3 : 4503599627370496 ≤ (t.natAbs : Int) := Int.le_of_mul_le_mul_left (by rw [Int.mul_comm (2 ^ k) 4503599627370496]; exact c2) hk
    have := V_parts Ieee.double k t.natAbs (.inr ⟨by rw [dBin]; omega, by rw [dBin]; omega⟩)
    exact ⟨_, by rw [this, e]; push_cast; rw [Int.mul_comm]⟩
theorem V_le {r s : Nat} (h : r ≤ s) : (V Ieee.double r : Int) ≤ V Ieee.double s := by
  rcases Nat.lt_or_eq_of_le h with g | g
  · have := V_lt Ieee.double g; omega
  · rw [g]; omega
/-- The rung of the nearest is a nearest float. -/
theorem nr_V {S : Int} {ng : Bool} {r0 : Nat} {left : Int} (h0 : 0 ≤ S) (hR : Rung (S * pw (-1074)) r0 left) (hf : rTo 0 ng r0 left < 9218868437227405312) : Nr S (V Ieee.double (rTo 0 ng r0 left).toNat : Int) := by
  obtain ⟨lo, hi, l0, l1, l2, l3⟩ := hR
  have hq := pw_pos (-1074)
  unfold vS at *
  generalize pw (-1074) = q at *
  have g1 : (V Ieee.double r0 : Int) ≤ S := Int.le_of_mul_le_mul_right lo hq
  have g2 : S < (V Ieee.double (r0 + 1) : Int) := Int.lt_of_mul_lt_mul_right hi (Int.le_of_lt hq)
  have g3 : left = 2 → 2 * S = (V Ieee.double r0 : Int) + V Ieee.double (r0 + 1) := fun c => by
    have := l2.1 c
    rw [← Int.add_mul, ← Int.mul_assoc] at this
    exact Int.eq_of_mul_eq_mul_right (by omega) this
  have g4 : left = 3 → (V Ieee.double r0 : Int) + V Ieee.double (r0 + 1) < 2 * S := fun c => by
    have := l3.1 c
    rw [← Int.add_mul, ← Int.mul_assoc] at this
    exact Int.lt_of_mul_lt_mul_right this (Int.le_of_lt hq)
  have g5 : left ≠ 3 → 2 * S ≤ (V Ieee.double r0 : Int) + V Ieee.double (r0 + 1) := fun c => by
    rcases Int.lt_or_le ((V Ieee.double r0 : Int) + V Ieee.double (r0 + 1)) (2 * S) with d | d
    · have := Int.mul_lt_mul_of_pos_right d hq
      rw [Int.add_mul, Int.mul_assoc] at this
      exact absurd (l3.2 this) c
    · exact d
  clear l0 l1 l2 l3 lo hi
  have far : ∀ f : Int, Fl f → f ≤ V Ieee.double r0 ∨ V Ieee.double (r0 + 1) ≤ f := by
    intro f hf
    obtain ⟨s, hs⟩ := V_fl hf
    rcases Nat.lt_or_ge r0 s with c | c
    · have := V_le (show r0 + 1 ≤ s from c)
      have := V_le (show 0 ≤ r0 by omega)
      omega
    · have := V_le c
      omega
  unfold rTo at hf ⊢
  by_cases hr : (r0 : Int) < 9218868437227405312
  · rw [if_pos hr] at hf ⊢
    cases hu : rUp 0 ng (decide (r0 % 2 = 1)) left
    · rw [if_neg (by decide)]
      have e : ((r0 : Int) + 0).toNat = r0 := by omega
      rw [e]
      have hl : left ≠ 3 := fun c => by
        subst c
        unfold rUp at hu
        simp at hu
      refine ⟨fl_V r0, fun f hf => ?_⟩
      have := far f hf
      have := g5 hl
      omega
    · rw [if_pos rfl]
      have e : ((r0 : Int) + 1).toNat = r0 + 1 := by omega
      rw [e]
      have hl : left = 3 ∨ left = 2 := by
        unfold rUp at hu
        simp at hu
        rcases hu with c | c
        · exact .inl c
        · exact .inr c.1
      refine ⟨fl_V (r0 + 1), fun f hf => ?_⟩
      have := far f hf
      rcases hl with c | c
      · have := g4 c; omega
      · have := g3 c; omega
  · rw [if_neg hr] at hf
    unfold bRung rUp at hf
    simp at hf
/-- The greatest finite float. -/
def maxV : Int := (V Ieee.double 9218868437227405311 : Int)
theorem fin_V {S : Int} {ng : Bool} {r0 : Nat} {left : Int} (h0 : S ≤ maxV) (hR : Rung (S * pw (-1074)) r0 left) : rTo 0 ng r0 left < 9218868437227405312 := by
  obtain ⟨lo, hi, l0, l1, l2, l3⟩ := hR
  have hq := pw_pos (-1074)
  unfold vS at *
  generalize pw (-1074) = q at *
  have g1 : (V Ieee.double r0 : Int) ≤ S := Int.le_of_mul_le_mul_right lo hq
  have hr : r0 ≤ 9218868437227405311 := by
    rcases Nat.lt_or_ge 9218868437227405311 r0 with c | c
    · have := V_lt Ieee.double c
      unfold maxV at h0
      omega
    · exact c
  unfold rTo
  rw [if_pos (by omega)]
  by_cases c : r0 = 9218868437227405311
  · have e : S = (V Ieee.double r0 : Int) := by rw [c] at g1 ⊢; unfold maxV at h0; omega
    have : left = 0 := l0.2 (by rw [e])
    subst this
    rw [if_neg (fun c => rUp_left c)]
    omega
  · split <;> omega
theorem patS_parts {ng : Bool} {r : Int} (h0 : 0 ≤ r) (h1 : r ≤ 9218868437227405312) : rng (patS ng r) ∧ rg (patS ng r) = r ∧ decide (patS ng r < 0) = ng := by
  unfold patS rng rg
  cases ng
  · simp only [Bool.false_eq_true, if_false]
    rw [if_neg (by omega)]
    exact ⟨by omega, rfl, decide_eq_false (by omega)⟩
  · simp only [if_true]
    rw [if_pos (by omega)]
    exact ⟨by omega, by omega, decide_eq_true (by omega)⟩
theorem patS_fin {ng : Bool} {r : Int} (h0 : 0 ≤ r) (h1 : r ≤ 9218868437227405312) : pok (patS ng r) = decide (r < 9218868437227405312) := by
  obtain ⟨a, b, _⟩ := patS_parts (ng := ng) h0 h1
  have := pok_rg a
  rw [b] at this
  cases h : pok (patS ng r)
  · refine (decide_eq_false fun c => ?_).symm
    rw [this.2 c] at h; cases h
  · exact (decide_eq_true (this.1 h)).symm
theorem iV_patS {ng : Bool} {r : Int} (h0 : 0 ≤ r) (h1 : r ≤ 9218868437227405312) : iV (patS ng r) = sg ng (V Ieee.double r.toNat : Int) := by
  obtain ⟨_, b, c⟩ := patS_parts (ng := ng) h0 h1
  unfold iV
  rw [b, c]
theorem nr_zero : Nr 0 0 := ⟨fl_zero, fun f _ => by omega⟩
/-- The nearest pattern to a whole number of units. -/
theorem near_iV {S : Int} (h : S ≠ 0) : rng (nearP (S * pw (-1074))) ∧ (pok (nearP (S * pw (-1074))) = true → Nr S (iV (nearP (S * pw (-1074))))) ∧ ((S.natAbs : Int) ≤ maxV → pok (nearP (S * pw (-1074))) = true) := by
  have hq := pw_pos (-1074)
  obtain ⟨A, r0, left, e1, hR, e2⟩ := nearP_rung (k_ne hq h)
  rw [k_neg hq] at e1 e2
  have hA := k_abs hq e1
  rw [hA] at hR
  have hrr := rTo_range 0 (decide (S < 0)) r0 left
  rw [e2]
  refine ⟨(patS_parts hrr.1 hrr.2).1, fun hp => ?_, fun hb => ?_⟩
  · rw [patS_fin hrr.1 hrr.2] at hp
    have n := nr_V (ng := decide (S < 0)) (Int.natCast_nonneg _) hR (of_decide_eq_true hp)
    rw [iV_patS hrr.1 hrr.2]
    exact k_back n
  · rw [patS_fin hrr.1 hrr.2]
    exact decide_eq_true (fin_V hb hR)
end Go.Proofs.YtcpjdgfnblkfpaaGreatDoor
