/-
  Plain mathematics: what Root answers, by the root's rung. No Go text in sight.
-/
import Derived.Test.YtcpjdgfnblkfpaaGreatDoorRRt
namespace Go.Proofs.YtcpjdgfnblkfpaaGreatDoor
open Go Go.RowKit Go.Proofs.YtcpjdgfnblkfpaaGreatDoor.M
set_option linter.unusedSimpArgs false
set_option linter.unusedVariables false

theorem isRoot_ex (n : Nat) : ∃ s : Int, IsRoot (n : Int) s := by
  induction n with
  | zero => exact ⟨0, by decide, by decide, by decide⟩
  | succ n ih =>
    obtain ⟨s, h0, h1, h2⟩ := ih
    by_cases h : ((n + 1 : Nat) : Int) < (s + 1) * (s + 1)
    · exact ⟨s, h0, by omega, h⟩
    · refine ⟨s + 1, by omega, by omega, ?_⟩
      have e : (s + 1 + 1) * (s + 1 + 1) = (s + 1) * (s + 1) + (s + 1) + (s + 1) + 1 := by
        rw [Int.mul_add (s + 1 + 1), Int.add_mul (s + 1) 1, Int.mul_one, Int.one_mul]; omega
      omega
theorem isRoot_unique {A s t : Int} (h : IsRoot A s) (g : IsRoot A t) : s = t := by
  obtain ⟨a0, a1, a2⟩ := h
  obtain ⟨b0, b1, b2⟩ := g
  rcases Int.lt_trichotomy s t with q | q | q
  · have := sq_le (show 0 ≤ s + 1 by omega) (show s + 1 ≤ t by omega); omega
  · exact q
  · have := sq_le (show 0 ≤ t + 1 by omega) (show t + 1 ≤ s by omega); omega
theorem tK_in {M e : Int} : 122 < tK M e + (blen M : Int) ∧ tK M e + (blen M : Int) ≤ 124 ∧ (e - tK M e) % 2 = 0 := by
  unfold tK
  omega
theorem scV_low {M k : Int} (hM : 0 < M) {n : Nat} (h : (n : Int) < k + (blen M : Int)) : 2 ^ n ≤ scV M k := by
  have b1 := blen_pos hM
  unfold scV
  by_cases hk : 0 ≤ k
  · rw [if_pos hk]
    have e : (2 : Int) ^ (blen M - 1) * 2 ^ k.toNat ≤ M * 2 ^ k.toNat := Int.mul_le_mul_of_nonneg_right b1.2 (Int.le_of_lt (two_pos _))
    refine Int.le_trans ?_ e
    rw [← Int.pow_add]
    exact two_le (by omega)
  · rw [if_neg hk, Int.le_ediv_iff_mul_le (two_pos _), ← Int.pow_add]
    exact Int.le_trans (two_le (by omega)) b1.2
theorem scV_high {M k : Int} (hM : 0 ≤ M) {n : Nat} (h : k + (blen M : Int) ≤ (n : Int)) : 0 ≤ scV M k ∧ scV M k < 2 ^ n := by
  have b1 := blen_lt M
  unfold scV
  by_cases hk : 0 ≤ k
  · rw [if_pos hk]
    have hp := two_pos k.toNat
    refine ⟨Int.mul_nonneg hM (Int.le_of_lt hp), ?_⟩
    have e : M * 2 ^ k.toNat < 2 ^ blen M * 2 ^ k.toNat := Int.mul_lt_mul_of_pos_right b1 hp
    rw [← Int.pow_add] at e
    exact Int.lt_of_lt_of_le e (two_le (by omega))
  · rw [if_neg hk]
    have hp := two_pos (-k).toNat
    refine ⟨Int.ediv_nonneg hM (Int.le_of_lt hp), ?_⟩
    rw [Int.ediv_lt_iff_lt_mul hp, ← Int.pow_add]
    exact Int.lt_of_lt_of_le b1 (two_le (by omega))
theorem root_small {N s : Int} (h : IsRoot N s) (hN : N < 2 ^ 124) : s < 4611686018427387904 := by
  obtain ⟨a0, a1, a2⟩ := h
  rcases Int.lt_or_le s 4611686018427387904 with q | q
  · exact q
  · have := sq_le (by decide) q
    have e : (2 : Int) ^ 124 = 4611686018427387904 * 4611686018427387904 := by decide
    omega
theorem root_big {N s : Int} (h : IsRoot N s) (hN : 2 ^ 122 ≤ N) : 2305843009213693952 ≤ s := by
  obtain ⟨a0, a1, a2⟩ := h
  rcases Int.lt_or_le s 2305843009213693952 with q | q
  · have := sq_le (show 0 ≤ s + 1 by omega) (show s + 1 ≤ 2305843009213693952 by omega)
    have e : (2 : Int) ^ 122 = 2305843009213693952 * 2305843009213693952 := by decide
    omega
  · exact q
theorem sq_prod (s p : Int) : s * p * (s * p) = s * s * (p * p) := by
  rw [Int.mul_assoc, Int.mul_comm p (s * p), Int.mul_assoc s p p, ← Int.mul_assoc]
theorem held_root {M e s : Int} (hM : 0 ≤ M) (a0 : -1100000 ≤ e) (a1 : e ≤ 1100000) (lM : blen M ≤ 150000) (hs : IsRoot (scV M (tK M e)) s) :
    s * pw ((e - tK M e) / 2) * (s * pw ((e - tK M e) / 2)) ≤ M * (pw e * pw 0) ∧ M * (pw e * pw 0) < (s + 1) * pw ((e - tK M e) / 2) * ((s + 1) * pw ((e - tK M e) / 2)) ∧ ((scC M (tK M e) || decide (scV M (tK M e) - s * s ≠ 0)) = false ↔ M * (pw e * pw 0) = s * pw ((e - tK M e) / 2) * (s * pw ((e - tK M e) / 2))) := by
  obtain ⟨k1, k2, k3⟩ := tK_in (M := M) (e := e)
  obtain ⟨k, hk⟩ : ∃ k, tK M e = k := ⟨_, rfl⟩
  rw [hk] at hs k1 k2 k3 ⊢
  obtain ⟨E, hE⟩ : ∃ E, (e - k) / 2 = E := ⟨_, rfl⟩
  have hEE : e + 0 = E + E + k := by omega
  rw [hE]
  obtain ⟨s0, s1, s2⟩ := hs
  rw [sq_prod, sq_prod]
  have hP : 0 < pw E * pw E := Int.mul_pos (pw_pos _) (pw_pos _)
  have hQ : 0 < pw e * pw 0 := Int.mul_pos (pw_pos _) (pw_pos _)
  by_cases h : 0 ≤ k
  · have hc : pw e * pw 0 = 2 ^ k.toNat * (pw E * pw E) := pw_cross (by omega) (by decide) (by omega) (by omega) (by omega)
    have hsv : scV M k = M * 2 ^ k.toNat := by unfold scV; rw [if_pos h]
    have hsc : scC M k = false := by unfold scC; rw [if_pos h]
    rw [hsc, Bool.false_or]
    obtain ⟨q1, q2, q3⟩ := root_sq1 hsv.symm s1 s2 hc hP
    exact ⟨q1, q2, by rw [← q3, decide_eq_false_iff_not]; constructor <;> intro h <;> omega⟩
  · have hc : pw E * pw E = 2 ^ (-k).toNat * (pw e * pw 0) := pw_cross (by omega) (by omega) (by omega) (by decide) (by omega)
    have hsv : scV M k = M / 2 ^ (-k).toNat := by unfold scV; rw [if_neg h]
    have hsc : scC M k = decide (M % 2 ^ (-k).toNat ≠ 0) := by unfold scC; rw [if_neg h]
    have hp := two_pos (-k).toNat
    have hdd := Int.mul_ediv_add_emod M (2 ^ (-k).toNat)
    have t0 := Int.emod_nonneg M (show (2 : Int) ^ (-k).toNat ≠ 0 by omega)
    have t1 := Int.emod_lt_of_pos M hp
    rw [← hsv] at hdd
    rw [hsc]
    obtain ⟨q1, q2, q3⟩ := root_sq2 hdd t0 t1 s1 s2 hc hQ
    refine ⟨q1, q2, ?_⟩
    rw [← q3, Bool.or_eq_false_iff, decide_eq_false_iff_not, decide_eq_false_iff_not]
    constructor <;> intro h <;> omega
/-- What Root answers at a number that is not below 0. -/
def tR64 (way : Int) (x : NumR) (s : Int) : Int × Bool := r64 way false false s.toNat ((x.e - tK (val x.d x.n) x.e) / 2) (scC (val x.d x.n) (tK (val x.d x.n) x.e) || decide (scV (val x.d x.n) (tK (val x.d x.n) x.e) - s * s ≠ 0))
theorem root_rung {way : Int} {x : NumR} {s : Int} (ok : okR x = true) (hs : IsRoot (scV (val x.d x.n) (tK (val x.d x.n) x.e)) s) :
    ∃ (r0 : Nat) (left : Int), RungR (val x.d x.n * (pw x.e * pw 0)) r0 left ∧ tR64 way x s = (patS false (rTo way false r0 left), decide (left ≠ 0) || decide (9218868437227405312 ≤ (r0 : Int))) := by
  obtain ⟨na, hn, ea0, ea1⟩ := okR_sane ok
  by_cases h0 : x.n = 0
  · have hv : val x.d x.n = 0 := by rw [h0]; rfl
    have hsv : scV 0 (tK 0 x.e) = 0 := by unfold scV; split <;> simp
    have hsc : scC 0 (tK 0 x.e) = false := by unfold scC; split <;> simp
    rw [hv, hsv] at hs
    have hs0 : s = 0 := isRoot_unique hs ⟨by decide, by decide, by decide⟩
    refine ⟨0, 0, ?_, ?_⟩
    · rw [hv, Int.zero_mul]
      have := rungR_sq 0
      rwa [vS_zero, Int.zero_mul] at this
    · unfold tR64
      rw [hv, hsv, hsc, hs0, rTo_zero]
      exact r64_zero _ _
  · have hM := val_pos na (by omega)
    have hl := blen_nrm na
    obtain ⟨k1, k2, k3⟩ := tK_in (M := val x.d x.n) (e := x.e)
    have hlow := scV_low hM (n := 122) (k := tK (val x.d x.n) x.e) (by omega)
    have hhigh := scV_high (Int.le_of_lt hM) (n := 124) (k := tK (val x.d x.n) x.e) (by omega)
    have hsm := root_small hs hhigh.2
    have hbg := root_big hs hlow
    obtain ⟨q1, q2, q3⟩ := held_root (Int.le_of_lt hM) ea0 ea1 (by omega) hs
    have e64 : (2 : Nat) ^ 64 = 18446744073709551616 := by decide
    have e60 : (2 : Nat) ^ 60 = 1152921504606846976 := by decide
    have hcast : ((s.toNat : Nat) : Int) = s := Int.toNat_of_nonneg hs.1
    obtain ⟨r0, left, hR, hE⟩ := r64_specS (way := way) (ng := false) (sd := false) (mag := s.toNat) (exp := (x.e - tK (val x.d x.n) x.e) / 2) (cut := scC (val x.d x.n) (tK (val x.d x.n) x.e) || decide (scV (val x.d x.n) (tK (val x.d x.n) x.e) - s * s ≠ 0)) (by omega) (by omega) (by omega) (fun _ => by omega)
    refine ⟨r0, left, ?_, ?_⟩
    · exact rung_root hR (by rw [hcast]; exact q1) (by rw [hcast]; exact q2) (by rw [hcast]; exact q3)
    · unfold tR64
      rw [hE, Bool.false_and]
end Go.Proofs.YtcpjdgfnblkfpaaGreatDoor
