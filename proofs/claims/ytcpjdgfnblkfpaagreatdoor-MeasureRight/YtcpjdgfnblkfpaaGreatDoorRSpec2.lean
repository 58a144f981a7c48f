/-
  Plain mathematics: what To answers, by rungs.
-/
import Derived.Test.YtcpjdgfnblkfpaaGreatDoorRSpec
import Derived.Test.YtcpjdgfnblkfpaaGreatDoorRTo
namespace Go.Proofs.YtcpjdgfnblkfpaaGreatDoor
open Go Go.RowKit Go.Proofs.YtcpjdgfnblkfpaaGreatDoor.M
set_option linter.unusedSimpArgs false
set_option linter.unusedVariables false

theorem held_cut {M e : Int} (h : 0 ≤ M) (he : -4194304 ≤ e) (k : Nat) : Held (M * pw e) (M / 2 ^ k).toNat (e + k) (decide (M % 2 ^ k ≠ 0)) := by
  have hp := two_pos k
  have hq := pw_pos e
  have h0 : 0 ≤ M / 2 ^ k := Int.ediv_nonneg h (by omega)
  have hm0 := Int.emod_nonneg M (show (2 : Int) ^ k ≠ 0 by omega)
  have hm1 := Int.emod_lt_of_pos M hp
  have hd := Int.mul_ediv_add_emod M (2 ^ k)
  unfold Held
  rw [Int.toNat_of_nonneg h0, pw_add he]
  generalize M / 2 ^ k = Q at *
  generalize M % 2 ^ k = T at *
  generalize pw e = q at *
  generalize (2 : Int) ^ k = D at *
  have e1 : Q * (q * D) = (D * Q) * q := by rw [Int.mul_comm q D, ← Int.mul_assoc, Int.mul_comm Q D]
  have e2 : (Q + 1) * (q * D) = (D * Q) * q + D * q := by rw [Int.add_mul, e1, Int.one_mul, Int.mul_comm q D]
  have e3 : M * q = (D * Q) * q + T * q := by rw [← hd, Int.add_mul]
  rw [e2, e1, e3]
  have t0 : 0 ≤ T * q := Int.mul_nonneg hm0 (by omega)
  have t1 : T * q < D * q := Int.mul_lt_mul_of_pos_right hm1 hq
  refine ⟨by omega, by omega, ?_⟩
  rw [decide_eq_false_iff_not]
  constructor
  · intro h
    have : T = 0 := by omega
    rw [this]; simp
  · intro h hT
    have : 0 < T * q := Int.mul_pos (by omega) hq
    omega
/-- What To answers at a number that is not 0. -/
theorem to_rung {way : Int} {x : NumR} (ok : okR x = true) (h0 : 0 < x.n) :
    ∃ (r0 : Nat) (left : Int), Rung (val x.d x.n * pw x.e) r0 left ∧ r64 way x.ng false (val x.d x.n / 2 ^ vK (val x.d x.n)).toNat (x.e + vK (val x.d x.n)) (decide (val x.d x.n % 2 ^ vK (val x.d x.n) ≠ 0)) = (patS (x.ng && (decide (0 < rTo way x.ng r0 left) || false)) (rTo way x.ng r0 left), decide (left ≠ 0) || decide (9218868437227405312 ≤ (r0 : Int))) := by
  obtain ⟨na, hn, he0, he1⟩ := okR_sane ok
  have hv := val_pos na h0
  have hsm := vK_small (Int.le_of_lt hv)
  have hb := blen_pos hv
  have hp := two_pos (vK (val x.d x.n))
  have hge : 2 ^ (blen (val x.d x.n) - 1 - vK (val x.d x.n)) ≤ val x.d x.n / 2 ^ vK (val x.d x.n) := by
    rw [Int.le_ediv_iff_mul_le hp, ← Int.pow_add]
    by_cases hk : vK (val x.d x.n) ≤ blen (val x.d x.n) - 1
    · rw [show blen (val x.d x.n) - 1 - vK (val x.d x.n) + vK (val x.d x.n) = blen (val x.d x.n) - 1 by omega]
      exact hb.2
    · exfalso; unfold vK at hk; omega
  have hpos := two_pos (blen (val x.d x.n) - 1 - vK (val x.d x.n))
  have e64 : (2 : Nat) ^ 64 = 18446744073709551616 := by decide
  have e60 : (2 : Nat) ^ 60 = 1152921504606846976 := by decide
  refine r64_spec (held_cut (Int.le_of_lt hv) (by omega) _) (by omega) (by omega) (by omega) (fun hc => ?_)
  have hk0 : 0 < vK (val x.d x.n) := by
    rcases Nat.eq_zero_or_pos (vK (val x.d x.n)) with h | h
    · rw [h, Int.pow_zero, Int.emod_one] at hc; simp at hc
    · exact h
  have h61 : blen (val x.d x.n) - 1 - vK (val x.d x.n) = 61 := by unfold vK at hk0 ⊢; omega
  rw [h61] at hge
  have e61 : (2 : Int) ^ 61 = 2305843009213693952 := by decide
  rw [e61] at hge
  omega
end Go.Proofs.YtcpjdgfnblkfpaaGreatDoor
