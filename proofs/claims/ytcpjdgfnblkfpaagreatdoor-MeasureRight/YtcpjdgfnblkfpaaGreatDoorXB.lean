/-
  Two floats that overlap, stand the wrong way round, or of which one is a nought or none: no expansion.
-/
import Derived.Test.YtcpjdgfnblkfpaaGreatDoorXL
import Derived.Test.YtcpjdgfnblkfpaaGreatDoorLess
namespace Go.Proofs.YtcpjdgfnblkfpaaGreatDoor
open Go Go.RowKit Go.Proofs.YtcpjdgfnblkfpaaGreatDoor.M
set_option linter.unusedSimpArgs false
set_option linter.unusedVariables false

theorem cls_some {b : Int} (h : pok b = true) (hm : pmag b ≠ 0) : cls b = 1 ∨ cls b = 2 := by
  have hf : fld b ≠ 2047 := by simpa [pok] using h
  unfold pmag at hm
  unfold cls
  rw [if_neg hf] at hm ⊢
  by_cases h0 : fld b = 0
  · rw [if_pos h0] at hm ⊢
    rw [if_neg hm]
    exact .inl rfl
  · rw [if_neg h0]
    exact .inr rfl
theorem xabs_rg {b : Int} (hb : rng b) (h : pok b = true) : abs b = rg b := by
  unfold abs
  rw [if_neg (fin_cls hb h).1]
  rfl
theorem xabs_rng {a : Int} (ha : rng a) : rng (abs a) := by
  unfold rng at *
  unfold abs
  split
  · omega
  · split <;> omega
theorem xpair_less {a b : Int} (ha : rng a) (hb : rng b) (pa : pok a = true) (pb : pok b = true) (mb : pmag b ≠ 0) (h : pexp a + blen (pmag a) ≤ pexp b + jz (pmag b)) : less (abs a) (abs b) = true := by
  obtain ⟨i0, i1, i2, i3⟩ := pmag_in pa
  obtain ⟨j0, j1, j2, j3⟩ := pmag_in pb
  obtain ⟨m, hm, _, _⟩ := jz_spec (show 0 < pmag b by omega) (by omega)
  have o := abs_order ha hb pa pb
  have l := less_order (q_rg ha).1 (q_rg hb).1
  have o' : (FloatKind.f64.format.order (wd (rg a)) (wd (rg b)) == some .lt) = decide ((iV a).natAbs < (iV b).natAbs) := o
  rw [xabs_rg ha pa, xabs_rg hb pb, ← l, o']
  refine decide_eq_true ?_
  have e1 := iV_form ha pa
  have e2 := iV_form hb pb
  have hl := blen_lt (pmag a)
  have p1 := two_pos (pexp a + 1074).toNat
  have p2 := two_pos (pexp b + 1074).toNat
  have s1 : pmag a * 2 ^ (pexp a + 1074).toNat < 2 ^ blen (pmag a) * 2 ^ (pexp a + 1074).toNat := Int.mul_lt_mul_of_pos_right hl p1
  rw [← Int.pow_add] at s1
  have s2 : (2 : Int) ^ (blen (pmag a) + (pexp a + 1074).toNat) ≤ 2 ^ (jz (pmag b) + (pexp b + 1074).toNat) := two_le (by omega)
  have s3 : (2 : Int) ^ jz (pmag b) ≤ pmag b := by
    have p3 := two_pos (jz (pmag b))
    have h1 : (2 : Int) ^ jz (pmag b) * 1 ≤ 2 ^ jz (pmag b) * (2 * m + 1) := Int.mul_le_mul_of_nonneg_left (by omega) (by omega)
    rw [← hm] at h1
    omega
  have s4 : (2 : Int) ^ jz (pmag b) * 2 ^ (pexp b + 1074).toNat ≤ pmag b * 2 ^ (pexp b + 1074).toNat := Int.mul_le_mul_of_nonneg_right s3 (by omega)
  rw [← Int.pow_add] at s4
  omega
theorem xpair_ok {a b : Int} (ha : rng a) (hb : rng b) (h : xval (d2 a b) 2 = true) : (cls a = 1 ∨ cls a = 2) ∧ (cls b = 1 ∨ cls b = 2) ∧ less (abs a) (abs b) = true := by
  have f0 := xval_fin h 0 (by decide)
  have f1 := xval_fin h 1 (by decide)
  have e0 : d2 a b 0 = a := rfl
  have e1 : d2 a b 1 = b := rfl
  rw [e0] at f0
  rw [e1] at f1
  rw [xval_succ, xval_succ, Bool.and_eq_true, Bool.and_eq_true] at h
  obtain ⟨⟨_, h1⟩, h2⟩ := h
  unfold xok at h1 h2
  rw [e0] at h1
  rw [e1] at h2
  have e2 : xab (d2 a b) 1 = pexp a + blen (pmag a) := rfl
  rw [e2] at h2
  simp only [Bool.and_eq_true, Bool.not_eq_true', decide_eq_false_iff_not] at h1 h2
  exact ⟨cls_some f0 h1.1, cls_some f1 h2.1, xpair_less ha hb f0 f1 h2.1 (by omega)⟩
end Go.Proofs.YtcpjdgfnblkfpaaGreatDoor
