/-
  Plain mathematics: which numbers in their one form are floats. No Go text in sight.
-/
import Derived.Test.YtcpjdgfnblkfpaaGreatDoorMathV
import Derived.Test.YtcpjdgfnblkfpaaGreatDoorDLaw
namespace Go.Proofs.YtcpjdgfnblkfpaaGreatDoor
open Go Go.RowKit Go.Proofs.YtcpjdgfnblkfpaaGreatDoor.M
set_option linter.unusedSimpArgs false
set_option linter.unusedVariables false

theorem jz_low {M : Int} (h0 : 0 < M) (h : M < 9223372036854775808) {l : Nat} (hl : IsLow M l) : jz M = l ∧ jo M = M / 2 ^ l := by
  obtain ⟨m, e1, _, _⟩ := jz_spec h0 h
  have : IsLow M (jz M) := ⟨m, by rw [Int.mul_comm]; exact e1⟩
  have e := low_unique this hl
  exact ⟨e, by unfold jo; rw [e]⟩
theorem jz_odd {m : Int} (h0 : 0 < m) (h : m < 9223372036854775808) (ho : m % 2 = 1) : jz m = 0 ∧ jo m = m := by
  obtain ⟨a, b⟩ := jz_low h0 h (l := 0) ⟨m / 2, by rw [Int.pow_zero]; omega⟩
  exact ⟨a, by rw [b, Int.pow_zero, Int.ediv_one]⟩
/-- The odd form of a number joins as the number does. -/
theorem j_odd {M e : Int} {l : Nat} (ng : Bool) (h0 : 0 < M) (h : M < 9223372036854775808) (hl : IsLow M l) :
    jk 52 2047 (-1074) (M / 2 ^ l) (e + l) = jk 52 2047 (-1074) M e ∧ jp ng (M / 2 ^ l) (e + l) = jp ng M e := by
  obtain ⟨c1, c2, c3⟩ := isLow_odd hl h0
  have hle : M / 2 ^ l ≤ M := Int.ediv_le_self _ (by omega)
  obtain ⟨z1, o1⟩ := jz_low h0 h hl
  obtain ⟨z2, o2⟩ := jz_odd c1 (by omega) c2
  have ho : jo (M / 2 ^ l) = jo M := by rw [o2, o1]
  have hj : jl (M / 2 ^ l) = jl M := by unfold jl; rw [ho]
  have he : e + (l : Int) + ((jz (M / 2 ^ l) : Nat) : Int) = e + (jz M : Nat) := by rw [z2, z1]; simp
  have hsp : jsp 52 (M / 2 ^ l) = jsp 52 M := by unfold jsp; rw [hj]
  have hsh : jsh 52 (-1074) (M / 2 ^ l) (e + l) = jsh 52 (-1074) M e := by unfold jsh; rw [hsp, he]
  have hab : jab 52 (-1074) (M / 2 ^ l) (e + l) = jab 52 (-1074) M e := by unfold jab; rw [hsh, he]
  have hg : jgood 52 2047 (-1074) (M / 2 ^ l) (e + l) = jgood 52 2047 (-1074) M e := by unfold jgood; rw [hsp, he, hab]
  have hk : jk 52 2047 (-1074) (M / 2 ^ l) (e + l) = jk 52 2047 (-1074) M e := by
    unfold jk
    rw [if_neg (by omega), if_neg (by omega), if_neg (by omega), if_neg (by omega), hg]
  have hv : jv 52 2047 (-1074) (M / 2 ^ l) (e + l) = jv 52 2047 (-1074) M e := by
    unfold jv
    rw [if_neg (show ¬ M / 2 ^ l ≤ 0 by omega), if_neg (show ¬ M ≤ 0 by omega), hg, hab, hsh, ho]
  exact ⟨hk, by unfold jp; rw [hk, hv]⟩
/-- What has more bits than a float is none. -/
theorem j_long {m e : Int} (h0 : 0 < m) (h : m < 9223372036854775808) (ho : m % 2 = 1) (hb : 54 ≤ blen m) : jk 52 2047 (-1074) m e = false := by
  obtain ⟨z, o⟩ := jz_odd h0 h ho
  have hl : jl m = blen m := by unfold jl; rw [o]; exact bitLen_eq (by omega) (by omega)
  unfold jk
  rw [if_neg (by omega), if_neg (by omega)]
  unfold jgood jsp
  rw [hl, decide_eq_false (by omega), Bool.false_and]
/-- What lies below the least float is none. -/
theorem j_low {m e : Int} (h0 : 0 < m) (h : m < 9223372036854775808) (ho : m % 2 = 1) (he : e < -1074) : jk 52 2047 (-1074) m e = false := by
  obtain ⟨z, o⟩ := jz_odd h0 h ho
  unfold jk
  rw [if_neg (by omega), if_neg (by omega)]
  unfold jgood
  rw [z, decide_eq_false (p := -1074 ≤ e + ((0 : Nat) : Int)) (by omega), Bool.false_and, Bool.and_false]
/-- A finite pattern's number in its one form. -/
theorem float_form {b : Int} (hb : rng b) (hp : pok b = true) {ng : Bool} {m e : Int} (hy : Dy (sg (pneg b) (pmag b) * pw (pexp b)) ng m e) :
    blen m ≤ 63 ∧ m < 9007199254740992 ∧ -1074 ≤ e ∧ e ≤ 2000 ∧ jk 52 2047 (-1074) m e = true ∧ (jp ng m e = b ∨ (b = -9223372036854775808 ∧ jp ng m e = 0 ∧ m = 0)) ∧ (m = 0 → jp ng m e = 0) := by
  obtain ⟨i0, i1, i2, i3⟩ := pmag_in hp
  obtain ⟨j0, j1⟩ := join_parts hb hp
  have hle63 : ∀ x : Int, x < 9007199254740992 → blen x ≤ 63 := fun x hx => blen_le (by
    rw [show (2 : Int) ^ 63 = 9223372036854775808 by decide]; omega)
  by_cases h0 : pmag b = 0
  · rw [h0, sg_zero, Int.zero_mul] at hy
    obtain ⟨e1, e2, e3⟩ := hy.unique Dy.zero
    subst e1 e2 e3
    have z1 : jp false 0 0 = 0 := by decide
    have z2 : jk 52 2047 (-1074) 0 0 = true := by decide
    refine ⟨hle63 0 (by omega), by omega, by omega, by omega, z2, ?_, fun _ => z1⟩
    rw [h0] at j1
    have hv : jp (pneg b) 0 (pexp b) = if pneg b then -9223372036854775808 else 0 := by
      unfold jp jk jv
      cases pneg b <;> simp
    rw [hv] at j1
    cases hn : pneg b
    · rw [hn] at j1
      exact .inl (by rw [z1]; simpa using j1)
    · rw [hn] at j1
      exact .inr ⟨by simpa using j1.symm, z1, rfl⟩
  · have hM : 0 < pmag b := by omega
    obtain ⟨l, hl⟩ := isLow_ex hM
    obtain ⟨e1, e2, e3⟩ := hy.unique (Dy.of (pneg b) hl hM (show -4194304 ≤ pexp b by omega))
    obtain ⟨c1, c2, c3⟩ := isLow_odd hl hM
    have hle : pmag b / 2 ^ l ≤ pmag b := Int.ediv_le_self _ (by omega)
    have hl54 : l < 54 := by
      have h3 : (1 : Int) * 2 ^ l ≤ pmag b / 2 ^ l * 2 ^ l := Int.mul_le_mul_of_nonneg_right (by omega) (Int.le_of_lt (two_pos l))
      rw [c3] at h3
      refine two_lt_iff ?_
      rw [show (2 : Int) ^ 54 = 18014398509481984 by decide]
      omega
    obtain ⟨k1, k2⟩ := j_odd (e := pexp b) (pneg b) hM (by omega) hl
    subst e1 e2 e3
    exact ⟨hle63 _ (by omega), by omega, by omega, by omega, by rw [k1]; exact j0, .inl (by rw [k2]; exact j1), fun hz => by omega⟩
/-- A float and a bit far below it. -/
theorem tiny_form {A : Int} {ng : Bool} {m e : Int} (hy : Dy A ng m e) (h0 : 0 < m) (h1 : m < 9007199254740992) (he : -1074 ≤ e) (he2 : e ≤ 2000) :
    ∃ m', Dy (A + pw (e - 60)) ng m' (e - 60) ∧ (blen m' ≤ 63 → jk 52 2047 (-1074) m' (e - 60) = false) ∧ Dok (A + pw (e - 60)) := by
  have ep : pw e = pw (e - 60) * 1152921504606846976 := by
    have := pw_add (e := e - 60) (by omega) 60
    rw [show e - 60 + ((60 : Nat) : Int) = e by omega, show (2 : Int) ^ 60 = 1152921504606846976 by decide] at this
    exact this
  have key : ∀ m' : Int, m' = m * 1152921504606846976 + (if ng then -1 else 1) → Dy (A + pw (e - 60)) ng m' (e - 60) := fun m' hm' => by
    refine ⟨?_, by omega, .inr ?_⟩
    · rw [hy.val, ep, hm', sg_sgn, sg_sgn]
      cases ng <;> simp <;> grind
    · rw [hm']
      cases ng <;> simp <;> omega
  refine ⟨_, key _ rfl, fun hb => ?_, ?_⟩
  · have hlt := blen_lt (m * 1152921504606846976 + (if ng = true then -1 else 1))
    have h2 : (2 : Int) ^ blen (m * 1152921504606846976 + (if ng = true then -1 else 1)) ≤ 2 ^ 63 := two_le hb
    rw [show (2 : Int) ^ 63 = 9223372036854775808 by decide] at h2
    have h3 : 59 < blen (m * 1152921504606846976 + (if ng = true then -1 else 1)) := blen_ge (by
      rw [show (2 : Int) ^ 59 = 576460752303423488 by decide]
      cases ng <;> simp <;> omega)
    exact j_long (by cases ng <;> simp <;> omega) (by omega) (by cases ng <;> simp <;> omega) (by omega)
  · refine (key _ rfl).ok.2 ⟨?_, by omega, by omega⟩
    have e5 : P 5 = 1427247692705959881058285969449495136382746624 := rfl
    have := P_le (show 5 ≤ 2000 by omega)
    cases ng <;> simp <;> omega
theorem half_form {A C : Int} {ng : Bool} {m e : Int} (hy : Dy A ng m e) (h0 : 0 < m) (h1 : m < 9007199254740992) (he : -1074 ≤ e) (he2 : e ≤ 2000) (hC : C * 2 ^ 4194304 = A * pw (-1080 - e)) :
    Dy C ng m (-1080) ∧ Dok C ∧ (blen m ≤ 63 → jk 52 2047 (-1074) m (-1080) = false) := by
  have hd : Dy C ng m (-1080) := by
    refine ⟨scale_inj ?_, by omega, hy.form.elim (fun h => by omega) .inr⟩
    rw [hC, hy.val, Int.mul_assoc, pw_mul (by omega) (by omega), show e + (-1080 - e) = -1080 by omega, Int.mul_assoc]
  have ho : m % 2 = 1 := by rcases hy.form with ⟨h, _⟩ | ⟨_, h⟩ <;> omega
  refine ⟨hd, hd.ok.2 ⟨by have := P2000_big2; omega, by omega, by omega⟩, fun _ => j_low h0 (by omega) ho (by omega)⟩
end Go.Proofs.YtcpjdgfnblkfpaaGreatDoor
