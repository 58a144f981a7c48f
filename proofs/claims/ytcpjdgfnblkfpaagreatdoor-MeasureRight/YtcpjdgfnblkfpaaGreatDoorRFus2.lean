/-
  Plain mathematics: sums, products, both rounded once: what the three have in common. No Go text in sight.
-/
import Derived.Test.YtcpjdgfnblkfpaaGreatDoorRFus
namespace Go.Proofs.YtcpjdgfnblkfpaaGreatDoor
open Go Go.RowKit Go.Proofs.YtcpjdgfnblkfpaaGreatDoor.M
set_option linter.unusedSimpArgs false
set_option linter.unusedVariables false

theorem pw_0s : pw 0 = 2 ^ 4194304 := by
  unfold pw
  rw [show ((0 : Int) + 4194304).toNat = 4194304 from rfl]
theorem patV_one : patV 4607182418800017408 = pw 0 := by
  have h := pw_add (e := -52) (by omega) 52
  rw [show (-52 : Int) + ((52 : Nat) : Int) = 0 by omega, show (2 : Int) ^ 52 = 4503599627370496 by decide] at h
  unfold patV
  rw [show pneg 4607182418800017408 = false by decide, show pmag 4607182418800017408 = 4503599627370496 by decide, show pexp 4607182418800017408 = -52 by decide, h, Int.mul_comm]
  rfl
theorem patV_m0 : patV (-9223372036854775808) = 0 := by
  unfold patV
  rw [show pmag (-9223372036854775808) = 0 by decide, sg_zero, Int.zero_mul]
theorem prV_one (p : Int) : prV p 4607182418800017408 = patV p := by
  rw [prV_eq, patV_one, pw_0s]
  exact Int.mul_ediv_cancel _ (Int.ne_of_gt (two_pos 4194304))
theorem fmaS_pr (p q r : Int) : fmaS p q r = prV p q + patV r := rfl
theorem fmaS_one (p r : Int) : fmaS p 4607182418800017408 r = patV p + patV r := by rw [fmaS_pr, prV_one]
theorem fmaS_m0 (p q : Int) : fmaS p q (-9223372036854775808) = prV p q := by rw [fmaS_pr, patV_m0, Int.add_zero]
theorem xsg_one (p : Int) : xsg p 4607182418800017408 = decide (p < 0) := by
  unfold xsg
  rw [show decide ((4607182418800017408 : Int) < 0) = false by decide]
  cases decide (p < 0) <;> rfl
theorem patS_back {p : Int} (h : rng p) {r : Int} (hr : rg p = r) : patS (decide (p < 0)) r = p := by
  unfold rg at hr
  unfold patS
  by_cases hn : p < 0
  · rw [if_pos hn] at hr; simp [hn]; omega
  · rw [if_neg hn] at hr; simp [hn]; omega
theorem fsum_ffma {p q : Int} (hp : rng p) : fsum p q = ffma p 4607182418800017408 q := by
  have c1 : ¬ cls 4607182418800017408 = 4 := by decide
  have r1 : rg 4607182418800017408 = 4607182418800017408 := by decide
  unfold fsum ffma
  rw [xsg_one, fmaS_one, r1]
  by_cases h4 : cls p = 4 ∨ cls q = 4
  · have n4 : cls p = 4 ∨ cls 4607182418800017408 = 4 ∨ cls q = 4 := by rcases h4 with h | h; exact .inl h; exact .inr (.inr h)
    rw [if_pos h4, if_pos n4]
  · have n4 : ¬ (cls p = 4 ∨ cls 4607182418800017408 = 4 ∨ cls q = 4) := fun h => by rcases h with h | h | h; exact h4 (.inl h); exact c1 h; exact h4 (.inr h)
    rw [if_neg h4, if_neg n4]
    by_cases ip : rg p = 9218868437227405312
    · have i2 : rg p = 9218868437227405312 ∨ (4607182418800017408 : Int) = 9218868437227405312 := .inl ip
      have i3 : ¬ (rg p = 0 ∨ (4607182418800017408 : Int) = 0) := by omega
      rw [if_pos ip, if_pos i2, if_neg i3, patS_back hp ip]
    · have i2 : ¬ (rg p = 9218868437227405312 ∨ (4607182418800017408 : Int) = 9218868437227405312) := by omega
      rw [if_neg ip, if_neg i2]
theorem fprod_ffma {p q : Int} : fprod p q = ffma p q (-9223372036854775808) := by
  have c1 : ¬ cls (-9223372036854775808) = 4 := by decide
  have r1 : rg (-9223372036854775808) = 0 := by decide
  unfold fprod ffma
  rw [fmaS_m0, r1]
  by_cases h4 : cls p = 4 ∨ cls q = 4
  · have n4 : cls p = 4 ∨ cls q = 4 ∨ cls (-9223372036854775808) = 4 := by rcases h4 with h | h; exact .inl h; exact .inr (.inl h)
    rw [if_pos h4, if_pos n4]
  · have n4 : ¬ (cls p = 4 ∨ cls q = 4 ∨ cls (-9223372036854775808) = 4) := fun h => by rcases h with h | h | h; exact h4 (.inl h); exact h4 (.inr h); exact c1 h
    rw [if_neg h4, if_neg n4]
    by_cases ip : rg p = 9218868437227405312 ∨ rg q = 9218868437227405312
    · rw [if_pos ip, if_pos ip]
      by_cases h0 : rg p = 0 ∨ rg q = 0
      · rw [if_pos h0, if_pos h0]
      · have i3 : ¬ ((0 : Int) = 9218868437227405312 ∧ ¬ xsg p q = decide ((-9223372036854775808 : Int) < 0)) := by omega
        rw [if_neg h0, if_neg h0, if_neg i3]
    · have i3 : ¬ ((0 : Int) = 9218868437227405312) := by omega
      rw [if_neg ip, if_neg ip, if_neg i3]
      have hz : fsize p q = 0 ↔ prV p q = 0 := by
        unfold prV
        cases xsg p q
        · exact Iff.rfl
        · show _ ↔ -_ = 0; omega
      by_cases h : fsize p q = 0
      · rw [if_pos h, if_pos (hz.1 h), show decide ((-9223372036854775808 : Int) < 0) = true by decide, Bool.and_true]
      · rw [if_neg h, if_neg (fun e => h (hz.2 e))]
        rfl
theorem pok_clsF {a : Int} (ra : rng a) (h : pok a = true) : cls a ≠ 4 := fun e => by
  have hf := pparts h
  unfold cls at e
  rw [if_neg hf] at e
  split at e
  · split at e <;> omega
  · omega
theorem told_pokF {a : Int} (ra : rng a) (h : pok a = true) : told a = a := by
  unfold told; rw [if_neg (pok_clsF ra h)]
/-- What is exact is not changed. -/
theorem near_exact {S : Int} (hF : Fl S) (h0 : S ≠ 0) (hb : (S.natAbs : Int) ≤ maxV) : rng (nearP (S * pw (-1074))) ∧ pok (nearP (S * pw (-1074))) = true ∧ iV (nearP (S * pw (-1074))) = S := by
  obtain ⟨h1, h2, h3⟩ := near_iV h0
  exact ⟨h1, h3 hb, nr_self hF (h2 (h3 hb))⟩
theorem iV_fl (a : Int) : Fl (iV a) := by
  unfold iV
  cases decide (a < 0)
  · exact fl_V _
  · exact (fl_V _).neg
theorem iV_maxF {a : Int} (ra : rng a) (h : pok a = true) : ((iV a).natAbs : Int) ≤ maxV := by
  have h1 := (pok_rg ra).1 h
  have h0 := (rg_parts ra).1
  have := V_le (show (rg a).toNat ≤ 9218868437227405311 by omega)
  unfold iV
  cases decide (a < 0)
  · show (((V Ieee.double (rg a).toNat : Int)).natAbs : Int) ≤ _
    rw [Int.natAbs_natCast]; exact this
  · show ((-(V Ieee.double (rg a).toNat : Int)).natAbs : Int) ≤ _
    rw [Int.natAbs_neg, Int.natAbs_natCast]; exact this
theorem near_self {a : Int} (ra : rng a) (h : pok a = true) (h0 : patV a ≠ 0) : patV (nearP (patV a)) = patV a := by
  rw [patV_iV ra h] at h0 ⊢
  have hS : iV a ≠ 0 := fun e => h0 (by rw [e, Int.zero_mul])
  obtain ⟨h1, h2, h3⟩ := near_exact (iV_fl a) hS (iV_maxF ra h)
  rw [patV_iV h1 h2, h3]
theorem fprod_one {a : Int} (ra : rng a) (h : pok a = true) : fprod a 4607182418800017408 = 0 ↔ a = 0 := by
  have hc := pok_clsF ra h
  have hr := (pok_rg ra).1 h
  have c1 : ¬ cls 4607182418800017408 = 4 := by decide
  have r1 : rg 4607182418800017408 = 4607182418800017408 := by decide
  have hp := prV_one a
  unfold prV at hp
  unfold fprod
  have n4 : ¬ (cls a = 4 ∨ cls 4607182418800017408 = 4) := fun h => by rcases h with h | h; exact hc h; exact c1 h
  have i2 : ¬ (rg a = 9218868437227405312 ∨ rg 4607182418800017408 = 9218868437227405312) := by omega
  rw [if_neg n4, if_neg i2, hp, xsg_one]
  have hz : fsize a 4607182418800017408 = 0 ↔ patV a = 0 := by
    rw [← hp]
    cases xsg a 4607182418800017408
    · exact Iff.rfl
    · show _ ↔ -_ = 0; omega
  by_cases h0 : patV a = 0
  · rw [if_pos (hz.2 h0)]
    have hv := patV_iV ra h
    have hi : iV a = 0 := by
      rcases Int.mul_eq_zero.1 (hv.symm.trans h0) with q | q
      · exact q
      · have := pw_pos (-1074); omega
    have hg : rg a = 0 := by
      have h5 := (rg_parts ra).1
      unfold iV at hi
      have hV : (V Ieee.double (rg a).toNat : Int) = 0 := by
        cases hd : decide (a < 0) <;> rw [hd] at hi
        · exact hi
        · have : -(V Ieee.double (rg a).toNat : Int) = 0 := hi
          omega
      rcases Nat.eq_zero_or_pos (rg a).toNat with q | q
      · omega
      · have := V_lt Ieee.double q
        omega
    rw [patS_back ra hg]
  · rw [if_neg (fun e => h0 (hz.1 e))]
    constructor
    · intro e
      have := near_self ra h h0
      rw [e] at this
      exfalso
      apply h0
      rw [← this]
      unfold patV
      rw [show pmag 0 = 0 by decide, sg_zero, Int.zero_mul]
    · intro e
      exfalso
      apply h0
      rw [e]
      unfold patV
      rw [show pmag 0 = 0 by decide, sg_zero, Int.zero_mul]
/-- round.Add, Mul, Fma on patterns. -/
def addP (way a b : Int) : Int := if way = 0 ∨ (pok a && pok b) = false then fsum (told a) (told b) else if patV a + patV b ≠ 0 then rdP way (patV a + patV b) else if way = 1 ∧ ¬ (a = 0 ∧ b = 0) then -9223372036854775808 else fsum (told a) (told b)
def mulP (way a b : Int) : Int := if way = 0 ∨ (pok a && pok b) = false then fprod (told a) (told b) else if prV a b ≠ 0 then rdP way (prV a b) else fprod (told a) (told b)
def fmaP (way a b c : Int) : Int := if way = 0 ∨ (pok a && pok b && pok c) = false then ffma (told a) (told b) (told c) else if fmaS a b c ≠ 0 then rdP way (fmaS a b c) else if way = 1 ∧ ¬ (fprod (told a) (told b) = 0 ∧ c = 0) then -9223372036854775808 else ffma (told a) (told b) (told c)
theorem told_rngF {a : Int} (ra : rng a) : rng (told a) := by
  unfold told
  split
  · unfold rng; omega
  · exact ra
theorem fused_add {way a b : Int} (ra : rng a) (rb : rng b) : addP way a b = fmaP way a 4607182418800017408 b := by
  have t1 : told 4607182418800017408 = 4607182418800017408 := by decide
  have p1 : pok 4607182418800017408 = true := by decide
  unfold addP fmaP
  rw [t1, p1, Bool.and_true, fmaS_one, fsum_ffma (told_rngF ra)]
  by_cases h1 : way = 0 ∨ (pok a && pok b) = false
  · rw [if_pos h1, if_pos h1]
  · rw [if_neg h1, if_neg h1]
    have hb : (pok a && pok b) = true := by
      cases hh : (pok a && pok b)
      · exact absurd (.inr hh) h1
      · rfl
    simp only [Bool.and_eq_true] at hb
    rw [told_pokF ra hb.1]
    simp only [fprod_one ra hb.1]
theorem cls_patS0 (g : Bool) : cls (patS g 0) = 0 := by cases g <;> decide
theorem fma_zero {a b c : Int} (ra : rng a) (rb : rng b) (rc : rng c) (pa : pok a = true) (pb : pok b = true) (pc : pok c = true) (h : fmaS a b c = 0) : ffma a b c = patS (xsg a b && decide (c < 0)) 0 := by
  have h1 := (pok_rg ra).1 pa
  have h2 := (pok_rg rb).1 pb
  have h3 := (pok_rg rc).1 pc
  unfold ffma
  have n4 : ¬ (cls a = 4 ∨ cls b = 4 ∨ cls c = 4) := fun q => by rcases q with q | q | q; exact pok_clsF ra pa q; exact pok_clsF rb pb q; exact pok_clsF rc pc q
  have i2 : ¬ (rg a = 9218868437227405312 ∨ rg b = 9218868437227405312) := by omega
  have i3 : ¬ rg c = 9218868437227405312 := by omega
  rw [if_neg n4, if_neg i2, if_neg i3, if_pos h]
theorem fused_mul {way a b : Int} (ra : rng a) (rb : rng b) : mulP way a b = fmaP way a b (-9223372036854775808) ∨ (cls (mulP way a b) = 0 ∧ cls (fmaP way a b (-9223372036854775808)) = 0) := by
  have t1 : told (-9223372036854775808) = -9223372036854775808 := by decide
  have p1 : pok (-9223372036854775808) = true := by decide
  unfold mulP fmaP
  rw [t1, p1, Bool.and_true, fmaS_m0, fprod_ffma]
  by_cases h1 : way = 0 ∨ (pok a && pok b) = false
  · rw [if_pos h1, if_pos h1]; exact .inl rfl
  · rw [if_neg h1, if_neg h1]
    by_cases h2 : prV a b ≠ 0
    · rw [if_pos h2, if_pos h2]; exact .inl rfl
    · right
      rw [if_neg h2, if_neg h2]
      have hb : (pok a && pok b) = true := by
        cases hh : (pok a && pok b)
        · exact absurd (.inr hh) h1
        · rfl
      simp only [Bool.and_eq_true] at hb
      have h0 : fmaS a b (-9223372036854775808) = 0 := by rw [fmaS_m0]; omega
      rw [told_pokF ra hb.1, told_pokF rb hb.2, fma_zero ra rb (by unfold rng; omega) hb.1 hb.2 p1 h0]
      refine ⟨cls_patS0 _, ?_⟩
      split
      · decide
      · exact cls_patS0 _
end Go.Proofs.YtcpjdgfnblkfpaaGreatDoor
