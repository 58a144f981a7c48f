/-
  Parts of the proof, one behind another.
-/
import Derived.Test.YtjlmpgbadgkgmaaDoorPart8
import Derived.Test.YtjlmpgbadgkgmaaDoorPart5
import Derived.Test.YtjlmpgbadgkgmaaDoorPart6
import Derived.Laws.FloatArith
/-
  Plain mathematics: what Quot answers by Down, and its neighbour above.
-/
namespace Go.Proofs.YtjlmpgbadgkgmaaDoor
open Go Go.RowKit Go.Proofs.YtjlmpgbadgkgmaaDoor.M
set_option linter.unusedSimpArgs false
set_option linter.unusedVariables false

theorem r64_zero (way e : Int) : r64 way false false 0 e false = (0, false) := by
  have HR : r64 way false false 0 e false = (let E := rE 53 (-1074) 0 e
    let u := rU 0 (E - e)
    let left := rL 0 false (E - e)
    let U := u + (if rUp way false (decide (u % 2 = 1)) left then 1 else 0)
    let neg := false && (decide (0 < U) || false)
    if jk 52 2047 (-1074) U E then (jp neg U E, decide (left ≠ 0)) else (patS neg (bRung way neg), true)) := rfl
  rw [HR]
  generalize rE 53 (-1074) 0 e = E
  have hu : rU 0 (E - e) = 0 := by unfold rU; split <;> simp
  have hl : rL 0 false (E - e) = 0 := by unfold rL; split <;> simp
  simp only [hu, hl]
  have hr : rUp way false (decide (0 % 2 = 1)) 0 = false := by
    cases h : rUp way false (decide (0 % 2 = 1)) 0
    · rfl
    · exact absurd h (fun q => rUp_left q)
  rw [hr]
  rfl
theorem rungS_zero_aux {a b : Int} (h0 : a = 0) (h1 : 0 < b) : a ≤ 0 ∧ (0 : Int) < b ∧ (((0 : Int) = 0 ↔ (0 : Int) = a) ∧ ((0 : Int) = 1 ↔ a < 0 ∧ 2 * 0 < a + b) ∧ ((0 : Int) = 2 ↔ 2 * 0 = a + b) ∧ ((0 : Int) = 3 ↔ a + b < 2 * 0)) := by
  subst h0
  exact ⟨Int.le_refl _, h1, by omega, by omega, by omega, by omega⟩
theorem rungS_zero {S : Int} (hS : 0 < S) : RungS S 0 0 0 := by
  have h1 := vS_lt (show 0 < 0 + 1 by decide)
  have h0 : vS 0 * S = 0 := by rw [vS_zero, Int.zero_mul]
  rw [vS_zero] at h1
  obtain ⟨p, q, a, b, c, d⟩ := rungS_zero_aux h0 (Int.mul_pos h1 hS)
  exact ⟨p, q, a, b, c, d⟩
/-- What Quot answers, by the quotient's rung. -/
theorem quot_rung {way : Int} {a b : NumR} (oa : okR a = true) (ob : okR b = true) (hb0 : 0 < b.n) (hbg : b.ng = false) :
    ∃ (r0 : Nat) (left : Int), RungS (val b.d b.n * pw b.e) (val a.d a.n * (pw a.e * pw 0)) r0 left ∧ qR64 way a b = (patS (a.ng && decide (0 < rTo way a.ng r0 left)) (rTo way a.ng r0 left), decide (left ≠ 0) || decide (9218868437227405312 ≤ (r0 : Int))) := by
  obtain ⟨na, hn, ea0, ea1⟩ := okR_sane oa
  obtain ⟨nb, hm, eb0, eb1⟩ := okR_sane ob
  have hB := val_pos nb hb0
  have hS : 0 < val b.d b.n * pw b.e := Int.mul_pos hB (pw_pos _)
  have hng : (a.ng != b.ng) = a.ng := by rw [hbg]; cases a.ng <;> rfl
  by_cases h0 : a.n = 0
  · have hv : val a.d a.n = 0 := by rw [h0]; rfl
    have hz : a.ng = false := by
      have := of_decide_eq_true oa
      rcases this with ⟨_, q, _⟩ | ⟨q, _⟩
      · exact q
      · omega
    refine ⟨0, 0, ?_, ?_⟩
    · rw [hv, Int.zero_mul]; exact rungS_zero hS
    · unfold qR64
      rw [hng, hz, hv]
      have e1 : (scV 0 (qK 0 (val b.d b.n)) / val b.d b.n).toNat = 0 := by
        have : scV 0 (qK 0 (val b.d b.n)) = 0 := by unfold scV; split <;> simp
        rw [this]; simp
      have e2 : (scC 0 (qK 0 (val b.d b.n)) || decide (scV 0 (qK 0 (val b.d b.n)) % val b.d b.n ≠ 0)) = false := by
        have : scV 0 (qK 0 (val b.d b.n)) = 0 := by unfold scV; split <;> simp
        rw [this]
        unfold scC; split <;> simp
      rw [e1, e2, r64_zero, rTo_zero]
      rfl
  · have hA := val_pos na (by omega)
    have hAl := blen_nrm na
    have hBl := blen_nrm nb
    have hh := held_quot (Int.le_of_lt hA) hB ea0 ea1 eb0 eb1 (by omega) (by omega)
    have hsm := qK_small (Int.le_of_lt hA) hB
    have hbig := scV_big hA hB
    have hqk : qK (val a.d a.n) (val b.d b.n) = 62 + (blen (val b.d b.n) : Int) - (blen (val a.d a.n) : Int) := rfl
    have e61 : (2 : Int) ^ 61 = 2305843009213693952 := by decide
    have e64 : (2 : Nat) ^ 64 = 18446744073709551616 := by decide
    have e60 : (2 : Nat) ^ 60 = 1152921504606846976 := by decide
    rw [e61] at hbig
    obtain ⟨r0, left, hR, hE⟩ := r64_specS (way := way) (ng := a.ng) (sd := false) (mag := (scV (val a.d a.n) (qK (val a.d a.n) (val b.d b.n)) / val b.d b.n).toNat) (exp := a.e - b.e - qK (val a.d a.n) (val b.d b.n)) (cut := scC (val a.d a.n) (qK (val a.d a.n) (val b.d b.n)) || decide (scV (val a.d a.n) (qK (val a.d a.n) (val b.d b.n)) % val b.d b.n ≠ 0)) (by omega) (by omega) (by omega) (fun _ => by omega)
    refine ⟨r0, left, hR _ _ hS hh, ?_⟩
    unfold qR64
    rw [hng, hE, Bool.or_false]
/-- What RoundQuots asks of an answer by Down: U / S is the quotient. -/
structure Quo (U S d : Int) (o : Bool) : Prop where
  rg : rng d
  fin : pok d = true → patV d * S ≤ U ∧ (patV d * S = U ↔ o = false)
  nxt : pok (next d) = true → U < patV (next d) * S
  neg : pok d = false → d < 0
theorem next_pos {r : Int} (h0 : 0 ≤ r) (h1 : r < 9218868437227405312) : next (patS false r) = patS false (r + 1) := by
  have hc := cls_pat (s := false) (r := r) h0 (by omega) (fun h => by cases h)
  unfold next
  rw [if_neg hc]
  show (if r = 9218868437227405312 then r else if r = -9223372036854775808 then 1 else if r < 0 then r - 1 else r + 1) = r + 1
  rw [if_neg (by omega), if_neg (by omega), if_neg (by omega)]
theorem next_neg {r : Int} (h0 : 0 < r) (h1 : r ≤ 9218868437227405312) : next (patS true r) = patS true (r - 1) := by
  have hc := cls_pat (s := true) (r := r) (by omega) h1 (fun _ => h0)
  unfold next
  rw [if_neg hc]
  show (if r - 9223372036854775808 = 9218868437227405312 then r - 9223372036854775808 else if r - 9223372036854775808 = -9223372036854775808 then 1 else if r - 9223372036854775808 < 0 then r - 9223372036854775808 - 1 else r - 9223372036854775808 + 1) = r - 1 - 9223372036854775808
  rw [if_neg (by omega), if_neg (by omega), if_pos (by omega)]
  omega
theorem pmag_nz : pmag (-9223372036854775808) = 0 := by decide
theorem patV_neg {r : Nat} (h : (r : Int) < 9218868437227405312) : patV (patS true (r : Int)) = sg true (vS r) := by
  by_cases h0 : r = 0
  · subst h0
    rw [vS_zero]
    show patV (-9223372036854775808) = sg true 0
    unfold patV
    rw [pmag_nz, sg_zero, sg_zero, Int.zero_mul]
  · exact patV_patS h (fun _ => by omega)
theorem pok_pos {r : Int} (h0 : 0 ≤ r) (h1 : r ≤ 9218868437227405312) (h : pok (patS false r) = true) : r < 9218868437227405312 := by
  rw [patS_pok h0 h1 (fun q => by cases q)] at h
  exact of_decide_eq_true h
/-- The cases of an answer by Down. -/
theorem Quo.pos {S A : Int} {r : Nat} {o : Bool} (hr : (r : Int) < 9218868437227405312) (lo : vS r * S ≤ A) (eq : vS r * S = A ↔ o = false) (hi : ((r + 1 : Nat) : Int) < 9218868437227405312 → A < vS (r + 1) * S) : Quo A S (patS false (r : Int)) o := by
  have hv : patV (patS false (r : Int)) = vS r := by
    have := patV_patS (ng := false) hr (fun h => by cases h)
    rw [this]
    unfold sg
    rw [if_neg (by decide)]
  have hnx : next (patS false (r : Int)) = patS false ((r + 1 : Nat) : Int) := by
    rw [next_pos (by omega) hr]; rfl
  refine ⟨(patS_facts (by omega) (by omega) (fun h => by cases h)).1, fun _ => ?_, fun h => ?_, fun h => ?_⟩
  · rw [hv]; exact ⟨lo, eq⟩
  · rw [hnx] at h ⊢
    have h1 := pok_pos (by omega) (by omega) h
    have := patV_patS (ng := false) h1 (fun h => by cases h)
    rw [this]
    unfold sg
    rw [if_neg (by decide)]
    exact hi h1
  · exfalso
    rw [patS_pok (by omega) (by omega) (fun h => by cases h)] at h
    exact absurd hr (of_decide_eq_false h)
theorem neg_le_aux {p A : Int} (h : A ≤ p) : -p ≤ -A := by omega
theorem sgT_mul (v S : Int) : sg true v * S = -(v * S) := by
  unfold sg
  rw [if_pos rfl, Int.neg_mul]
theorem neg_eq_iff {a b : Int} : -a = -b ↔ a = b := by omega
theorem Quo.neg' {S A : Int} {r : Nat} {o : Bool} (h0 : 0 < r) (hr : (r : Int) ≤ 9218868437227405312) (lo : (r : Int) < 9218868437227405312 → A ≤ vS r * S ∧ (vS r * S = A ↔ o = false)) (hi : vS (r - 1) * S < A) : Quo (-A) S (patS true (r : Int)) o := by
  have hnx : next (patS true (r : Int)) = patS true ((r - 1 : Nat) : Int) := by
    rw [next_neg (by omega) hr]; congr 1; omega
  refine ⟨(patS_facts (by omega) hr (fun _ => by omega)).1, fun h => ?_, fun h => ?_, fun h => ?_⟩
  · rw [patS_pok (by omega) hr (fun _ => by omega)] at h
    have h1 := of_decide_eq_true h
    obtain ⟨l1, l2⟩ := lo h1
    rw [patV_neg h1, sgT_mul]
    exact ⟨neg_le_aux l1, neg_eq_iff.trans l2⟩
  · rw [hnx, patV_neg (by omega), sgT_mul]
    exact Int.neg_lt_neg hi
  · exact ((patS_facts (by omega) hr (fun _ => by omega)).2.2).2 rfl
theorem k_cast {k : Nat} (hk2 : (k : Int) + 1 = 9218868437227405312) : (9218868437227405312 : Int) = ((k + 1 : Nat) : Int) ∧ ¬ ((k + 1 : Nat) : Int) < 9218868437227405312 ∧ ((k + 1 : Nat) : Int) ≤ 9218868437227405312 := by omega
theorem k_low {r : Nat} (h : 0 < r) : (0 : Int) < (r : Int) ∧ r - 1 < r := by omega
theorem quo_of {S A : Int} {r0 : Nat} {left : Int} {ng : Bool} (hS : 0 < S) (R : RungS S A r0 left) (zA : ng = true → 0 < A) : Quo (sg ng A) S (patS (ng && decide (0 < rTo 1 ng r0 left)) (rTo 1 ng r0 left)) (decide (left ≠ 0) || decide (9218868437227405312 ≤ (r0 : Int))) := by
  obtain ⟨lo, hi, l0, _, _, _⟩ := R
  obtain ⟨k, hk⟩ := k_ex
  obtain ⟨hk1, hk2, hk3⟩ := k_fin hk
  by_cases hr : (r0 : Int) < 9218868437227405312
  · obtain ⟨t1, _, _, _⟩ := rTo_fin (ng := ng) (left := left) hr
    have ho : (decide (left ≠ 0) || decide (9218868437227405312 ≤ (r0 : Int))) = decide (left ≠ 0) := by rw [decide_eq_false (p := 9218868437227405312 ≤ (r0 : Int)) (Int.not_le.2 hr), Bool.or_false]
    rw [ho]
    cases ng
    · have e1 : rTo 1 false r0 left = (r0 : Int) := by rw [t1, if_neg (fun h => by cases h.2)]
      rw [e1, Bool.false_and]
      refine Quo.pos hr lo ?_ (fun _ => hi)
      rw [decide_eq_false_iff_not, Classical.not_not, l0]
      exact ⟨Eq.symm, Eq.symm⟩
    · have hA := zA rfl
      by_cases hl : left = 0
      · have e1 : rTo 1 true r0 left = (r0 : Int) := by rw [t1, if_neg (fun h => h.1 hl)]
        have hAe := l0.1 hl
        have h0 : 0 < r0 := by
          rcases Nat.eq_zero_or_pos r0 with h | h
          · rw [h, vS_zero, Int.zero_mul] at hAe; omega
          · exact h
        rw [e1, Bool.true_and, decide_eq_true (p := (0 : Int) < (r0 : Int)) (k_low h0).1, decide_eq_false (p := left ≠ 0) (fun h => h hl)]
        refine Quo.neg' h0 (Int.le_of_lt hr) (fun _ => ⟨Int.le_of_eq hAe, ⟨fun _ => rfl, fun _ => hAe.symm⟩⟩) ?_
        rw [hAe]
        exact Int.mul_lt_mul_of_pos_right (vS_lt (k_low h0).2) hS
      · have e1 : rTo 1 true r0 left = ((r0 + 1 : Nat) : Int) := by rw [t1, if_pos ⟨hl, rfl⟩]
        rw [e1, Bool.true_and, decide_eq_true (p := (0 : Int) < ((r0 + 1 : Nat) : Int)) (k_pos r0), decide_eq_true (p := left ≠ 0) hl]
        refine Quo.neg' (Nat.succ_pos _) (k_le hr) (fun _ => ⟨Int.le_of_lt hi, ⟨fun h => ?_, fun h => by cases h⟩⟩) ?_
        · rw [h] at hi; exact absurd hi (Int.lt_irrefl _)
        · show vS r0 * S < A
          rcases Int.lt_or_eq_of_le lo with h | h
          · exact h
          · exact absurd (l0.2 h.symm) hl
  · obtain ⟨t1, _, _, _⟩ := rTo_inf (ng := ng) (left := left) hr
    have ho : (decide (left ≠ 0) || decide (9218868437227405312 ≤ (r0 : Int))) = true := by rw [decide_eq_true (p := 9218868437227405312 ≤ (r0 : Int)) (Int.not_lt.1 hr), Bool.or_true]
    rw [ho]
    have hAl : vS k * S < A := Int.lt_of_lt_of_le (Int.mul_lt_mul_of_pos_right (vS_lt (k_lt hk hr)) hS) lo
    cases ng
    · rw [if_neg (by decide), hk] at t1
      rw [t1, Bool.false_and]
      refine Quo.pos hk1 (Int.le_of_lt hAl) ⟨fun h => ?_, fun h => by cases h⟩ (fun h => ?_)
      · rw [h] at hAl; exact absurd hAl (Int.lt_irrefl _)
      · exact absurd h (k_cast hk2).2.1
    · rw [if_pos rfl] at t1
      have e2 := (k_cast hk2).1
      rw [t1, Bool.true_and, decide_eq_true (p := (0 : Int) < 9218868437227405312) (by decide), e2]
      exact Quo.neg' (Nat.succ_pos _) (k_cast hk2).2.2 (fun h => absurd h (k_cast hk2).2.1) hAl
end Go.Proofs.YtjlmpgbadgkgmaaDoor

/-
  Plain mathematics: a square root's rung. No Go text in sight.
-/
namespace Go.Proofs.YtjlmpgbadgkgmaaDoor
open Go Go.RowKit Go.Proofs.YtjlmpgbadgkgmaaDoor.M
set_option linter.unusedSimpArgs false
set_option linter.unusedVariables false

/-- X's square root among the rungs. -/
structure RungR (X : Int) (r0 : Nat) (left : Int) : Prop where
  lo : vS r0 * vS r0 ≤ X
  hi : X < vS (r0 + 1) * vS (r0 + 1)
  l0 : left = 0 ↔ X = vS r0 * vS r0
theorem sq_le {a b : Int} (h0 : 0 ≤ a) (h : a ≤ b) : a * a ≤ b * b := Int.mul_le_mul h h h0 (Int.le_trans h0 h)
theorem sq_lt {a b : Int} (h0 : 0 ≤ a) (h : a < b) : a * a < b * b :=
  Int.lt_of_le_of_lt (Int.mul_le_mul_of_nonneg_left (Int.le_of_lt h) h0) (Int.mul_lt_mul_of_pos_right h (Int.lt_of_le_of_lt h0 h))
theorem sq_inj {a b : Int} (h0 : 0 ≤ a) (h1 : 0 ≤ b) (h : a * a = b * b) : a = b := by
  rcases Int.lt_trichotomy a b with q | q | q
  · exact absurd h (Int.ne_of_lt (sq_lt h0 q))
  · exact q
  · exact absurd h.symm (Int.ne_of_lt (sq_lt h1 q))
theorem cut_aux1 {v x : Int} (h : v * 2 ≤ x * 2 + 1) : v ≤ x := by omega
theorem cut_aux2 {v y : Int} (h : y - 1 < v) : y ≤ v := by omega
/-- Where something was cut off, the whole step lies between the rungs. -/
theorem rung_cut {mag : Nat} {exp : Int} {r0 : Nat} {left : Int} (hR : ∀ S A : Int, 0 < S → HeldS S A mag exp true → RungS S A r0 left) : vS r0 ≤ (mag : Int) * pw exp ∧ ((mag : Int) + 1) * pw exp ≤ vS (r0 + 1) ∧ left ≠ 0 := by
  have hq := pw_pos exp
  have e2 : ((mag : Int) + 1) * pw exp = (mag : Int) * pw exp + pw exp := by rw [Int.add_mul, Int.one_mul]
  have A1 : HeldS 2 ((mag : Int) * pw exp * 2 + 1) mag exp true := by
    unfold HeldS
    have e3 : (mag : Int) * (pw exp * 2) = (mag : Int) * pw exp * 2 := by rw [Int.mul_assoc]
    have e4 : ((mag : Int) + 1) * (pw exp * 2) = (mag : Int) * pw exp * 2 + pw exp * 2 := by rw [Int.add_mul, Int.one_mul, e3]
    rw [e3, e4]
    generalize (mag : Int) * pw exp = X
    generalize pw exp = q at hq ⊢
    exact ⟨by omega, by omega, ⟨(fun h => by cases h), fun h => by omega⟩⟩
  have R1 := hR _ _ (by decide) A1
  have h1 := cut_aux1 R1.lo
  have hn : left ≠ 0 := fun h => by
    have := R1.l0.1 h
    generalize vS r0 = v at this
    generalize (mag : Int) * pw exp = X at this
    omega
  refine ⟨h1, ?_, hn⟩
  by_cases hb : 2 ≤ pw exp
  · have A2 : HeldS 1 (((mag : Int) + 1) * pw exp - 1) mag exp true := by
      unfold HeldS
      rw [Int.mul_one, e2]
      generalize (mag : Int) * pw exp = X
      generalize pw exp = q at hq hb ⊢
      exact ⟨by omega, by omega, ⟨(fun h => by cases h), fun h => by omega⟩⟩
    have R2 := hR _ _ (by decide) A2
    have := R2.hi
    rw [Int.mul_one] at this
    exact cut_aux2 this
  · have hp1 : pw exp = 1 := by generalize pw exp = q at *; omega
    have A2 : HeldS 2 (((mag : Int) + 1) * pw exp * 2 - 1) mag exp true := by
      unfold HeldS
      rw [hp1]
      simp only [Int.mul_one, Int.one_mul]
      exact ⟨by omega, by omega, ⟨(fun h => by cases h), fun h => by omega⟩⟩
    have R2 := (hR _ _ (by decide) A2).hi
    generalize ((mag : Int) + 1) * pw exp = Y at *
    generalize vS (r0 + 1) = v at *
    omega
theorem rung_root {mag : Nat} {exp : Int} {cut : Bool} {r0 : Nat} {left X : Int} (hR : ∀ S A : Int, 0 < S → HeldS S A mag exp cut → RungS S A r0 left)
    (lo : (mag : Int) * pw exp * ((mag : Int) * pw exp) ≤ X) (hi : X < ((mag : Int) + 1) * pw exp * (((mag : Int) + 1) * pw exp)) (eq : cut = false ↔ X = (mag : Int) * pw exp * ((mag : Int) * pw exp)) : RungR X r0 left := by
  have hq := pw_pos exp
  have hm : 0 ≤ (mag : Int) * pw exp := Int.mul_nonneg (by omega) (Int.le_of_lt hq)
  have hv := vS_nonneg r0
  cases cut
  · have hX := eq.1 rfl
    have e2 : ((mag : Int) + 1) * pw exp = (mag : Int) * pw exp + pw exp := by rw [Int.add_mul, Int.one_mul]
    have A1 : HeldS 1 ((mag : Int) * pw exp) mag exp false := by
      unfold HeldS
      rw [Int.mul_one, e2]
      generalize (mag : Int) * pw exp = Y
      generalize pw exp = q at hq ⊢
      exact ⟨by omega, by omega, ⟨fun _ => rfl, fun _ => rfl⟩⟩
    obtain ⟨q1, q2, q3, _, _, _⟩ := hR _ _ (by decide) A1
    rw [Int.mul_one] at q1 q2 q3
    rw [hX]
    exact ⟨sq_le hv q1, sq_lt hm q2, q3.trans ⟨fun h => by rw [h], fun h => sq_inj hm hv h⟩⟩
  · obtain ⟨q1, q2, q3⟩ := rung_cut hR
    have hX : X ≠ (mag : Int) * pw exp * ((mag : Int) * pw exp) := fun h => by have := eq.2 h; cases this
    have hlt : (mag : Int) * pw exp * ((mag : Int) * pw exp) < X := by
      rcases Int.lt_or_eq_of_le lo with h | h
      · exact h
      · exact absurd h.symm hX
    have h1 := sq_le hv q1
    refine ⟨Int.le_trans h1 lo, Int.lt_of_lt_of_le hi (sq_le (Int.mul_nonneg (by omega) (Int.le_of_lt hq)) q2), ⟨fun h => absurd h q3, fun h => ?_⟩⟩
    rw [h] at hlt
    exact absurd (Int.lt_of_lt_of_le hlt h1) (Int.lt_irrefl _)
theorem RungR.unique {X : Int} {r s : Nat} {l k : Int} (h : RungR X r l) (g : RungR X s k) : r = s := by
  have key : ∀ {r s : Nat} {l k : Int}, RungR X r l → RungR X s k → ¬ r < s := fun {r s l k} h g q => by
    have e : vS (r + 1) ≤ vS s := by
      rcases Nat.lt_or_eq_of_le (show r + 1 ≤ s from q) with q2 | q2
      · exact Int.le_of_lt (vS_lt q2)
      · rw [q2]; exact Int.le_refl _
    exact absurd (Int.lt_of_lt_of_le h.hi (Int.le_trans (sq_le (vS_nonneg _) e) g.lo)) (Int.lt_irrefl _)
  rcases Nat.lt_trichotomy r s with q | q | q
  · exact absurd q (key h g)
  · exact q
  · exact absurd q (key g h)
theorem rungR_sq (r : Nat) : RungR (vS r * vS r) r 0 := ⟨Int.le_refl _, sq_lt (vS_nonneg r) (vS_lt (Nat.lt_succ_self r)), ⟨fun _ => rfl, fun _ => rfl⟩⟩
/-- The bits that a root's number is brought to. -/
def tK (M e : Int) : Int := 124 - (blen M : Int) - (e - (124 - (blen M : Int))) % 2
theorem root_sq1 {M s D X Y N' : Int} (hN : M * D = N') (h1 : s * s ≤ N') (h2 : N' < (s + 1) * (s + 1)) (hX : X = D * Y) (hY : 0 < Y) : s * s * Y ≤ M * X ∧ M * X < (s + 1) * (s + 1) * Y ∧ (N' - s * s = 0 ↔ M * X = s * s * Y) := by
  have e : M * X = N' * Y := by rw [hX, ← Int.mul_assoc, hN]
  rw [e]
  refine ⟨Int.mul_le_mul_of_nonneg_right h1 (Int.le_of_lt hY), Int.mul_lt_mul_of_pos_right h2 hY, ⟨fun h => ?_, fun h => ?_⟩⟩
  · rw [show N' = s * s by omega]
  · have := Int.eq_of_mul_eq_mul_right (Int.ne_of_gt hY) h
    omega
theorem root_sq2 {M s D N t X Y : Int} (hN : D * N + t = M) (t0 : 0 ≤ t) (t1 : t < D) (h1 : s * s ≤ N) (h2 : N < (s + 1) * (s + 1)) (hY : Y = D * X) (hX : 0 < X) : s * s * Y ≤ M * X ∧ M * X < (s + 1) * (s + 1) * Y ∧ ((t = 0 ∧ N - s * s = 0) ↔ M * X = s * s * Y) := by
  have hD : 0 < D := by omega
  have e1 : s * s * Y = (D * (s * s)) * X := by rw [hY, ← Int.mul_assoc, Int.mul_comm (s * s) D]
  have e2 : (s + 1) * (s + 1) * Y = (D * ((s + 1) * (s + 1))) * X := by rw [hY, ← Int.mul_assoc, Int.mul_comm ((s + 1) * (s + 1)) D]
  rw [e1, e2]
  generalize s * s = a at *
  generalize (s + 1) * (s + 1) = b at *
  have q1 : D * a ≤ M := by have := Int.mul_le_mul_of_nonneg_left h1 (Int.le_of_lt hD); omega
  have q2 : M < D * b := by
    have := Int.mul_le_mul_of_nonneg_left (show N + 1 ≤ b from h2) (Int.le_of_lt hD)
    rw [Int.mul_add, Int.mul_one] at this
    omega
  refine ⟨Int.mul_le_mul_of_nonneg_right q1 (Int.le_of_lt hX), Int.mul_lt_mul_of_pos_right q2 hX, ⟨fun h => ?_, fun h => ?_⟩⟩
  · rw [← hN, h.1, show N = a by omega, Int.add_zero]
  · have h3 := Int.eq_of_mul_eq_mul_right (Int.ne_of_gt hX) h
    by_cases h4 : N = a
    · rw [h4] at hN; omega
    · have := Int.mul_le_mul_of_nonneg_left (show a + 1 ≤ N by omega) (Int.le_of_lt hD)
      rw [Int.mul_add, Int.mul_one] at this
      omega
end Go.Proofs.YtjlmpgbadgkgmaaDoor

/-
  Plain mathematics: what Root answers, by the root's rung. No Go text in sight.
-/
namespace Go.Proofs.YtjlmpgbadgkgmaaDoor
open Go Go.RowKit Go.Proofs.YtjlmpgbadgkgmaaDoor.M
set_option linter.unusedSimpArgs false
set_option linter.unusedVariables false

theorem isRoot_ex (n : Nat) : ∃ s : Int, IsRoot (n : Int) s := by
  induction n with
  | zero => exact ⟨0, by decide, by decide, by decide⟩
  | succ n ih =>
    obtain ⟨s, h0, h1, h2⟩ := ih
    by_cases h : ((n + 1 : Nat) : Int) < (s + 1) * (s + 1)
    · exact ⟨s, h0, by omega, h⟩
    · refine ⟨s + 1, by omega, by omega, ?_⟩
      have e : (s + 1 + 1) * (s + 1 + 1) = (s + 1) * (s + 1) + (s + 1) + (s + 1) + 1 := by
        rw [Int.mul_add (s + 1 + 1), Int.add_mul (s + 1) 1, Int.mul_one, Int.one_mul]; omega
      omega
theorem isRoot_unique {A s t : Int} (h : IsRoot A s) (g : IsRoot A t) : s = t := by
  obtain ⟨a0, a1, a2⟩ := h
  obtain ⟨b0, b1, b2⟩ := g
  rcases Int.lt_trichotomy s t with q | q | q
  · have := sq_le (show 0 ≤ s + 1 by omega) (show s + 1 ≤ t by omega); omega
  · exact q
  · have := sq_le (show 0 ≤ t + 1 by omega) (show t + 1 ≤ s by omega); omega
theorem tK_in {M e : Int} : 122 < tK M e + (blen M : Int) ∧ tK M e + (blen M : Int) ≤ 124 ∧ (e - tK M e) % 2 = 0 := by
  unfold tK
  omega
theorem scV_low {M k : Int} (hM : 0 < M) {n : Nat} (h : (n : Int) < k + (blen M : Int)) : 2 ^ n ≤ scV M k := by
  have b1 := blen_pos hM
  unfold scV
  by_cases hk : 0 ≤ k
  · rw [if_pos hk]
    have e : (2 : Int) ^ (blen M - 1) * 2 ^ k.toNat ≤ M * 2 ^ k.toNat := Int.mul_le_mul_of_nonneg_right b1.2 (Int.le_of_lt (two_pos _))
    refine Int.le_trans ?_ e
    rw [← Int.pow_add]
    exact two_le (by omega)
  · rw [if_neg hk, Int.le_ediv_iff_mul_le (two_pos _), ← Int.pow_add]
    exact Int.le_trans (two_le (by omega)) b1.2
theorem scV_high {M k : Int} (hM : 0 ≤ M) {n : Nat} (h : k + (blen M : Int) ≤ (n : Int)) : 0 ≤ scV M k ∧ scV M k < 2 ^ n := by
  have b1 := blen_lt M
  unfold scV
  by_cases hk : 0 ≤ k
  · rw [if_pos hk]
    have hp := two_pos k.toNat
    refine ⟨Int.mul_nonneg hM (Int.le_of_lt hp), ?_⟩
    have e : M * 2 ^ k.toNat < 2 ^ blen M * 2 ^ k.toNat := Int.mul_lt_mul_of_pos_right b1 hp
    rw [← Int.pow_add] at e
    exact Int.lt_of_lt_of_le e (two_le (by omega))
  · rw [if_neg hk]
    have hp := two_pos (-k).toNat
    refine ⟨Int.ediv_nonneg hM (Int.le_of_lt hp), ?_⟩
    rw [Int.ediv_lt_iff_lt_mul hp, ← Int.pow_add]
    exact Int.lt_of_lt_of_le b1 (two_le (by omega))
theorem root_small {N s : Int} (h : IsRoot N s) (hN : N < 2 ^ 124) : s < 4611686018427387904 := by
  obtain ⟨a0, a1, a2⟩ := h
  rcases Int.lt_or_le s 4611686018427387904 with q | q
  · exact q
  · have := sq_le (by decide) q
    have e : (2 : Int) ^ 124 = 4611686018427387904 * 4611686018427387904 := by decide
    omega
theorem root_big {N s : Int} (h : IsRoot N s) (hN : 2 ^ 122 ≤ N) : 2305843009213693952 ≤ s := by
  obtain ⟨a0, a1, a2⟩ := h
  rcases Int.lt_or_le s 2305843009213693952 with q | q
  · have := sq_le (show 0 ≤ s + 1 by omega) (show s + 1 ≤ 2305843009213693952 by omega)
    have e : (2 : Int) ^ 122 = 2305843009213693952 * 2305843009213693952 := by decide
    omega
  · exact q
theorem sq_prod (s p : Int) : s * p * (s * p) = s * s * (p * p) := by
  rw [Int.mul_assoc, Int.mul_comm p (s * p), Int.mul_assoc s p p, ← Int.mul_assoc]
theorem held_root {M e s : Int} (hM : 0 ≤ M) (a0 : -1100000 ≤ e) (a1 : e ≤ 1100000) (lM : blen M ≤ 150000) (hs : IsRoot (scV M (tK M e)) s) :
    s * pw ((e - tK M e) / 2) * (s * pw ((e - tK M e) / 2)) ≤ M * (pw e * pw 0) ∧ M * (pw e * pw 0) < (s + 1) * pw ((e - tK M e) / 2) * ((s + 1) * pw ((e - tK M e) / 2)) ∧ ((scC M (tK M e) || decide (scV M (tK M e) - s * s ≠ 0)) = false ↔ M * (pw e * pw 0) = s * pw ((e - tK M e) / 2) * (s * pw ((e - tK M e) / 2))) := by
  obtain ⟨k1, k2, k3⟩ := tK_in (M := M) (e := e)
  obtain ⟨k, hk⟩ : ∃ k, tK M e = k := ⟨_, rfl⟩
  rw [hk] at hs k1 k2 k3 ⊢
  obtain ⟨E, hE⟩ : ∃ E, (e - k) / 2 = E := ⟨_, rfl⟩
  have hEE : e + 0 = E + E + k := by omega
  rw [hE]
  obtain ⟨s0, s1, s2⟩ := hs
  rw [sq_prod, sq_prod]
  have hP : 0 < pw E * pw E := Int.mul_pos (pw_pos _) (pw_pos _)
  have hQ : 0 < pw e * pw 0 := Int.mul_pos (pw_pos _) (pw_pos _)
  by_cases h : 0 ≤ k
  · have hc : pw e * pw 0 = 2 ^ k.toNat * (pw E * pw E) := pw_cross (by omega) (by decide) (by omega) (by omega) (by omega)
    have hsv : scV M k = M * 2 ^ k.toNat := by unfold scV; rw [if_pos h]
    have hsc : scC M k = false := by unfold scC; rw [if_pos h]
    rw [hsc, Bool.false_or]
    obtain ⟨q1, q2, q3⟩ := root_sq1 hsv.symm s1 s2 hc hP
    exact ⟨q1, q2, by rw [← q3, decide_eq_false_iff_not]; constructor <;> intro h <;> omega⟩
  · have hc : pw E * pw E = 2 ^ (-k).toNat * (pw e * pw 0) := pw_cross (by omega) (by omega) (by omega) (by decide) (by omega)
    have hsv : scV M k = M / 2 ^ (-k).toNat := by unfold scV; rw [if_neg h]
    have hsc : scC M k = decide (M % 2 ^ (-k).toNat ≠ 0) := by unfold scC; rw [if_neg h]
    have hp := two_pos (-k).toNat
    have hdd := Int.mul_ediv_add_emod M (2 ^ (-k).toNat)
    have t0 := Int.emod_nonneg M (show (2 : Int) ^ (-k).toNat ≠ 0 by omega)
    have t1 := Int.emod_lt_of_pos M hp
    rw [← hsv] at hdd
    rw [hsc]
    obtain ⟨q1, q2, q3⟩ := root_sq2 hdd t0 t1 s1 s2 hc hQ
    refine ⟨q1, q2, ?_⟩
    rw [← q3, Bool.or_eq_false_iff, decide_eq_false_iff_not, decide_eq_false_iff_not]
    constructor <;> intro h <;> omega
/-- What Root answers at a number that is not below 0. -/
def tR64 (way : Int) (x : NumR) (s : Int) : Int × Bool := r64 way false false s.toNat ((x.e - tK (val x.d x.n) x.e) / 2) (scC (val x.d x.n) (tK (val x.d x.n) x.e) || decide (scV (val x.d x.n) (tK (val x.d x.n) x.e) - s * s ≠ 0))
theorem root_rung {way : Int} {x : NumR} {s : Int} (ok : okR x = true) (hs : IsRoot (scV (val x.d x.n) (tK (val x.d x.n) x.e)) s) :
    ∃ (r0 : Nat) (left : Int), RungR (val x.d x.n * (pw x.e * pw 0)) r0 left ∧ tR64 way x s = (patS false (rTo way false r0 left), decide (left ≠ 0) || decide (9218868437227405312 ≤ (r0 : Int))) := by
  obtain ⟨na, hn, ea0, ea1⟩ := okR_sane ok
  by_cases h0 : x.n = 0
  · have hv : val x.d x.n = 0 := by rw [h0]; rfl
    have hsv : scV 0 (tK 0 x.e) = 0 := by unfold scV; split <;> simp
    have hsc : scC 0 (tK 0 x.e) = false := by unfold scC; split <;> simp
    rw [hv, hsv] at hs
    have hs0 : s = 0 := isRoot_unique hs ⟨by decide, by decide, by decide⟩
    refine ⟨0, 0, ?_, ?_⟩
    · rw [hv, Int.zero_mul]
      have := rungR_sq 0
      rwa [vS_zero, Int.zero_mul] at this
    · unfold tR64
      rw [hv, hsv, hsc, hs0, rTo_zero]
      exact r64_zero _ _
  · have hM := val_pos na (by omega)
    have hl := blen_nrm na
    obtain ⟨k1, k2, k3⟩ := tK_in (M := val x.d x.n) (e := x.e)
    have hlow := scV_low hM (n := 122) (k := tK (val x.d x.n) x.e) (by omega)
    have hhigh := scV_high (Int.le_of_lt hM) (n := 124) (k := tK (val x.d x.n) x.e) (by omega)
    have hsm := root_small hs hhigh.2
    have hbg := root_big hs hlow
    obtain ⟨q1, q2, q3⟩ := held_root (Int.le_of_lt hM) ea0 ea1 (by omega) hs
    have e64 : (2 : Nat) ^ 64 = 18446744073709551616 := by decide
    have e60 : (2 : Nat) ^ 60 = 1152921504606846976 := by decide
    have hcast : ((s.toNat : Nat) : Int) = s := Int.toNat_of_nonneg hs.1
    obtain ⟨r0, left, hR, hE⟩ := r64_specS (way := way) (ng := false) (sd := false) (mag := s.toNat) (exp := (x.e - tK (val x.d x.n) x.e) / 2) (cut := scC (val x.d x.n) (tK (val x.d x.n) x.e) || decide (scV (val x.d x.n) (tK (val x.d x.n) x.e) - s * s ≠ 0)) (by omega) (by omega) (by omega) (fun _ => by omega)
    refine ⟨r0, left, ?_, ?_⟩
    · exact rung_root hR (by rw [hcast]; exact q1) (by rw [hcast]; exact q2) (by rw [hcast]; exact q3)
    · unfold tR64
      rw [hE, Bool.false_and]
end Go.Proofs.YtjlmpgbadgkgmaaDoor

/-
  Package round: Quot by 0.
-/
namespace Go.Proofs.YtjlmpgbadgkgmaaDoor
open Go Go.RowKit Go.Proofs.YtjlmpgbadgkgmaaDoor.M
set_option linter.unusedSimpArgs false
set_option linter.unusedVariables false

end Go.Proofs.YtjlmpgbadgkgmaaDoor

/-
  Package round: Quot by 0: rounded and Quot.
-/
namespace Go.Proofs.YtjlmpgbadgkgmaaDoor
open Go Go.RowKit Go.Proofs.YtjlmpgbadgkgmaaDoor.M
set_option linter.unusedSimpArgs false
set_option linter.unusedVariables false

end Go.Proofs.YtjlmpgbadgkgmaaDoor

/-
  What RoundQuots asks of the calls: Quot on numbers told by their worth.
-/
namespace Go.Proofs.YtjlmpgbadgkgmaaDoor
open Go Go.RowKit Go.Proofs.YtjlmpgbadgkgmaaDoor.M
set_option linter.unusedSimpArgs false
set_option linter.unusedVariables false

theorem pw_nil : pw 0 = 2 ^ 4194304 := by
  unfold pw
  rw [show ((0 : Int) + 4194304).toNat = 4194304 by omega]
theorem okR_abs {g : Bool} {o : Option Addr} {n c : Nat} {d : Nat → Int} {e : Int} (h : okR ⟨g, o, n, c, d, e⟩ = true) : okR ⟨false, o, n, c, d, e⟩ = true := by
  refine decide_eq_true ?_
  rcases of_decide_eq_true h with ⟨h1, h2, h3⟩ | h1
  · exact .inl ⟨h1, rfl, h3⟩
  · exact .inr h1
theorem Bd.sg {B : Nat} {V : Int} (g : Bool) (h : Bd B V) : Bd B (M.sg g V) := by
  cases g
  · exact h
  · exact h.neg
theorem sg_sg (g : Bool) (m q : Int) : sg g (sg g m * q) = sg false m * q := by
  cases g
  · rfl
  · show -(-m * q) = m * q
    rw [Int.neg_mul, Int.neg_neg]
theorem sg_scale (g : Bool) (m p q : Int) : sg g (m * (p * q)) = sg g m * p * q := by
  rw [sg_prod, sg_prod, Int.mul_assoc]
theorem ord_up {m a p U Z S : Int} (hZ : 0 < Z) (h : m * Z = p * S) (hU : U = a * Z) : ord m a = ord (p * S) U := by
  rw [hU, ← h, ord_scale hZ]
theorem ord_le0 {a b : Int} (h : a ≤ b) : ord a b ≤ 0 := by
  rcases Int.lt_or_eq_of_le h with q | q
  · rw [ord_lt q]; decide
  · rw [ord_eq q]; decide
end Go.Proofs.YtjlmpgbadgkgmaaDoor

/-
  Plain mathematics: what RoundRoots asks of Root's answers.
-/
namespace Go.Proofs.YtjlmpgbadgkgmaaDoor
open Go Go.RowKit Go.Proofs.YtjlmpgbadgkgmaaDoor.M
set_option linter.unusedSimpArgs false
set_option linter.unusedVariables false

theorem p52 {B : Nat} (h : B = 2 ^ 52) (n : Nat) : ((B * 2 ^ n : Nat) : Int) = 2 ^ (52 + n) := by
  subst h
  rw [← Nat.pow_add, Int.natCast_pow]
  rfl
theorem vS_bin {B : Nat} (hB : B = 4503599627370496) (a : Nat) : vS (a * B + B) = pw (-1074 + ((52 + a : Nat) : Int)) := by
  have eB : Ieee.double.binade = B := by rw [hB]; decide
  have h := (V_rung Ieee.double a B (by rw [eB]; omega) (fun _ => by rw [eB]; exact Nat.le_refl _)).1
  rw [eB] at h
  unfold vS
  rw [h, p52 (by rw [hB]), pw_add (by decide), Int.mul_comm]
theorem vS_inf : vS 9218868437227405312 = pw 1024 := by
  have h := vS_bin (B := 4503599627370496) rfl 2046
  have e : 2046 * 4503599627370496 + 4503599627370496 = 9218868437227405312 := by decide
  have e1 : (-1074 : Int) + ((52 + 2046 : Nat) : Int) = 1024 := by decide
  rw [e, e1] at h
  exact h
structure Roo (X d : Int) (o : Bool) : Prop where
  rg : rng d
  pk : pok d = true
  lo : patV d * patV d ≤ X
  eq : patV d * patV d = X ↔ o = false
  nxt : pok (next d) = true → X < patV (next d) * patV (next d)
theorem sgF (v : Int) : sg false v = v := rfl
theorem roo_of {X : Int} {r0 : Nat} {left : Int} (R : RungR X r0 left) (hX : X < pw 1024 * pw 1024) : Roo X (patS false (rTo 1 false r0 left)) (decide (left ≠ 0) || decide (9218868437227405312 ≤ (r0 : Int))) := by
  have hr : (r0 : Int) < 9218868437227405312 := by
    rcases Int.lt_or_le (r0 : Int) 9218868437227405312 with h | h
    · exact h
    · exfalso
      have h1 : vS 9218868437227405312 ≤ vS r0 := by
        rcases Nat.lt_or_eq_of_le (show 9218868437227405312 ≤ r0 by omega) with q | q
        · exact Int.le_of_lt (vS_lt q)
        · rw [← q]; exact Int.le_refl _
      rw [vS_inf] at h1
      exact absurd (Int.lt_of_lt_of_le hX (Int.le_trans (sq_le (Int.le_of_lt (pw_pos _)) h1) R.lo)) (Int.lt_irrefl _)
  obtain ⟨t1, _, _, _⟩ := rTo_fin (ng := false) (left := left) hr
  have e1 : rTo 1 false r0 left = (r0 : Int) := by rw [t1, if_neg (fun h => by cases h.2)]
  have ho : (decide (left ≠ 0) || decide (9218868437227405312 ≤ (r0 : Int))) = decide (left ≠ 0) := by rw [decide_eq_false (p := 9218868437227405312 ≤ (r0 : Int)) (Int.not_le.2 hr), Bool.or_false]
  rw [e1, ho]
  have hv : patV (patS false (r0 : Int)) = vS r0 := (patV_patS (ng := false) hr (fun h => by cases h)).trans (sgF _)
  have hnx : next (patS false (r0 : Int)) = patS false ((r0 + 1 : Nat) : Int) := by
    rw [next_pos (by omega) hr]; rfl
  obtain ⟨lo, hi, l0⟩ := R
  refine ⟨(patS_facts (by omega) (by omega) (fun h => by cases h)).1, ?_, by rw [hv]; exact lo, ?_, fun h => ?_⟩
  · rw [patS_pok (by omega) (by omega) (fun h => by cases h)]; exact decide_eq_true hr
  · rw [hv, decide_eq_false_iff_not, Classical.not_not, l0]
    exact ⟨Eq.symm, Eq.symm⟩
  · rw [hnx] at h ⊢
    have h1 := pok_pos (by omega) (k_le hr) h
    rw [(patV_patS (ng := false) h1 (fun h => by cases h)).trans (sgF _)]
    exact hi
theorem patV_rg {b : Int} (hb : rng b) (hp : pok b = true) : ∃ (ng : Bool) (r : Nat), (r : Int) = rg b ∧ (r : Int) < 9218868437227405312 ∧ patV b = sg ng (vS r) := by
  obtain ⟨r0, r1⟩ := rg_parts hb
  have hlt : rg b < 9218868437227405312 := by
    have hne := pparts hp
    have hf : 0 ≤ frc b ∧ frc b < 4503599627370496 := by unfold frc; omega
    have hg : 0 ≤ fld b ∧ fld b < 2048 := by unfold fld; omega
    omega
  obtain ⟨r, hr⟩ : ∃ r : Nat, (r : Int) = rg b := ⟨(rg b).toNat, Int.toNat_of_nonneg r0⟩
  have hs : b = patS (decide (b < 0)) (r : Int) := by
    rw [hr]
    unfold patS rg
    by_cases h : b < 0
    · rw [decide_eq_true h, if_pos rfl, if_pos h]; omega
    · rw [decide_eq_false h, if_neg (by decide), if_neg h]
  refine ⟨decide (b < 0), r, hr, by rw [hr]; exact hlt, ?_⟩
  rw [← hr] at hlt
  cases hd : decide (b < 0)
  · rw [hd] at hs
    rw [hs]
    exact patV_patS hlt (fun h => by cases h)
  · rw [hd] at hs
    rw [hs]
    exact patV_neg hlt
theorem canon_abs {b : Int} (hb : rng b) (hp : pok b = true) : canon (abs b) = rg b := by
  obtain ⟨_, _, hr, hlt, _⟩ := patV_rg hb hp
  rw [hr] at hlt
  have hc : cls b ≠ 4 := fun h => by have := (cls_rg hb).1.1 h; omega
  have ha : abs b = rg b := by unfold abs rg; rw [if_neg hc]
  obtain ⟨r0, _⟩ := rg_parts hb
  have hrr : rng (rg b) := by unfold rng; omega
  have hrg : rg (rg b) = rg b := by
    have h2 : rg (rg b) = if rg b < 0 then rg b + 9223372036854775808 else rg b := rfl
    rw [h2, if_neg (by omega)]
  rw [ha]
  unfold canon
  rw [if_neg (fun h => by have := (cls_rg hrr).1.1 h; rw [hrg] at this; omega)]
  by_cases h0 : cls (rg b) = 0
  · rw [if_pos h0]
    have := (cls_rg hrr).2.1 h0
    rw [hrg] at this
    omega
  · rw [if_neg h0]
theorem sg_sq (g : Bool) (a : Int) : sg g a * sg g a = a * a := by
  cases g
  · rfl
  · show -a * -a = a * a
    rw [Int.neg_mul_neg]
/-- The root of a float's square is the float's size. -/
theorem root_back {x : NumR} {s b : Int} (ok : okR x = true) (hs : IsRoot (scV (val x.d x.n) (tK (val x.d x.n) x.e)) s) (hb : rng b) (hp : pok b = true) (h : val x.d x.n * (pw x.e * pw 0) = patV b * patV b) : tR64 0 x s = (canon (abs b), false) := by
  obtain ⟨r0, left, hR, hE⟩ := root_rung (way := 0) ok hs
  obtain ⟨ng, r, hr, hlt, hv⟩ := patV_rg hb hp
  rw [h, hv, sg_sq] at hR
  have e := hR.unique (rungR_sq r)
  subst e
  have hl := hR.l0.2 rfl
  subst hl
  have hz : rTo 0 false r0 0 = (r0 : Int) := by
    unfold rTo
    rw [if_pos hlt]
    cases hu : rUp 0 false (decide (r0 % 2 = 1)) 0
    · simp
    · exact (rUp_left hu).elim
  rw [hE, hz, canon_abs hb hp, ← hr]
  rw [decide_eq_false (p := (0 : Int) ≠ 0) (fun h => h rfl), decide_eq_false (p := 9218868437227405312 ≤ (r0 : Int)) (Int.not_le.2 hlt)]
  rfl
end Go.Proofs.YtjlmpgbadgkgmaaDoor

/-
  Plain mathematics: the sum of two floats is the exact sum, rounded to the nearest. No Go text in sight.
-/
namespace Go.Proofs.YtjlmpgbadgkgmaaDoor
open Go Go.RowKit Go.Proofs.YtjlmpgbadgkgmaaDoor.M Ieee
set_option linter.unusedSimpArgs false
set_option linter.unusedVariables false

theorem wd_word {ng : Bool} {r : Int} (h0 : 0 ≤ r) (h1 : r ≤ 9218868437227405312) : Ieee.double.word ng r.toNat = wd (patS ng r) := by
  unfold Format.word wd patS
  rw [dSign]
  cases ng
  · rw [if_neg (by decide), if_neg (by decide)]; omega
  · rw [if_pos rfl, if_pos rfl]; omega
theorem rg_lt {b : Int} (hb : rng b) (hp : pok b = true) : 0 ≤ rg b ∧ rg b < 9218868437227405312 := by
  obtain ⟨_, r, hr, hlt, _⟩ := patV_rg hb hp
  omega
theorem patV_dec {b : Int} (hb : rng b) (hp : pok b = true) : patV b = sg (decide (b < 0)) (vS (rg b).toNat) := by
  obtain ⟨h0, h1⟩ := rg_lt hb hp
  obtain ⟨r, hr⟩ : ∃ r : Nat, (r : Int) = rg b := ⟨(rg b).toNat, Int.toNat_of_nonneg h0⟩
  have hs : b = patS (decide (b < 0)) (r : Int) := by
    rw [hr]
    unfold patS rg
    by_cases h : b < 0
    · rw [decide_eq_true h, if_pos rfl, if_pos h]; omega
    · rw [decide_eq_false h, if_neg (by decide), if_neg h]
  rw [← hr] at h1 ⊢
  rw [Int.toNat_natCast]
  cases hd : decide (b < 0)
  · rw [hd] at hs
    rw [hs]
    exact patV_patS h1 (fun h => by cases h)
  · rw [hd] at hs
    rw [hs]
    exact patV_neg h1
/-- A finite word's reading. -/
theorem read_wd {b : Int} (hb : rng b) (hp : pok b = true) : ∃ m u : Nat, Ieee.double.read (wd b) = .number (decide (b < 0)) m (-1074 + (u : Int)) ∧ patV b = sg (decide (b < 0)) ((m : Int) * pw (-1074 + (u : Int))) := by
  obtain ⟨h0, h1⟩ := rg_lt hb hp
  have hw : ((wd b % 9223372036854775808 : Nat) : Int) = rg b := wd_rung hb
  have hw2 : wd b % 9223372036854775808 = (rg b).toNat := by omega
  obtain ⟨m, u, h, hm⟩ := read_finite Ieee.double (wd b) (by rw [dSign, dInf]; omega)
  rw [dSign, dLeast, wd_neg hb] at h
  rw [dSign, hw2] at hm
  refine ⟨m, u, h, ?_⟩
  have e : vS (rg b).toNat = (m : Int) * pw (-1074 + (u : Int)) := by
    unfold vS
    rw [← hm, pw_add (by decide), Int.mul_comm (pw (-1074))]
    generalize pw (-1074) = q
    push_cast
    rw [Int.mul_assoc]
  rw [patV_dec hb hp, e]
theorem signed_pw (s : Bool) (m k : Nat) {i base : Int} (h : i = base + (k : Int)) (hb : -4194304 ≤ base) : signed s m k * pw base = sg s ((m : Int) * pw i) := by
  rw [signed_V, h, pw_add hb, Int.mul_comm (pw base), ← Int.mul_assoc]
  have e : ((m * 2 ^ k : Nat) : Int) = (m : Int) * 2 ^ k := by push_cast; rfl
  rw [e]
  generalize (m : Int) * 2 ^ k = t
  unfold sg
  cases s
  · rfl
  · show -t * pw base = -(t * pw base)
    rw [Int.neg_mul]
theorem natAbs_sg {t q : Int} (hq : 0 < q) : t * q = sg (decide (t < 0)) ((t.natAbs : Int) * q) := by
  by_cases h : t < 0
  · rw [decide_eq_true h]
    show t * q = -((t.natAbs : Int) * q)
    rw [← Int.neg_mul, show -(t.natAbs : Int) = t by omega]
  · rw [decide_eq_false h]
    show t * q = (t.natAbs : Int) * q
    rw [show (t.natAbs : Int) = t by omega]
theorem lt_zero_iff {t q : Int} (hq : 0 < q) : t < 0 ↔ t * q < 0 := by
  constructor
  · exact fun h => Int.mul_neg_of_neg_of_pos h hq
  · intro h
    rcases Int.lt_or_le t 0 with g | g
    · exact g
    · exact absurd h (Int.not_lt.2 (Int.mul_nonneg g (Int.le_of_lt hq)))
theorem eq_zero_iff {t q : Int} (hq : 0 < q) : t = 0 ↔ t * q = 0 := by
  constructor
  · intro h; rw [h, Int.zero_mul]
  · intro h
    rcases Int.mul_eq_zero.1 h with g | g
    · exact g
    · omega
/-- What is written of a number that is told by its sign, size and place. -/
theorem write_near {S t base : Int} (hb : -4194304 ≤ base) (hS : t * pw base = S) (h0 : S ≠ 0) :
    ∃ (A : Int) (r0 : Nat) (left : Int), S = sg (decide (S < 0)) A ∧ Rung A r0 left ∧ Ieee.double.nearest (decide (t < 0)) t.natAbs base = wd (patS (decide (S < 0)) (rTo 0 (decide (S < 0)) r0 left)) := by
  have hq := pw_pos base
  have ht : t ≠ 0 := fun h => h0 (by rw [← hS, h, Int.zero_mul])
  have hd : decide (t < 0) = decide (S < 0) := by rw [← hS]; congr 1; exact propext (lt_zero_iff hq)
  obtain ⟨r0, left, hR, hE⟩ := nearest_rung (decide (t < 0)) (mag := t.natAbs) (place := base) (by omega) hb
  refine ⟨_, r0, left, ?_, hR, ?_⟩
  · rw [← hd, ← hS]; exact natAbs_sg hq
  · rw [hE, hd]
    obtain ⟨g1, g2⟩ := rTo_range 0 (decide (S < 0)) r0 left
    exact wd_word g1 g2
theorem fadd {a b : Int} (ha : rng a) (hb : rng b) (pa : pok a = true) (pb : pok b = true) :
    (patV a + patV b = 0 → Ieee.double.add (wd a) (wd b) = some (wd (patS (decide (a < 0) && decide (b < 0)) 0))) ∧
    (patV a + patV b ≠ 0 → ∃ (A : Int) (r0 : Nat) (left : Int), patV a + patV b = sg (decide (patV a + patV b < 0)) A ∧ Rung A r0 left ∧ Ieee.double.add (wd a) (wd b) = some (wd (patS (decide (patV a + patV b < 0)) (rTo 0 (decide (patV a + patV b < 0)) r0 left)))) := by
  obtain ⟨m, u, h1, v1⟩ := read_wd ha pa
  obtain ⟨n, v, h2, v2⟩ := read_wd hb pb
  have hadd : Ieee.double.add (wd a) (wd b) = some (Ieee.double.nearest (if signed (decide (a < 0)) m (u - min u v) + signed (decide (b < 0)) n (v - min u v) = 0 then decide (a < 0) && decide (b < 0) else decide (signed (decide (a < 0)) m (u - min u v) + signed (decide (b < 0)) n (v - min u v) < 0)) (signed (decide (a < 0)) m (u - min u v) + signed (decide (b < 0)) n (v - min u v)).natAbs (-1074 + ((min u v : Nat) : Int))) := by
    unfold Format.add
    rw [h1, h2]
    unfold Datum.sum
    dsimp only
    have hmin : min (-1074 + (u : Int)) (-1074 + (v : Int)) = -1074 + ((min u v : Nat) : Int) := by omega
    have e1 : (-1074 + (u : Int) - (-1074 + ((min u v : Nat) : Int))).toNat = u - min u v := by omega
    have e2 : (-1074 + (v : Int) - (-1074 + ((min u v : Nat) : Int))).toNat = v - min u v := by omega
    rw [hmin, e1, e2]
    rfl
  have s1 := signed_pw (decide (a < 0)) m (u - min u v) (i := -1074 + (u : Int)) (base := -1074 + ((min u v : Nat) : Int)) (by omega) (by omega)
  have s2 := signed_pw (decide (b < 0)) n (v - min u v) (i := -1074 + (v : Int)) (base := -1074 + ((min u v : Nat) : Int)) (by omega) (by omega)
  rw [← v1] at s1
  rw [← v2] at s2
  have hB : -4194304 ≤ -1074 + ((min u v : Nat) : Int) := by omega
  generalize -1074 + ((min u v : Nat) : Int) = base at *
  have hq := pw_pos base
  have hS : (signed (decide (a < 0)) m (u - min u v) + signed (decide (b < 0)) n (v - min u v)) * pw base = patV a + patV b := by rw [Int.add_mul, s1, s2]
  generalize signed (decide (a < 0)) m (u - min u v) + signed (decide (b < 0)) n (v - min u v) = t at *
  clear s1 s2 v1 v2 h1 h2
  refine ⟨fun h => ?_, fun h => ?_⟩
  · have ht : t = 0 := (eq_zero_iff hq).2 (hS.trans h)
    rw [hadd, ht, if_pos rfl]
    unfold Format.nearest
    rw [if_pos (show Int.natAbs 0 = 0 from rfl)]
    have := wd_word (ng := decide (a < 0) && decide (b < 0)) (r := 0) (by decide) (by decide)
    rw [← this]
    rfl
  · have ht : t ≠ 0 := fun e => h (by rw [← hS, e, Int.zero_mul])
    obtain ⟨A, r0, left, q1, q2, q3⟩ := write_near hB hS h
    refine ⟨A, r0, left, q1, q2, ?_⟩
    rw [hadd, if_neg ht, q3]
end Go.Proofs.YtjlmpgbadgkgmaaDoor

/-
  Plain mathematics: the product of two floats is the exact product, rounded to the nearest; what is no number, what is infinite. No Go text in sight.
-/
namespace Go.Proofs.YtjlmpgbadgkgmaaDoor
open Go Go.RowKit Go.Proofs.YtjlmpgbadgkgmaaDoor.M Ieee
set_option linter.unusedSimpArgs false
set_option linter.unusedVariables false

theorem fmul_core {g h : Bool} {x y p q r Z : Int} (e : p * q = r * Z) : sg (g != h) (x * y * r) * Z = sg g (x * p) * sg h (y * q) := by
  rw [sg_mul, sg_prod]
  congr 1
  rw [Int.mul_assoc (x * y), ← e, Int.mul_assoc x y, Int.mul_assoc x p]
  congr 1
  rw [← Int.mul_assoc, ← Int.mul_assoc, Int.mul_comm y p]
theorem xor_ne (g h : Bool) : (g ^^ h) = (g != h) := by cases g <;> cases h <;> rfl
/-- The product: C is the exact one. -/
theorem fmul {a b : Int} (ha : rng a) (hb : rng b) (pa : pok a = true) (pb : pok b = true) :
    ∃ D : Int, 0 ≤ D ∧ sg (decide (a < 0) != decide (b < 0)) D * 2 ^ 4194304 = patV a * patV b ∧
      (D = 0 → Ieee.double.mul (wd a) (wd b) = some (wd (patS (decide (a < 0) != decide (b < 0)) 0))) ∧
      (D ≠ 0 → ∃ (r0 : Nat) (left : Int), Rung D r0 left ∧ Ieee.double.mul (wd a) (wd b) = some (wd (patS (decide (a < 0) != decide (b < 0)) (rTo 0 (decide (a < 0) != decide (b < 0)) r0 left)))) := by
  obtain ⟨m, u, h1, v1⟩ := read_wd ha pa
  obtain ⟨n, v, h2, v2⟩ := read_wd hb pb
  have hmul : Ieee.double.mul (wd a) (wd b) = some (Ieee.double.nearest (decide (a < 0) != decide (b < 0)) (m * n) (-1074 + (u : Int) + (-1074 + (v : Int)))) := by
    unfold Format.mul
    rw [h1, h2]
    unfold Datum.product
    dsimp only
    rw [xor_ne]
    rfl
  have hpm := pw_mul (a := -1074 + (u : Int)) (b := -1074 + (v : Int)) (by omega) (by omega)
  have hB : -4194304 ≤ -1074 + (u : Int) + (-1074 + (v : Int)) := by omega
  have hq := pw_pos (-1074 + (u : Int) + (-1074 + (v : Int)))
  have hC := fmul_core (g := decide (a < 0)) (h := decide (b < 0)) (x := (m : Int)) (y := (n : Int)) hpm
  rw [← v1, ← v2] at hC
  generalize -1074 + (u : Int) + (-1074 + (v : Int)) = base at *
  have hcast : ((m * n : Nat) : Int) = (m : Int) * (n : Int) := by push_cast; rfl
  refine ⟨(m : Int) * (n : Int) * pw base, Int.mul_nonneg (by rw [← hcast]; omega) (Int.le_of_lt hq), hC, fun h => ?_, fun h => ?_⟩
  · have h0 : m * n = 0 := by
      rcases Int.mul_eq_zero.1 h with g | g
      · rw [← hcast] at g; omega
      · omega
    rw [hmul, h0]
    unfold Format.nearest
    rw [if_pos rfl]
    have := wd_word (ng := decide (a < 0) != decide (b < 0)) (r := 0) (by decide) (by decide)
    rw [← this]
    rfl
  · have h0 : m * n ≠ 0 := fun e => h (by rw [← hcast, e]; simp)
    obtain ⟨r0, left, hR, hE⟩ := nearest_rung (decide (a < 0) != decide (b < 0)) (place := base) h0 hB
    rw [hcast] at hR
    refine ⟨r0, left, hR, ?_⟩
    rw [hmul, hE]
    obtain ⟨g1, g2⟩ := rTo_range 0 (decide (a < 0) != decide (b < 0)) r0 left
    rw [wd_word g1 g2]
end Go.Proofs.YtjlmpgbadgkgmaaDoor

/-
  The model's operations on floats, by a law each: a float that is told, or one of the words of no number.
-/
namespace Go.Proofs.YtjlmpgbadgkgmaaDoor
open Go Go.RowKit Go.Proofs.YtjlmpgbadgkgmaaDoor.M Ieee
set_option linter.unusedSimpArgs false
set_option linter.unusedVariables false

/-- A word of no number. -/
def NanW (z : Nat) : Prop := z < 18446744073709551616 ∧ 9218868437227405312 < z % 9223372036854775808
theorem nan_cut (x y t : Nat) : NanW ((Question.nanBits .f64 x y).cut t) := by
  have h : (Question.nanBits .f64 x y).cut t = (t % 2) * 2 ^ 63 + 0x7ff0000000000000 + 1 + (t / 2) % (2 ^ 52 - 1) := rfl
  have e63 : (2 : Nat) ^ 63 = 9223372036854775808 := by decide
  have e52 : (2 : Nat) ^ 52 - 1 = 4503599627370495 := by decide
  rw [h, e63, e52]
  have hc := Nat.mod_lt (t / 2) (show 0 < 4503599627370495 by decide)
  have hm : t % 2 = 0 ∨ t % 2 = 1 := by omega
  generalize t / 2 % 4503599627370495 = c at *
  unfold NanW
  rcases hm with h2 | h2
  · rw [h2]; omega
  · rw [h2]; omega
theorem run_farith {P : Program} (op : BinOp) (ho : op = .add ∨ op = .sub ∨ op = .mul ∨ op = .quo) (t : TypeId) (x y : Nat) (w : World) :
    ∃ z w', (binOp op t (.float .f64 x) (.float .f64 y)).run P w = .ok (.float .f64 z) w' ∧ ((floatBits op .f64 x y = some z ∧ w' = w) ∨ (floatBits op .f64 x y = none ∧ NanW z ∧ w' = w.drew)) := by
  cases h : floatBits op .f64 x y with
  | some r => exact ⟨r, w, run_float_arith w op t .f64 x y r h, .inl ⟨rfl, rfl⟩⟩
  | none =>
    refine ⟨_, w.drew, ?_, .inr ⟨rfl, nan_cut x y (w.tape w.drawn (.nanBits .f64 x y)), rfl⟩⟩
    unfold floatBits at h
    rcases ho with rfl | rfl | rfl | rfl <;> simp only at h <;> simp [binOp, Op.floatArith, h] <;> exact fun hf => absurd (show false = true from hf) (by decide)
end Go.Proofs.YtjlmpgbadgkgmaaDoor

/-
  Sums of floats on patterns: a relation between patterns and the model's words that each sum keeps.
-/
namespace Go.Proofs.YtjlmpgbadgkgmaaDoor
open Go Go.RowKit Go.Proofs.YtjlmpgbadgkgmaaDoor.M Ieee
set_option linter.unusedSimpArgs false
set_option linter.unusedVariables false

/-- A word that stands for a pattern: of no number any of its words. -/
def FW (p : Int) (x : Nat) : Prop := (cls p ≠ 4 ∧ rng p ∧ x = wd p) ∨ (p = 9221120237041090561 ∧ NanW x)
/-- The pattern of a word. -/
def patW (x : Nat) : Int := if x < 9223372036854775808 then (x : Int) else (x : Int) - 18446744073709551616
theorem patW_wd {p : Int} (h : rng p) : patW (wd p) = p := by
  unfold rng at h
  unfold patW wd
  split <;> omega
/-- The pattern nearest to a number that is not 0. -/
def nearP (S : Int) : Int := patW (Ieee.double.nearest (decide (S < 0)) S.natAbs (-4194304))
theorem pw_least : pw (-4194304) = 1 := by unfold pw; rfl
theorem patS_rng {ng : Bool} {r : Int} (h0 : 0 ≤ r) (h1 : r ≤ 9218868437227405312) : rng (patS ng r) ∧ cls (patS ng r) ≠ 4 := by
  have hr : rng (patS ng r) := by unfold rng patS; cases ng <;> simp <;> omega
  refine ⟨hr, fun q => ?_⟩
  have := (cls_rg hr).1.1 q
  unfold rg patS at this
  cases ng
  · simp only [Bool.false_eq_true, if_false] at this; split at this <;> omega
  · simp only [if_true] at this; split at this <;> omega
theorem nearP_rung {S : Int} (h : S ≠ 0) : ∃ (A : Int) (r0 : Nat) (left : Int), S = sg (decide (S < 0)) A ∧ Rung A r0 left ∧ nearP S = patS (decide (S < 0)) (rTo 0 (decide (S < 0)) r0 left) := by
  obtain ⟨A, r0, left, h1, h2, h3⟩ := write_near (S := S) (t := S) (base := -4194304) (by decide) (by rw [pw_least, Int.mul_one]) h
  refine ⟨A, r0, left, h1, h2, ?_⟩
  unfold nearP
  rw [h3]
  obtain ⟨g1, g2⟩ := rTo_range 0 (decide (S < 0)) r0 left
  exact patW_wd (patS_rng g1 g2).1
theorem sg_inj {g : Bool} {A B : Int} (h : sg g A = sg g B) : A = B := by
  cases g
  · exact h
  · exact Int.neg_inj.1 h
/-- A sum, on patterns: to the nearest. -/
def fsum (p q : Int) : Int :=
  if cls p = 4 ∨ cls q = 4 then 9221120237041090561
  else if rg p = 9218868437227405312 then (if rg q = 9218868437227405312 ∧ decide (p < 0) ≠ decide (q < 0) then 9221120237041090561 else p)
  else if rg q = 9218868437227405312 then q
  else if patV p + patV q = 0 then patS (decide (p < 0) && decide (q < 0)) 0 else nearP (patV p + patV q)
theorem pok_rg {p : Int} (hp : rng p) : pok p = true ↔ rg p < 9218868437227405312 := by
  obtain ⟨r0, r1⟩ := rg_parts hp
  have hf : 0 ≤ frc p ∧ frc p < 4503599627370496 := by unfold frc; omega
  have hg : 0 ≤ fld p ∧ fld p < 2048 := by unfold fld; omega
  unfold pok
  simp
  omega
theorem fadd_fin {p q : Int} (hp : rng p) (hq : rng q) (pp : pok p = true) (pq : pok q = true) : Ieee.double.add (wd p) (wd q) = some (wd (if patV p + patV q = 0 then patS (decide (p < 0) && decide (q < 0)) 0 else nearP (patV p + patV q))) := by
  obtain ⟨h0, h1⟩ := fadd hp hq pp pq
  by_cases hS : patV p + patV q = 0
  · rw [if_pos hS]; exact h0 hS
  · rw [if_neg hS]
    obtain ⟨A, r0, left, a1, a2, a3⟩ := h1 hS
    obtain ⟨B, s0, k, b1, b2, b3⟩ := nearP_rung hS
    have hAB := sg_inj (a1.symm.trans b1)
    subst hAB
    obtain ⟨h2, h3⟩ := a2.unique b2
    subst h2 h3
    rw [a3, b3]
theorem read_inf64 {p : Int} (hp : rng p) (h : rg p = 9218868437227405312) : Ieee.double.read (wd p) = .infinity (decide (p < 0)) := by
  have hw : ((wd p % 9223372036854775808 : Nat) : Int) = rg p := wd_rung hp
  have := read_inf Ieee.double dOk (wd p) (by rw [dSign, dInf]; omega)
  rwa [dSign, wd_neg hp] at this
theorem write_inf64 {p : Int} (hp : rng p) (h : rg p = 9218868437227405312) : Ieee.double.write (.infinity (decide (p < 0))) = wd p := by
  unfold Format.write
  dsimp only
  rw [dInf]
  have := wd_word (ng := decide (p < 0)) (r := 9218868437227405312) (by decide) (by decide)
  have e : patS (decide (p < 0)) 9218868437227405312 = p := by
    unfold rg at h
    unfold patS
    by_cases h0 : p < 0
    · rw [if_pos h0] at h; rw [decide_eq_true h0, if_pos rfl]; omega
    · rw [if_neg h0] at h; rw [decide_eq_false h0, if_neg (by decide)]; omega
  rw [e] at this
  exact this
end Go.Proofs.YtjlmpgbadgkgmaaDoor

/-
  The model's sum of two words, on patterns.
-/
namespace Go.Proofs.YtjlmpgbadgkgmaaDoor
open Go Go.RowKit Go.Proofs.YtjlmpgbadgkgmaaDoor.M Ieee
set_option linter.unusedSimpArgs false
set_option linter.unusedVariables false

theorem nan_canon : cls 9221120237041090561 = 4 := by decide
theorem FW.nan {x : Nat} (h : NanW x) : FW 9221120237041090561 x := .inr ⟨rfl, h⟩
theorem FW.pat {p : Int} (h : cls p ≠ 4) (hp : rng p) : FW p (wd p) := .inl ⟨h, hp, rfl⟩
theorem FW.read_nan {p : Int} {x : Nat} (h : FW p x) (h4 : cls p = 4) : ∃ s t, Ieee.double.read x = .nan s t := by
  rcases h with ⟨h, _⟩ | ⟨_, h⟩
  · exact absurd h4 h
  · exact M.read_nan Ieee.double dOk x (by rw [dSign, dInf]; exact h.2)
theorem FW.of {p : Int} {x : Nat} (h : FW p x) (h4 : cls p ≠ 4) : rng p ∧ x = wd p ∧ 0 ≤ rg p ∧ rg p ≤ 9218868437227405312 := by
  rcases h with ⟨_, h1, h2⟩ | ⟨h, _⟩
  · obtain ⟨r0, _⟩ := rg_parts h1
    refine ⟨h1, h2, r0, ?_⟩
    rcases Int.lt_or_le 9218868437227405312 (rg p) with g | g
    · exact absurd ((cls_rg h1).1.2 g) h4
    · exact g
  · rw [h] at h4; exact absurd nan_canon h4
theorem nearP_pat {S : Int} (h : S ≠ 0) : rng (nearP S) ∧ cls (nearP S) ≠ 4 := by
  obtain ⟨A, r0, left, _, _, e⟩ := nearP_rung h
  rw [e]
  obtain ⟨g1, g2⟩ := rTo_range 0 (decide (S < 0)) r0 left
  exact patS_rng g1 g2
/-- The words' sum, on patterns. -/
theorem add_FW {p q : Int} {x y : Nat} (hx : FW p x) (hy : FW q y) : (∃ z, Ieee.double.add x y = some z ∧ FW (fsum p q) z) ∨ (Ieee.double.add x y = none ∧ fsum p q = 9221120237041090561) := by
  by_cases h4 : cls p = 4 ∨ cls q = 4
  · right
    refine ⟨?_, by unfold fsum; rw [if_pos h4]⟩
    unfold Format.add
    rcases h4 with h | h
    · obtain ⟨s, t, e⟩ := hx.read_nan h
      rw [e]
      rfl
    · obtain ⟨s, t, e⟩ := hy.read_nan h
      rw [e]
      cases Ieee.double.read x <;> rfl
  · have h4p : cls p ≠ 4 := fun h => h4 (.inl h)
    have h4q : cls q ≠ 4 := fun h => h4 (.inr h)
    obtain ⟨rp, rfl, p0, p1⟩ := hx.of h4p
    obtain ⟨rq, rfl, q0, q1⟩ := hy.of h4q
    unfold fsum
    rw [if_neg h4]
    by_cases ip : rg p = 9218868437227405312
    · rw [if_pos ip]
      have ep := read_inf64 rp ip
      by_cases iq : rg q = 9218868437227405312
      · have eq := read_inf64 rq iq
        by_cases hs : decide (p < 0) = decide (q < 0)
        · left
          refine ⟨wd p, ?_, ?_⟩
          · unfold Format.add
            rw [ep, eq]
            unfold Datum.sum
            dsimp only
            rw [if_pos hs]
            show some (Ieee.double.write (.infinity (decide (p < 0)))) = _
            rw [write_inf64 rp ip]
          · rw [if_neg (fun h => h.2 hs)]
            exact FW.pat h4p rp
        · right
          refine ⟨?_, by rw [if_pos ⟨iq, hs⟩]⟩
          unfold Format.add
          rw [ep, eq]
          unfold Datum.sum
          dsimp only
          rw [if_neg hs]
          rfl
      · left
        obtain ⟨m, u, eq, _⟩ := read_wd rq ((pok_rg rq).2 (by omega))
        refine ⟨wd p, ?_, ?_⟩
        · unfold Format.add
          rw [ep, eq]
          show some (Ieee.double.write (.infinity (decide (p < 0)))) = _
          rw [write_inf64 rp ip]
        · rw [if_neg (fun h => iq h.1)]
          exact FW.pat h4p rp
    · rw [if_neg ip]
      have pp := (pok_rg rp).2 (by omega)
      by_cases iq : rg q = 9218868437227405312
      · left
        rw [if_pos iq]
        have eq := read_inf64 rq iq
        obtain ⟨m, u, ep, _⟩ := read_wd rp pp
        refine ⟨wd q, ?_, FW.pat h4q rq⟩
        unfold Format.add
        rw [ep, eq]
        show some (Ieee.double.write (.infinity (decide (q < 0)))) = _
        rw [write_inf64 rq iq]
      · left
        rw [if_neg iq]
        refine ⟨_, fadd_fin rp rq pp ((pok_rg rq).2 (by omega)), ?_⟩
        by_cases hS : patV p + patV q = 0
        · rw [if_pos hS]
          obtain ⟨g1, g2⟩ := patS_rng (ng := decide (p < 0) && decide (q < 0)) (r := 0) (by decide) (by decide)
          exact FW.pat g2 g1
        · rw [if_neg hS]
          exact FW.pat (nearP_pat hS).2 (nearP_pat hS).1
/-- The model's sum. -/
theorem run_fsum {P : Program} (t : TypeId) {p q : Int} {x y : Nat} (hx : FW p x) (hy : FW q y) (w : World) :
    ∃ z w', (binOp .add t (.float .f64 x) (.float .f64 y)).run P w = .ok (.float .f64 z) w' ∧ FW (fsum p q) z ∧ (w' = w ∨ w' = w.drew) := by
  obtain ⟨z, w', h, hz⟩ := run_farith (P := P) .add (.inl rfl) t x y w
  refine ⟨z, w', h, ?_⟩
  have hf : floatBits .add .f64 x y = Ieee.double.add x y := rfl
  rw [hf] at hz
  rcases add_FW hx hy with ⟨z', e1, e2⟩ | ⟨e1, e2⟩
  · rcases hz with ⟨h1, h2⟩ | ⟨h1, _⟩
    · rw [e1] at h1; cases h1; exact ⟨e2, .inl h2⟩
    · rw [e1] at h1; cases h1
  · rcases hz with ⟨h1, _⟩ | ⟨_, h2, h3⟩
    · rw [e1] at h1; cases h1
    · rw [e2]; exact ⟨FW.nan h2, .inr h3⟩
end Go.Proofs.YtjlmpgbadgkgmaaDoor
