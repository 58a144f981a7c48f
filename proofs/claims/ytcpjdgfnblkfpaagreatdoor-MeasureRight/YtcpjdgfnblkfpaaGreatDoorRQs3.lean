/-
  Plain mathematics: what Quot answers by Down, and its neighbour above.
-/
import Derived.Test.YtcpjdgfnblkfpaaGreatDoorRQs2
namespace Go.Proofs.YtcpjdgfnblkfpaaGreatDoor
open Go Go.RowKit Go.Proofs.YtcpjdgfnblkfpaaGreatDoor.M
set_option linter.unusedSimpArgs false
set_option linter.unusedVariables false

theorem r64_zero (way e : Int) : r64 way false false 0 e false = (0, false) := by
  have HR : r64 way false false 0 e false = (let E := rE 53 (-1074) 0 e
    let u := rU 0 (E - e)
    let left := rL 0 false (E - e)
    let U := u + (if rUp way false (decide (u % 2 = 1)) left then 1 else 0)
    let neg := false && (decide (0 < U) || false)
    if jk 52 2047 (-1074) U E then (jp neg U E, decide (left ≠ 0)) else (patS neg (bRung way neg), true)) := rfl
  rw [HR]
  generalize rE 53 (-1074) 0 e = E
  have hu : rU 0 (E - e) = 0 := by unfold rU; split <;> simp
  have hl : rL 0 false (E - e) = 0 := by unfold rL; split <;> simp
  simp only [hu, hl]
  have hr : rUp way false (decide (0 % 2 = 1)) 0 = false := by
    cases h : rUp way false (decide (0 % 2 = 1)) 0
    · rfl
    · exact absurd h (fun q => rUp_left q)
  rw [hr]
  rfl
theorem rungS_zero_aux {a b : Int} (h0 : a = 0) (h1 : 0 < b) : a ≤ 0 ∧ (0 : Int) < b ∧ (((0 : Int) = 0 ↔ (0 : Int) = a) ∧ ((0 : Int) = 1 ↔ a < 0 ∧ 2 * 0 < a + b) ∧ ((0 : Int) = 2 ↔ 2 * 0 = a + b) ∧ ((0 : Int) = 3 ↔ a + b < 2 * 0)) := by
  subst h0
  exact ⟨Int.le_refl _, h1, by omega, by omega, by omega, by omega⟩
theorem rungS_zero {S : Int} (hS : 0 < S) : RungS S 0 0 0 := by
  have h1 := vS_lt (show 0 < 0 + 1 by decide)
  have h0 : vS 0 * S = 0 := by rw [vS_zero, Int.zero_mul]
  rw [vS_zero] at h1
  obtain ⟨p, q, a, b, c, d⟩ := rungS_zero_aux h0 (Int.mul_pos h1 hS)
  exact ⟨p, q, a, b, c, d⟩
/-- What Quot answers, by the quotient's rung. -/
theorem quot_rung {way : Int} {a b : NumR} (oa : okR a = true) (ob : okR b = true) (hb0 : 0 < b.n) (hbg : b.ng = false) :
    ∃ (r0 : Nat) (left : Int), RungS (val b.d b.n * pw b.e) (val a.d a.n * (pw a.e * pw 0)) r0 left ∧ qR64 way a b = (patS (a.ng && decide (0 < rTo way a.ng r0 left)) (rTo way a.ng r0 left), decide (left ≠ 0) || decide (9218868437227405312 ≤ (r0 : Int))) := by
  obtain ⟨na, hn, ea0, ea1⟩ := okR_sane oa
  obtain ⟨nb, hm, eb0, eb1⟩ := okR_sane ob
  have hB := val_pos nb hb0
  have hS : 0 < val b.d b.n * pw b.e := Int.mul_pos hB (pw_pos _)
  have hng : (a.ng != b.ng) = a.ng := by rw [hbg]; cases a.ng <;> rfl
  by_cases h0 : a.n = 0
  · have hv : val a.d a.n = 0 := by rw [h0]; rfl
    have hz : a.ng = false := by
      have := of_decide_eq_true oa
      rcases this with ⟨_, q, _⟩ | ⟨q, _⟩
      · exact q
      · omega
    refine ⟨0, 0, ?_, ?_⟩
    · rw [hv, Int.zero_mul]; exact rungS_zero hS
    · unfold qR64
      rw [hng, hz, hv]
      have e1 : (scV 0 (qK 0 (val b.d b.n)) / val b.d b.n).toNat = 0 := by
        have : scV 0 (qK 0 (val b.d b.n)) = 0 := by unfold scV; split <;> simp
        rw [this]; simp
      have e2 : (scC 0 (qK 0 (val b.d b.n)) || decide (scV 0 (qK 0 (val b.d b.n)) % val b.d b.n ≠ 0)) = false := by
        have : scV 0 (qK 0 (val b.d b.n)) = 0 := by unfold scV; split <;> simp
        rw [this]
        unfold scC; split <;> simp
      rw [e1, e2, r64_zero, rTo_zero]
      rfl
  · have hA := val_pos na (by omega)
    have hAl := blen_nrm na
    have hBl := blen_nrm nb
    have hh := held_quot (Int.le_of_lt hA) hB ea0 ea1 eb0 eb1 (by omega) (by omega)
    have hsm := qK_small (Int.le_of_lt hA) hB
    have hbig := scV_big hA hB
    have hqk : qK (val a.d a.n) (val b.d b.n) = 62 + (blen (val b.d b.n) : Int) - (blen (val a.d a.n) : Int) := rfl
    have e61 : (2 : Int) ^ 61 = 2305843009213693952 := by decide
    have e64 : (2 : Nat) ^ 64 = 18446744073709551616 := by decide
    have e60 : (2 : Nat) ^ 60 = 1152921504606846976 := by decide
    rw [e61] at hbig
    obtain ⟨r0, left, hR, hE⟩ := r64_specS (way := way) (ng := a.ng) (sd := false) (mag := (scV (val a.d a.n) (qK (val a.d a.n) (val b.d b.n)) / val b.d b.n).toNat) (exp := a.e - b.e - qK (val a.d a.n) (val b.d b.n)) (cut := scC (val a.d a.n) (qK (val a.d a.n) (val b.d b.n)) || decide (scV (val a.d a.n) (qK (val a.d a.n) (val b.d b.n)) % val b.d b.n ≠ 0)) (by omega) (by omega) (by omega) (fun _ => by omega)
    refine ⟨r0, left, hR _ _ hS hh, ?_⟩
    unfold qR64
    rw [hng, hE, Bool.or_false]
/-- What RoundQuots asks of an answer by Down: U / S is the quotient. -/
structure Quo (U S d : Int) (o : Bool) : Prop where
  rg : rng d
  fin : pok d = true → patV d * S ≤ U ∧ (patV d * S = U ↔ o = false)
  nxt : pok (next d) = true → U < patV (next d) * S
  neg : pok d = false → d < 0
theorem next_pos {r : Int} (h0 : 0 ≤ r) (h1 : r < 9218868437227405312) : next (patS false r) = patS false (r + 1) := by
  have hc := cls_pat (s := false) (r := r) h0 (by omega) (fun h => by cases h)
  unfold next
  rw [if_neg hc]
  show (if r = 9218868437227405312 then r else if r = -9223372036854775808 then 1 else if r < 0 then r - 1 else r + 1) = r + 1
  rw [if_neg (by omega), if_neg (by omega), if_neg (by omega)]
theorem next_neg {r : Int} (h0 : 0 < r) (h1 : r ≤ 9218868437227405312) : next (patS true r) = patS true (r - 1) := by
  have hc := cls_pat (s := true) (r := r) (by omega) h1 (fun _ => h0)
  unfold next
  rw [if_neg hc]
  show (if r - 9223372036854775808 = 9218868437227405312 then r - 9223372036854775808 else if r - 9223372036854775808 = -9223372036854775808 then 1 else if r - 9223372036854775808 < 0 then r - 9223372036854775808 - 1 else r - 9223372036854775808 + 1) = r - 1 - 9223372036854775808
  rw [if_neg (by omega), if_neg (by omega), if_pos (by omega)]
  omega
theorem pmag_nz : pmag (-9223372036854775808) = 0 := by decide
theorem patV_neg {r : Nat} (h : (r : Int) < 9218868437227405312) : patV (patS true (r : Int)) = sg true (vS r) := by
  by_cases h0 : r = 0
  · subst h0
    rw [vS_zero]
    show patV (-9223372036854775808) = sg true 0
    unfold patV
    rw [pmag_nz, sg_zero, sg_zero, Int.zero_mul]
  · exact patV_patS h (fun _ => by omega)
theorem pok_pos {r : Int} (h0 : 0 ≤ r) (h1 : r ≤ 9218868437227405312) (h : pok (patS false r) = true) : r < 9218868437227405312 := by
  rw [patS_pok h0 h1 (fun q => by cases q)] at h
  exact of_decide_eq_true h
/-- The cases of an answer by Down. -/
theorem Quo.pos {S A : Int} {r : Nat} {o : Bool} (hr : (r : Int) < 9218868437227405312) (lo : vS r * S ≤ A) (eq : vS r * S = A ↔ o = false) (hi : ((r + 1 : Nat) : Int) < 9218868437227405312 → A < vS (r + 1) * S) : Quo A S (patS false (r : Int)) o := by
  have hv : patV (patS false (r : Int)) = vS r := by
    have := patV_patS (ng := false) hr (fun h => by cases h)
    rw [this]
    unfold sg
    rw [if_neg (by decide)]
  have hnx : next (patS false (r : Int)) = patS false ((r + 1 : Nat) : Int) := by
    rw [next_pos (by omega) hr]; rfl
  refine ⟨(patS_facts (by omega) (by omega) (fun h => by cases h)).1, fun _ => ?_, fun h => ?_, fun h => ?_⟩
  · rw [hv]; exact ⟨lo, eq⟩
  · rw [hnx] at h ⊢
    have h1 := pok_pos (by omega) (by omega) h
    have := patV_patS (ng := false) h1 (fun h => by cases h)
    rw [this]
    unfold sg
    rw [if_neg (by decide)]
    exact hi h1
  · exfalso
    rw [patS_pok (by omega) (by omega) (fun h => by cases h)] at h
    exact absurd hr (of_decide_eq_false h)
theorem neg_le_aux {p A : Int} (h : A ≤ p) : -p ≤ -A := by omega
theorem sgT_mul (v S : Int) : sg true v * S = -(v * S) := by
  unfold sg
  rw [if_pos rfl, Int.neg_mul]
theorem neg_eq_iff {a b : Int} : -a = -b ↔ a = b := by omega
theorem Quo.neg' {S A : Int} {r : Nat} {o : Bool} (h0 : 0 < r) (hr : (r : Int) ≤ 9218868437227405312) (lo : (r : Int) < 9218868437227405312 → A ≤ vS r * S ∧ (vS r * S = A ↔ o = false)) (hi : vS (r - 1) * S < A) : Quo (-A) S (patS true (r : Int)) o := by
  have hnx : next (patS true (r : Int)) = patS true ((r - 1 : Nat) : Int) := by
    rw [next_neg (by omega) hr]; congr 1; omega
  refine ⟨(patS_facts (by omega) hr (fun _ => by omega)).1, fun h => ?_, fun h => ?_, fun h => ?_⟩
  · rw [patS_pok (by omega) hr (fun _ => by omega)] at h
    have h1 := of_decide_eq_true h
    obtain ⟨l1, l2⟩ := lo h1
    rw [patV_neg h1, sgT_mul]
    exact ⟨neg_le_aux l1, neg_eq_iff.trans l2⟩
  · rw [hnx, patV_neg (by omega), sgT_mul]
    exact Int.neg_lt_neg hi
  · exact ((patS_facts (by omega) hr (fun _ => by omega)).2.2).2 rfl
theorem k_cast {k : Nat} (hk2 : (k : Int) + 1 = 9218868437227405312) : (9218868437227405312 : Int) = ((k + 1 : Nat) : Int) ∧ ¬ ((k + 1 : Nat) : Int) < 9218868437227405312 ∧ ((k + 1 : Nat) : Int) ≤ 9218868437227405312 := by omega
theorem k_low {r : Nat} (h : 0 < r) : (0 : Int) < (r : Int) ∧ r - 1 < r := by omega
theorem quo_of {S A : Int} {r0 : Nat} {left : Int} {ng : Bool} (hS : 0 < S) (R : RungS S A r0 left) (zA : ng = true → 0 < A) : Quo (sg ng A) S (patS (ng && decide (0 < rTo 1 ng r0 left)) (rTo 1 ng r0 left)) (decide (left ≠ 0) || decide (9218868437227405312 ≤ (r0 : Int))) := by
  obtain ⟨lo, hi, l0, _, _, _⟩ := R
  obtain ⟨k, hk⟩ := k_ex
  obtain ⟨hk1, hk2, hk3⟩ := k_fin hk
  by_cases hr : (r0 : Int) < 9218868437227405312
  · obtain ⟨t1, _, _, _⟩ := rTo_fin (ng := ng) (left := left) hr
    have ho : (decide (left ≠ 0) || decide (9218868437227405312 ≤ (r0 : Int))) = decide (left ≠ 0) := by rw [decide_eq_false (p := 9218868437227405312 ≤ (r0 : Int)) (Int.not_le.2 hr), Bool.or_false]
    rw [ho]
    cases ng
    · have e1 : rTo 1 false r0 left = (r0 : Int) := by rw [t1, if_neg (fun h => by cases h.2)]
      rw [e1, Bool.false_and]
      refine Quo.pos hr lo ?_ (fun _ => hi)
      rw [decide_eq_false_iff_not, Classical.not_not, l0]
      exact ⟨Eq.symm, Eq.symm⟩
    · have hA := zA rfl
      by_cases hl : left = 0
      · have e1 : rTo 1 true r0 left = (r0 : Int) := by rw [t1, if_neg (fun h => h.1 hl)]
        have hAe := l0.1 hl
        have h0 : 0 < r0 := by
          rcases Nat.eq_zero_or_pos r0 with h | h
          · rw [h, vS_zero, Int.zero_mul] at hAe; omega
          · exact h
        rw [e1, Bool.true_and, decide_eq_true (p := (0 : Int) < (r0 : Int)) (k_low h0).1, decide_eq_false (p := left ≠ 0) (fun h => h hl)]
        refine Quo.neg' h0 (Int.le_of_lt hr) (fun _ => ⟨Int.le_of_eq hAe, ⟨fun _ => rfl, fun _ => hAe.symm⟩⟩) ?_
        rw [hAe]
        exact Int.mul_lt_mul_of_pos_right (vS_lt (k_low h0).2) hS
      · have e1 : rTo 1 true r0 left = ((r0 + 1 : Nat) : Int) := by rw [t1, if_pos ⟨hl, rfl⟩]
        rw [e1, Bool.true_and, decide_eq_true (p := (0 : Int) < ((r0 + 1 : Nat) : Int)) (k_pos r0), decide_eq_true (p := left ≠ 0) hl]
        refine Quo.neg' (Nat.succ_pos _) (k_le hr) (fun _ => ⟨Int.le_of_lt hi, ⟨fun h => ?_, fun h => by cases h⟩⟩) ?_
        · rw [h] at hi; exact absurd hi (Int.lt_irrefl _)
        · show vS r0 * S < A
          rcases Int.lt_or_eq_of_le lo with h | h
          · exact h
          · exact absurd (l0.2 h.symm) hl
  · obtain ⟨t1, _, _, _⟩ := rTo_inf (ng := ng) (left := left) hr
    have ho : (decide (left ≠ 0) || decide (9218868437227405312 ≤ (r0 : Int))) = true := by rw [decide_eq_true (p := 9218868437227405312 ≤ (r0 : Int)) (Int.not_lt.1 hr), Bool.or_true]
    rw [ho]
    have hAl : vS k * S < A := Int.lt_of_lt_of_le (Int.mul_lt_mul_of_pos_right (vS_lt (k_lt hk hr)) hS) lo
    cases ng
    · rw [if_neg (by decide), hk] at t1
      rw [t1, Bool.false_and]
      refine Quo.pos hk1 (Int.le_of_lt hAl) ⟨fun h => ?_, fun h => by cases h⟩ (fun h => ?_)
      · rw [h] at hAl; exact absurd hAl (Int.lt_irrefl _)
      · exact absurd h (k_cast hk2).2.1
    · rw [if_pos rfl] at t1
      have e2 := (k_cast hk2).1
      rw [t1, Bool.true_and, decide_eq_true (p := (0 : Int) < 9218868437227405312) (by decide), e2]
      exact Quo.neg' (Nat.succ_pos _) (k_cast hk2).2.2 (fun h => absurd h (k_cast hk2).2.1) hAl
end Go.Proofs.YtcpjdgfnblkfpaaGreatDoor
