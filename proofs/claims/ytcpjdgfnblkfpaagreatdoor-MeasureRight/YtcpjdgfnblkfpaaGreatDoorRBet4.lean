/-
  Plain mathematics: down, up, to 0 and to the nearest are neighbours around the number.
-/
import Derived.Test.YtcpjdgfnblkfpaaGreatDoorRBet3
namespace Go.Proofs.YtcpjdgfnblkfpaaGreatDoor
open Go Go.RowKit Go.Proofs.YtcpjdgfnblkfpaaGreatDoor.M
set_option linter.unusedSimpArgs false
set_option linter.unusedVariables false

structure Btw (V : Int) (ng : Bool) (f : Int → Int × Bool) : Prop where
  o2 : (f 2).2 = (f 1).2
  o3 : (f 3).2 = (f 1).2
  o0 : (f 0).2 = (f 1).2
  lo : ¬ ordP V (f 1).1 < 0
  hi : ¬ 0 < ordP V (f 2).1
  ex : (f 1).2 = false → ordP V (f 1).1 = 0 ∧ (f 2).1 = (f 1).1 ∧ (f 3).1 = (f 1).1 ∧ (f 0).1 = (f 1).1
  up : (f 1).2 = true → ordP V (f 1).1 ≠ 0 ∧ canon (next (f 1).1) = (f 2).1 ∧ ((f 0).1 = (f 1).1 ∨ (f 0).1 = (f 2).1) ∧ (ng = false → (f 3).1 = (f 1).1) ∧ (ng = true → (f 3).1 = (f 2).1)
theorem ord_self (a : Int) : ord a a = 0 := by unfold ord; rw [if_neg (by omega), if_neg (by omega)]
/-- What the four ways answer, as rungs: down, up, to 0, to the nearest. -/
theorem Btw.of {V : Int} {ng : Bool} {f : Int → Int × Bool} {o : Bool} {d u z n : Int} (f1 : f 1 = (patS (ng && decide (0 < d)) d, o)) (f2 : f 2 = (patS (ng && decide (0 < u)) u, o)) (f3 : f 3 = (patS (ng && decide (0 < z)) z, o)) (f0 : f 0 = (patS (ng && decide (0 < n)) n, o))
    (lo : ¬ ordP V (patS (ng && decide (0 < d)) d) < 0) (hi : ¬ 0 < ordP V (patS (ng && decide (0 < u)) u)) (ex : o = false → ordP V (patS (ng && decide (0 < d)) d) = 0 ∧ u = d ∧ z = d ∧ n = d)
    (up : o = true → ordP V (patS (ng && decide (0 < d)) d) ≠ 0 ∧ canon (next (patS (ng && decide (0 < d)) d)) = patS (ng && decide (0 < u)) u ∧ (n = d ∨ n = u) ∧ (ng = false → z = d) ∧ (ng = true → z = u)) : Btw V ng f := by
  refine ⟨by rw [f1, f2], by rw [f1, f3], by rw [f1, f0], by rw [f1]; exact lo, by rw [f2]; exact hi, fun h => ?_, fun h => ?_⟩
  · rw [f1] at h
    obtain ⟨a, b, c, e⟩ := ex h
    rw [f1, f2, f3, f0, b, c, e]
    exact ⟨a, rfl, rfl, rfl⟩
  · rw [f1] at h
    obtain ⟨a, b, c, e, g⟩ := up h
    rw [f1, f2, f3, f0]
    refine ⟨a, b, ?_, fun q => by rw [e q], fun q => by rw [g q]⟩
    rcases c with c | c
    · left; rw [c]
    · right; rw [c]
theorem k_top {r : Nat} (h : (r : Int) < 9218868437227405312) (g : ¬ ((r + 1 : Nat) : Int) < 9218868437227405312) : ((r + 1 : Nat) : Int) = 9218868437227405312 := by omega
theorem k_pos (r : Nat) : (0 : Int) < ((r + 1 : Nat) : Int) := by omega
theorem k_le {r : Nat} (h : (r : Int) < 9218868437227405312) : ((r + 1 : Nat) : Int) ≤ 9218868437227405312 := by omega
theorem k_sub (r : Nat) : ((r + 1 : Nat) : Int) - 1 = (r : Int) := by omega
theorem k_one (r : Nat) : ((r + 1 : Nat) : Int) = (r : Int) + 1 := by omega
theorem k_lt {r k : Nat} (hk : (9218868437227405311 : Int) = (k : Int)) (h : ¬ (r : Int) < 9218868437227405312) : k < r := by omega
theorem k_ex : ∃ k : Nat, (9218868437227405311 : Int) = (k : Int) := ⟨9218868437227405311, rfl⟩
theorem k_fin {k : Nat} (hk : (9218868437227405311 : Int) = (k : Int)) : (k : Int) < 9218868437227405312 ∧ (k : Int) + 1 = 9218868437227405312 ∧ (9218868437227405312 : Int) - 1 = (k : Int) := by omega
theorem ord_sg_lt {ng : Bool} {A B : Int} (h : A < B) : ord (sg ng A) (sg ng B) = if ng then 1 else -1 := by
  cases ng
  · exact ord_lt h
  · exact ord_gt (Int.neg_lt_neg h)
theorem ord_sg_gt {ng : Bool} {A B : Int} (h : B < A) : ord (sg ng A) (sg ng B) = if ng then -1 else 1 := by
  cases ng
  · exact ord_gt h
  · exact ord_lt (Int.neg_lt_neg h)
theorem sg_prod (ng : Bool) (a b : Int) : sg ng a * b = sg ng (a * b) := by
  unfold sg
  cases ng
  · rfl
  · exact Int.neg_mul a b
theorem between {x : NumR} (ok : okR x = true) : Btw x.V x.ng (fun way => toR way x) := by
  by_cases h0 : x.n = 0
  · have hz : x.ng = false := by
      have := of_decide_eq_true ok
      rcases this with ⟨_, a, b⟩ | ⟨a, _⟩
      · exact a
      · omega
    have hv : x.V = 0 := by
      have hv : val x.d x.n = 0 := by rw [h0]; rfl
      unfold NumR.V
      rw [hv, sg_zero, Int.zero_mul]
    have hp : ordP x.V (patS (x.ng && decide ((0 : Int) < 0)) 0) = 0 := by
      have := ordP_pat (A := x.V) (ng := x.ng) (r := 0) (by decide)
      rw [vS_zero, hv, hz] at this
      rw [hv, hz]
      exact this
    have hz0 : ∀ way, toR way x = (patS (x.ng && decide ((0 : Int) < 0)) 0, false) := fun way => by
      rw [to_zero ok h0, hz]
      rfl
    exact Btw.of (f := fun way => toR way x) (hz0 1) (hz0 2) (hz0 3) (hz0 0) (by rw [hp]; decide) (by rw [hp]; decide) (fun _ => ⟨hp, rfl, rfl, rfl⟩) (fun h => by cases h)
  · obtain ⟨r0, left, hR, hf⟩ := to_all ok (by omega)
    obtain ⟨A, hA⟩ : ∃ A, val x.d x.n * pw x.e = A := ⟨_, rfl⟩
    rw [hA] at hR
    have hV : x.V = sg x.ng A := by
      unfold NumR.V
      rw [← hA]
      exact sg_prod _ _ _
    clear hA
    have lo := hR.lo
    have hi := hR.hi
    have l0 := hR.l0
    rw [hV]
    by_cases hr : (r0 : Int) < 9218868437227405312
    · obtain ⟨t1, t2, t3, t0⟩ := rTo_fin (ng := x.ng) (left := left) hr
      have ho : (decide (left ≠ 0) || decide (9218868437227405312 ≤ (r0 : Int))) = decide (left ≠ 0) := by rw [decide_eq_false (p := 9218868437227405312 ≤ (r0 : Int)) (Int.not_le.2 hr), Bool.or_false]
      rw [ho] at hf
      have P0 := ordP_pat (A := sg x.ng A) (ng := x.ng) hr
      by_cases hl : left = 0
      · have hAe := l0.1 hl
        have e1 : rTo 1 x.ng r0 left = (r0 : Int) := by rw [t1, if_neg (fun h => h.1 hl)]
        have e2 : rTo 2 x.ng r0 left = (r0 : Int) := by rw [t2, if_neg (fun h => h.1 hl)]
        have e0 : rTo 0 x.ng r0 left = (r0 : Int) := by rcases t0 with h | h; exact h; exact absurd hl h.1
        rw [hAe, ord_self] at P0
        refine Btw.of (f := fun way => toR way x) (hf 1) (hf 2) (hf 3) (hf 0) ?_ ?_ ?_ ?_
        · rw [e1, hAe, P0]; decide
        · rw [e2, hAe, P0]; decide
        · intro _; rw [e1, e2, t3, e0, hAe]; exact ⟨P0, rfl, rfl, rfl⟩
        · intro h; exact absurd hl (of_decide_eq_true h)
      · have hAl : vS r0 < A := by
          rcases Int.lt_or_eq_of_le lo with h | h
          · exact h
          · exact absurd (l0.2 h.symm) hl
        have P1 : ordP (sg x.ng A) (patS (x.ng && decide ((0 : Int) < ((r0 + 1 : Nat) : Int))) ((r0 + 1 : Nat) : Int)) = if x.ng then 1 else -1 := by
          by_cases h1 : ((r0 + 1 : Nat) : Int) < 9218868437227405312
          · rw [ordP_pat h1]
            exact ord_sg_lt hi
          · have e := k_top hr h1
            rw [e]
            exact ordP_inf
        have P0' : ordP (sg x.ng A) (patS (x.ng && decide ((0 : Int) < (r0 : Int))) (r0 : Int)) = if x.ng then -1 else 1 := by
          rw [P0]
          exact ord_sg_gt hAl
        clear hV
        generalize x.ng = ng at *
        cases ng
        · have e1 : rTo 1 false r0 left = (r0 : Int) := by rw [t1, if_neg (fun h => by cases h.2)]
          have e2 : rTo 2 false r0 left = ((r0 + 1 : Nat) : Int) := by rw [t2, if_pos ⟨hl, rfl⟩]
          refine Btw.of (f := fun way => toR way x) (hf 1) (hf 2) (hf 3) (hf 0) ?_ ?_ ?_ ?_
          · rw [e1, P0']; decide
          · rw [e2, P1]; decide
          · intro h; exact absurd hl (by simpa using h)
          · intro _
            rw [e1, e2, t3, P0']
            refine ⟨by decide, ?_, ?_, (fun _ => rfl), (fun h => by cases h)⟩
            · rw [Bool.false_and, Bool.false_and, up_pos (Int.natCast_nonneg _) hr]; exact (k_one r0).symm
            · rcases t0 with h | h
              · exact .inl h
              · exact .inr h.2
        · have e1 : rTo 1 true r0 left = ((r0 + 1 : Nat) : Int) := by rw [t1, if_pos ⟨hl, rfl⟩]
          have e2 : rTo 2 true r0 left = (r0 : Int) := by rw [t2, if_neg (fun h => by cases h.2)]
          refine Btw.of (f := fun way => toR way x) (hf 1) (hf 2) (hf 3) (hf 0) ?_ ?_ ?_ ?_
          · rw [e1, P1]; decide
          · rw [e2, P0']; decide
          · intro h; exact absurd hl (by simpa using h)
          · intro _
            rw [e1, e2, t3, P1]
            refine ⟨by decide, ?_, ?_, (fun h => by cases h), fun _ => rfl⟩
            · rw [Bool.true_and, Bool.true_and, decide_eq_true (p := (0 : Int) < ((r0 + 1 : Nat) : Int)) (k_pos r0), up_neg (k_pos r0) (k_le hr), k_sub]
            · rcases t0 with h | h
              · exact .inr h
              · exact .inl h.2
    · obtain ⟨t1, t2, t3, t0⟩ := rTo_inf (ng := x.ng) (left := left) hr
      have ho : (decide (left ≠ 0) || decide (9218868437227405312 ≤ (r0 : Int))) = true := by rw [decide_eq_true (p := 9218868437227405312 ≤ (r0 : Int)) (Int.not_lt.1 hr), Bool.or_true]
      rw [ho] at hf
      obtain ⟨k, hk⟩ := k_ex
      obtain ⟨hk1, hk2, hk3⟩ := k_fin hk
      have hAl : vS k < A := Int.lt_of_lt_of_le (vS_lt (k_lt hk hr)) lo
      have P0 : ordP (sg x.ng A) (patS (x.ng && decide ((0 : Int) < (k : Int))) (k : Int)) = if x.ng then -1 else 1 := by
        refine (ordP_pat (A := sg x.ng A) (ng := x.ng) hk1).trans ?_
        exact ord_sg_gt hAl
      rw [hk] at t1 t2 t3
      have P1 : ordP (sg x.ng A) (patS (x.ng && decide ((0 : Int) < 9218868437227405312)) 9218868437227405312) = if x.ng then 1 else -1 := ordP_inf
      clear hV hR lo hi l0
      generalize x.ng = ng at *
      cases ng
      · rw [if_neg (by decide)] at t1 t2
        refine Btw.of (f := fun way => toR way x) (hf 1) (hf 2) (hf 3) (hf 0) ?_ ?_ ?_ ?_
        · rw [t1, P0]; decide
        · rw [t2, P1]; decide
        · intro h; cases h
        · intro _
          rw [t1, t2, t3, t0, P0]
          refine ⟨by decide, ?_, .inr rfl, (fun _ => rfl), (fun h => by cases h)⟩
          rw [Bool.false_and, Bool.false_and]
          rw [up_pos (Int.natCast_nonneg _) hk1, hk2]
          rfl
      · rw [if_pos rfl] at t1 t2
        refine Btw.of (f := fun way => toR way x) (hf 1) (hf 2) (hf 3) (hf 0) ?_ ?_ ?_ ?_
        · rw [t1, P1]; decide
        · rw [t2, P0]; decide
        · intro h; cases h
        · intro _
          rw [t1, t2, t3, t0, P1]
          refine ⟨by decide, ?_, .inl rfl, (fun h => by cases h), fun _ => rfl⟩
          rw [Bool.true_and, Bool.true_and]
          rw [decide_eq_true (p := (0 : Int) < 9218868437227405312) (by decide), up_neg (by decide) (Int.le_refl _), hk3]
end Go.Proofs.YtcpjdgfnblkfpaaGreatDoor
