/-
  Parts of the proof, one behind another.
-/
import Derived.Test.YtgplnodgndbdeaaDoorPart13
import Derived.Test.YtgplnodgndbdeaaDoorPart8
import Derived.Test.YtgplnodgndbdeaaDoorPart11
import Derived.Test.YtgplnodgndbdeaaDoorPart1
/-
  Plain mathematics: down, up, to 0 and to the nearest are neighbours around the number.
-/
namespace Go.Proofs.YtgplnodgndbdeaaDoor
open Go Go.RowKit Go.Proofs.YtgplnodgndbdeaaDoor.M
set_option linter.unusedSimpArgs false
set_option linter.unusedVariables false

structure Btw (V : Int) (ng : Bool) (f : Int → Int × Bool) : Prop where
  o2 : (f 2).2 = (f 1).2
  o3 : (f 3).2 = (f 1).2
  o0 : (f 0).2 = (f 1).2
  lo : ¬ ordP V (f 1).1 < 0
  hi : ¬ 0 < ordP V (f 2).1
  ex : (f 1).2 = false → ordP V (f 1).1 = 0 ∧ (f 2).1 = (f 1).1 ∧ (f 3).1 = (f 1).1 ∧ (f 0).1 = (f 1).1
  up : (f 1).2 = true → ordP V (f 1).1 ≠ 0 ∧ canon (next (f 1).1) = (f 2).1 ∧ ((f 0).1 = (f 1).1 ∨ (f 0).1 = (f 2).1) ∧ (ng = false → (f 3).1 = (f 1).1) ∧ (ng = true → (f 3).1 = (f 2).1)
theorem ord_self (a : Int) : ord a a = 0 := by unfold ord; rw [if_neg (by omega), if_neg (by omega)]
/-- What the four ways answer, as rungs: down, up, to 0, to the nearest. -/
theorem Btw.of {V : Int} {ng : Bool} {f : Int → Int × Bool} {o : Bool} {d u z n : Int} (f1 : f 1 = (patS (ng && decide (0 < d)) d, o)) (f2 : f 2 = (patS (ng && decide (0 < u)) u, o)) (f3 : f 3 = (patS (ng && decide (0 < z)) z, o)) (f0 : f 0 = (patS (ng && decide (0 < n)) n, o))
    (lo : ¬ ordP V (patS (ng && decide (0 < d)) d) < 0) (hi : ¬ 0 < ordP V (patS (ng && decide (0 < u)) u)) (ex : o = false → ordP V (patS (ng && decide (0 < d)) d) = 0 ∧ u = d ∧ z = d ∧ n = d)
    (up : o = true → ordP V (patS (ng && decide (0 < d)) d) ≠ 0 ∧ canon (next (patS (ng && decide (0 < d)) d)) = patS (ng && decide (0 < u)) u ∧ (n = d ∨ n = u) ∧ (ng = false → z = d) ∧ (ng = true → z = u)) : Btw V ng f := by
  refine ⟨by rw [f1, f2], by rw [f1, f3], by rw [f1, f0], by rw [f1]; exact lo, by rw [f2]; exact hi, fun h => ?_, fun h => ?_⟩
  · rw [f1] at h
    obtain ⟨a, b, c, e⟩ := ex h
    rw [f1, f2, f3, f0, b, c, e]
    exact ⟨a, rfl, rfl, rfl⟩
  · rw [f1] at h
    obtain ⟨a, b, c, e, g⟩ := up h
    rw [f1, f2, f3, f0]
    refine ⟨a, b, ?_, fun q => by rw [e q], fun q => by rw [g q]⟩
    rcases c with c | c
    · left; rw [c]
    · right; rw [c]
theorem k_top {r : Nat} (h : (r : Int) < 9218868437227405312) (g : ¬ ((r + 1 : Nat) : Int) < 9218868437227405312) : ((r + 1 : Nat) : Int) = 9218868437227405312 := by omega
theorem k_pos (r : Nat) : (0 : Int) < ((r + 1 : Nat) : Int) := by omega
theorem k_le {r : Nat} (h : (r : Int) < 9218868437227405312) : ((r + 1 : Nat) : Int) ≤ 9218868437227405312 := by omega
theorem k_sub (r : Nat) : ((r + 1 : Nat) : Int) - 1 = (r : Int) := by omega
theorem k_one (r : Nat) : ((r + 1 : Nat) : Int) = (r : Int) + 1 := by omega
theorem k_lt {r k : Nat} (hk : (9218868437227405311 : Int) = (k : Int)) (h : ¬ (r : Int) < 9218868437227405312) : k < r := by omega
theorem k_ex : ∃ k : Nat, (9218868437227405311 : Int) = (k : Int) := ⟨9218868437227405311, rfl⟩
theorem k_fin {k : Nat} (hk : (9218868437227405311 : Int) = (k : Int)) : (k : Int) < 9218868437227405312 ∧ (k : Int) + 1 = 9218868437227405312 ∧ (9218868437227405312 : Int) - 1 = (k : Int) := by omega
theorem ord_sg_lt {ng : Bool} {A B : Int} (h : A < B) : ord (sg ng A) (sg ng B) = if ng then 1 else -1 := by
  cases ng
  · exact ord_lt h
  · exact ord_gt (Int.neg_lt_neg h)
theorem ord_sg_gt {ng : Bool} {A B : Int} (h : B < A) : ord (sg ng A) (sg ng B) = if ng then -1 else 1 := by
  cases ng
  · exact ord_gt h
  · exact ord_lt (Int.neg_lt_neg h)
theorem sg_prod (ng : Bool) (a b : Int) : sg ng a * b = sg ng (a * b) := by
  unfold sg
  cases ng
  · rfl
  · exact Int.neg_mul a b
theorem between {x : NumR} (ok : okR x = true) : Btw x.V x.ng (fun way => toR way x) := by
  by_cases h0 : x.n = 0
  · have hz : x.ng = false := by
      have := of_decide_eq_true ok
      rcases this with ⟨_, a, b⟩ | ⟨a, _⟩
      · exact a
      · omega
    have hv : x.V = 0 := by
      have hv : val x.d x.n = 0 := by rw [h0]; rfl
      unfold NumR.V
      rw [hv, sg_zero, Int.zero_mul]
    have hp : ordP x.V (patS (x.ng && decide ((0 : Int) < 0)) 0) = 0 := by
      have := ordP_pat (A := x.V) (ng := x.ng) (r := 0) (by decide)
      rw [vS_zero, hv, hz] at this
      rw [hv, hz]
      exact this
    have hz0 : ∀ way, toR way x = (patS (x.ng && decide ((0 : Int) < 0)) 0, false) := fun way => by
      rw [to_zero ok h0, hz]
      rfl
    exact Btw.of (f := fun way => toR way x) (hz0 1) (hz0 2) (hz0 3) (hz0 0) (by rw [hp]; decide) (by rw [hp]; decide) (fun _ => ⟨hp, rfl, rfl, rfl⟩) (fun h => by cases h)
  · obtain ⟨r0, left, hR, hf⟩ := to_all ok (by omega)
    obtain ⟨A, hA⟩ : ∃ A, val x.d x.n * pw x.e = A := ⟨_, rfl⟩
    rw [hA] at hR
    have hV : x.V = sg x.ng A := by
      unfold NumR.V
      rw [← hA]
      exact sg_prod _ _ _
    clear hA
    have lo := hR.lo
    have hi := hR.hi
    have l0 := hR.l0
    rw [hV]
    by_cases hr : (r0 : Int) < 9218868437227405312
    · obtain ⟨t1, t2, t3, t0⟩ := rTo_fin (ng := x.ng) (left := left) hr
      have ho : (decide (left ≠ 0) || decide (9218868437227405312 ≤ (r0 : Int))) = decide (left ≠ 0) := by rw [decide_eq_false (p := 9218868437227405312 ≤ (r0 : Int)) (Int.not_le.2 hr), Bool.or_false]
      rw [ho] at hf
      have P0 := ordP_pat (A := sg x.ng A) (ng := x.ng) hr
      by_cases hl : left = 0
      · have hAe := l0.1 hl
        have e1 : rTo 1 x.ng r0 left = (r0 : Int) := by rw [t1, if_neg (fun h => h.1 hl)]
        have e2 : rTo 2 x.ng r0 left = (r0 : Int) := by rw [t2, if_neg (fun h => h.1 hl)]
        have e0 : rTo 0 x.ng r0 left = (r0 : Int) := by rcases t0 with h | h; exact h; exact absurd hl h.1
        rw [hAe, ord_self] at P0
        refine Btw.of (f := fun way => toR way x) (hf 1) (hf 2) (hf 3) (hf 0) ?_ ?_ ?_ ?_
        · rw [e1, hAe, P0]; decide
        · rw [e2, hAe, P0]; decide
        · intro _; rw [e1, e2, t3, e0, hAe]; exact ⟨P0, rfl, rfl, rfl⟩
        · intro h; exact absurd hl (of_decide_eq_true h)
      · have hAl : vS r0 < A := by
          rcases Int.lt_or_eq_of_le lo with h | h
          · exact h
          · exact absurd (l0.2 h.symm) hl
        have P1 : ordP (sg x.ng A) (patS (x.ng && decide ((0 : Int) < ((r0 + 1 : Nat) : Int))) ((r0 + 1 : Nat) : Int)) = if x.ng then 1 else -1 := by
          by_cases h1 : ((r0 + 1 : Nat) : Int) < 9218868437227405312
          · rw [ordP_pat h1]
            exact ord_sg_lt hi
          · have e := k_top hr h1
            rw [e]
            exact ordP_inf
        have P0' : ordP (sg x.ng A) (patS (x.ng && decide ((0 : Int) < (r0 : Int))) (r0 : Int)) = if x.ng then -1 else 1 := by
          rw [P0]
          exact ord_sg_gt hAl
        clear hV
        generalize x.ng = ng at *
        cases ng
        · have e1 : rTo 1 false r0 left = (r0 : Int) := by rw [t1, if_neg (fun h => by cases h.2)]
          have e2 : rTo 2 false r0 left = ((r0 + 1 : Nat) : Int) := by rw [t2, if_pos ⟨hl, rfl⟩]
          refine Btw.of (f := fun way => toR way x) (hf 1) (hf 2) (hf 3) (hf 0) ?_ ?_ ?_ ?_
          · rw [e1, P0']; decide
          · rw [e2, P1]; decide
          · intro h; exact absurd hl (by simpa using h)
          · intro _
            rw [e1, e2, t3, P0']
            refine ⟨by decide, ?_, ?_, (fun _ => rfl), (fun h => by cases h)⟩
            · rw [Bool.false_and, Bool.false_and, up_pos (Int.natCast_nonneg _) hr]; exact (k_one r0).symm
            · rcases t0 with h | h
              · exact .inl h
              · exact .inr h.2
        · have e1 : rTo 1 true r0 left = ((r0 + 1 : Nat) : Int) := by rw [t1, if_pos ⟨hl, rfl⟩]
          have e2 : rTo 2 true r0 left = (r0 : Int) := by rw [t2, if_neg (fun h => by cases h.2)]
          refine Btw.of (f := fun way => toR way x) (hf 1) (hf 2) (hf 3) (hf 0) ?_ ?_ ?_ ?_
          · rw [e1, P1]; decide
          · rw [e2, P0']; decide
          · intro h; exact absurd hl (by simpa using h)
          · intro _
            rw [e1, e2, t3, P1]
            refine ⟨by decide, ?_, ?_, (fun h => by cases h), fun _ => rfl⟩
            · rw [Bool.true_and, Bool.true_and, decide_eq_true (p := (0 : Int) < ((r0 + 1 : Nat) : Int)) (k_pos r0), up_neg (k_pos r0) (k_le hr), k_sub]
            · rcases t0 with h | h
              · exact .inr h
              · exact .inl h.2
    · obtain ⟨t1, t2, t3, t0⟩ := rTo_inf (ng := x.ng) (left := left) hr
      have ho : (decide (left ≠ 0) || decide (9218868437227405312 ≤ (r0 : Int))) = true := by rw [decide_eq_true (p := 9218868437227405312 ≤ (r0 : Int)) (Int.not_lt.1 hr), Bool.or_true]
      rw [ho] at hf
      obtain ⟨k, hk⟩ := k_ex
      obtain ⟨hk1, hk2, hk3⟩ := k_fin hk
      have hAl : vS k < A := Int.lt_of_lt_of_le (vS_lt (k_lt hk hr)) lo
      have P0 : ordP (sg x.ng A) (patS (x.ng && decide ((0 : Int) < (k : Int))) (k : Int)) = if x.ng then -1 else 1 := by
        refine (ordP_pat (A := sg x.ng A) (ng := x.ng) hk1).trans ?_
        exact ord_sg_gt hAl
      rw [hk] at t1 t2 t3
      have P1 : ordP (sg x.ng A) (patS (x.ng && decide ((0 : Int) < 9218868437227405312)) 9218868437227405312) = if x.ng then 1 else -1 := ordP_inf
      clear hV hR lo hi l0
      generalize x.ng = ng at *
      cases ng
      · rw [if_neg (by decide)] at t1 t2
        refine Btw.of (f := fun way => toR way x) (hf 1) (hf 2) (hf 3) (hf 0) ?_ ?_ ?_ ?_
        · rw [t1, P0]; decide
        · rw [t2, P1]; decide
        · intro h; cases h
        · intro _
          rw [t1, t2, t3, t0, P0]
          refine ⟨by decide, ?_, .inr rfl, (fun _ => rfl), (fun h => by cases h)⟩
          rw [Bool.false_and, Bool.false_and]
          rw [up_pos (Int.natCast_nonneg _) hk1, hk2]
          rfl
      · rw [if_pos rfl] at t1 t2
        refine Btw.of (f := fun way => toR way x) (hf 1) (hf 2) (hf 3) (hf 0) ?_ ?_ ?_ ?_
        · rw [t1, P1]; decide
        · rw [t2, P0]; decide
        · intro h; cases h
        · intro _
          rw [t1, t2, t3, t0, P1]
          refine ⟨by decide, ?_, .inl rfl, (fun h => by cases h), fun _ => rfl⟩
          rw [Bool.true_and, Bool.true_and]
          rw [decide_eq_true (p := (0 : Int) < 9218868437227405312) (by decide), up_neg (by decide) (Int.le_refl _), hk3]
end Go.Proofs.YtgplnodgndbdeaaDoor

/-
  What a row that lists both layouts gives.
-/
namespace Go.Proofs.YtgplnodgndbdeaaDoor
open Go Go.ChangeShapes Go.WideShapes Go.ChangeAt Go.RowKit Go.Proofs.YtgplnodgndbdeaaDoor.M
set_option linter.unusedSimpArgs false
set_option linter.unusedVariables false

/-- What the laws want of the package's variables, both layouts. -/
structure Hold2 (w : World) : Prop where
  lay : Lay64 w
  tab : Tab w
  lay32 : Lay32 w
theorem Hold2.keeps {w w' : World} (h : Hold2 w) (hb : Below w.heap.size w w') : Hold2 w' := ⟨h.lay.keeps hb, h.tab.keeps hb, h.lay32.keeps hb⟩
theorem hold2_of {W : World} (h : laidMetH Tryd.prog [("math/bits.deBruijn32tab", Rows.laid_math_bits_deBruijn32tab), ("math/bits.deBruijn64tab", Rows.laid_math_bits_deBruijn64tab), ("plumb/bits.binary64", Rows.laid_plumb_bits_binary64), ("plumb/bits.binary32", Rows.laid_plumb_bits_binary32)] W) : Hold2 W := by
  rw [MakeChecks.laidMetH_plain _ _ _ (by kernel_rfl)] at h
  have h' : laidMet Tryd.prog (("math/bits.deBruijn64tab", Lib.tabData .u8 tabInts) :: [("plumb/bits.binary64", Rows.laid_plumb_bits_binary64), ("plumb/bits.binary32", Rows.laid_plumb_bits_binary32)]) W := h.tail
  have t := Lib.tabIs_of_head gTab gTabType Tryd.underlying129 Tryd.underlying5 cellsByte cellsTab h'
  obtain ⟨a0, a1, a2⟩ := three g64 g64Type h'.tail
  obtain ⟨b0, b1, b2⟩ := three g32 g32Type h'.tail.tail
  refine ⟨⟨a0, a1, a2⟩, fun j hj => ?_, ⟨b0, b1, b2⟩⟩
  rw [← tab_get j hj]
  exact t.cell gTab j (by exact hj)
end Go.Proofs.YtgplnodgndbdeaaDoor

/-
  Package dyadic: Sum, by its contract.
-/
namespace Go.Proofs.YtgplnodgndbdeaaDoor
open Go Go.RowKit Go.Proofs.YtgplnodgndbdeaaDoor.M
set_option linter.unusedSimpArgs false
set_option linter.unusedVariables false

theorem allOk_out {r : Nat → NumR} {n : Nat} (h : allOk r n = true) : ∀ i, i < n → okR (r i) = true := of_decide_eq_true h
end Go.Proofs.YtgplnodgndbdeaaDoor

/-
  Numbers at the ends of what is valid: which have a valid form, which have none; calls that are known to tell a number or ErrLong.
-/
namespace Go.Proofs.YtgplnodgndbdeaaDoor
open Go Go.RowKit Go.Proofs.YtgplnodgndbdeaaDoor.M
set_option linter.unusedSimpArgs false
set_option linter.unusedVariables false

theorem P_one : (1 : Int) < P 2000 := by
  have := P2000_big2
  omega
theorem mk_one {ng : Bool} {e : Int} (h : -4194304 ≤ e) : mkV ng 1 e = sg ng 1 * pw e := by
  unfold mkV
  rw [if_neg (by decide), if_neg (by omega)]
theorem dy_one {ng : Bool} {e : Int} (h : -4194304 ≤ e) : Dy (mkV ng 1 e) ng 1 e := ⟨mk_one h, h, .inr ⟨by decide, by decide⟩⟩
theorem dok_one {ng : Bool} {e : Int} (h0 : -1048576 ≤ e) (h1 : e ≤ 1048576) : Dok (mkV ng 1 e) := (dy_one (by omega)).ok.2 ⟨P_one, h0, h1⟩
theorem nok_one {ng : Bool} {e : Int} (h : 1048576 < e ∨ e < -1048576) : ¬ Dok (mkV ng 1 e) := by
  by_cases h0 : e < -4194304
  · unfold mkV
    rw [if_neg (by decide), if_pos h0]
    exact not_dok_one
  · intro hk
    have := (dy_one (ng := ng) (e := e) (by omega)).ok.1 hk
    omega
theorem nok_two {e : Int} (h0 : -4194304 ≤ e) (h : 1048576 ≤ e) : ¬ Dok (mkV false 2 e) := by
  have e1 : mkV false 2 e = mkV false 1 (e + 1) := by
    rw [mk_one (by omega)]
    unfold mkV
    rw [if_neg (by decide), if_neg (by omega)]
    have := pw_add h0 1
    rw [show e + ((1 : Nat) : Int) = e + 1 from rfl] at this
    rw [this]
    simp only [sg]
    grind
  rw [e1]
  exact nok_one (.inl (by omega))
theorem one_sum {a b : Int} (h : b ≤ a) (h0 : -4194304 ≤ b) : mkV false 1 a + mkV false 1 b = (2 ^ (a - b).toNat + 1) * pw b := by
  rw [mk_one (by omega), mk_one (by omega), pw_sub h0 h]
  simp only [sg]
  generalize pw b = Q
  generalize (2 : Int) ^ (a - b).toNat = R
  grind
theorem nok_sum {a b : Int} (h : b + 60000 ≤ a) (h0 : -4194304 ≤ b) : ¬ Dok (mkV false 1 a + mkV false 1 b) := by
  rw [one_sum (by omega) h0]
  have hp := two_pos (a - b).toNat
  have ho : ((2 : Int) ^ (a - b).toNat + 1) % 2 = 1 := by
    obtain ⟨k, hk⟩ : ∃ k, (a - b).toNat = k + 1 := ⟨(a - b).toNat - 1, by omega⟩
    rw [hk, Int.pow_succ]
    omega
  have hd : Dy (((2 : Int) ^ (a - b).toNat + 1) * pw b) false (2 ^ (a - b).toNat + 1) b := ⟨rfl, h0, .inr ⟨by omega, ho⟩⟩
  intro hk
  have h1 := (hd.ok.1 hk).1
  have h2 : (2 : Int) ^ (30 * 2000) ≤ 2 ^ (a - b).toNat := two_le (by omega)
  rw [← P_two] at h2
  omega
theorem twice_one {ng : Bool} {e : Int} (h : -4194304 ≤ e) : mkV ng 1 e + mkV ng 1 e = mkV ng 1 (e + 1) := by
  rw [mk_one h, mk_one (by omega)]
  have := pw_add h 1
  rw [show e + ((1 : Nat) : Int) = e + 1 from rfl] at this
  rw [this]
  generalize pw e = Q
  cases ng <;> simp only [sg] <;> grind
theorem one_lt {a b : Int} (h : b < a) (h0 : -4194304 ≤ b) : mkV false 1 b < mkV false 1 a := by
  have h1 := one_sum (a := a) (b := b) (by omega) h0
  rw [mk_one (by omega), mk_one (by omega)] at *
  rw [pw_sub h0 (show b ≤ a by omega)]
  simp only [sg]
  have hp := pw_pos b
  have h2 : (2 : Int) ≤ 2 ^ (a - b).toNat := by
    have := two_le (show 1 ≤ (a - b).toNat by omega)
    rwa [show (2 : Int) ^ 1 = 2 from rfl] at this
  have h3 : 2 * pw b ≤ 2 ^ (a - b).toNat * pw b := Int.mul_le_mul_of_nonneg_right h2 (by omega)
  simp
  omega
theorem nok_prod {C : Int} (h : C * 2 ^ 4194304 = mkV true 1 (-1048576) * mkV true 1 (-1048576)) : ¬ Dok C := by
  have e : C = mkV false 1 (-2097152) := by
    refine scale_inj ?_
    rw [h, mk_one (by omega), mk_one (by omega)]
    have := pw_mul (a := -1048576) (b := -1048576) (by omega) (by omega)
    rw [show (-1048576 : Int) + -1048576 = -2097152 from rfl] at this
    generalize pw (-1048576) = Q at *
    generalize pw (-2097152) = R at *
    rw [show sg true 1 = -1 from rfl, show sg false 1 = 1 from rfl, Int.one_mul, ← this, show (-1 : Int) * Q = -Q by omega, Int.neg_mul_neg]
  rw [e]
  exact nok_one (.inr (by omega))
theorem dok_low2 : Dok (mkV true 1 (-1048576) + mkV true 1 (-1048576)) := by
  rw [twice_one (by omega)]
  exact dok_one (by omega) (by omega)
theorem nok_high2 : ¬ Dok (mkV false 1 1048576 + mkV false 1 1048576) := by
  rw [twice_one (by omega)]
  exact nok_one (.inl (by omega))
theorem dok_minus {V : Int} (h : Dok V) : Dok (-V) := by
  obtain ⟨ng, m, e, hy, h1⟩ := h
  rcases hy.form with ⟨h2, _, _⟩ | ⟨h2, _⟩
  · rw [hy.eq_zero.2 h2]; exact dok_zero
  · exact (hy.neg h2).ok.2 h1
theorem DFit.no {w w' : World} {V er : Int} {v : Value} (h : DFit w w' V v er) (no : ¬ Dok V) : er = 2 ∧ v = zeroV ∧ Below w.heap.size w w' := by
  rcases h.2 with ⟨ok, _⟩ | ⟨_, h1, h2⟩
  · exact absurd ok no
  · exact ⟨h1, h2, h.1⟩
theorem make_yes {w : World} {s : Value} {m : Int} (ng : Bool) (e : Int) (hs : Num w s m) (hm : m < P 2000) (hT : Tab w) (ok : Dok (mkV ng m e)) :
    Calls Tryd.prog 22 #[.bool ng, s, .int .i64 e] w fun r w' => ∃ v, r = .returned (.tuple #[v, .int .i64 0]) ∧ DAns w w' (mkV ng m e) v := by
  refine (make_D ng e hs hm hT).mono ?_
  rintro r w' ⟨v, er, rfl, h⟩
  obtain ⟨rfl, h2⟩ := h.yes ok
  exact ⟨v, rfl, h2⟩
theorem make_no {w : World} {s : Value} {m : Int} (ng : Bool) (e : Int) (hs : Num w s m) (hm : m < P 2000) (hT : Tab w) (no : ¬ Dok (mkV ng m e)) :
    Calls Tryd.prog 22 #[.bool ng, s, .int .i64 e] w fun r w' => r = .returned (.tuple #[zeroV, .int .i64 2]) ∧ Below w.heap.size w w' := by
  refine (make_D ng e hs hm hT).mono ?_
  rintro r w' ⟨v, er, rfl, h⟩
  obtain ⟨rfl, rfl, h2⟩ := h.no no
  exact ⟨rfl, h2⟩
theorem addD_yes {w : World} {x y : Value} {A B : Int} (hx : DNum w x A) (hy : DNum w y B) (oA : Dok A) (oB : Dok B) (hT : Tab w) (ok : Dok (A + B)) :
    Calls Tryd.prog 85 #[x, y] w fun r w' => ∃ v, r = .returned (.tuple #[v, .int .i64 0]) ∧ DAns w w' (A + B) v := by
  refine (add_D hx hy oA oB hT).mono ?_
  rintro r w' ⟨v, er, rfl, h⟩
  obtain ⟨rfl, h2⟩ := h.yes ok
  exact ⟨v, rfl, h2⟩
theorem addD_no {w : World} {x y : Value} {A B : Int} (hx : DNum w x A) (hy : DNum w y B) (oA : Dok A) (oB : Dok B) (hT : Tab w) (no : ¬ Dok (A + B)) :
    Calls Tryd.prog 85 #[x, y] w fun r w' => r = .returned (.tuple #[zeroV, .int .i64 2]) ∧ Below w.heap.size w w' := by
  refine (add_D hx hy oA oB hT).mono ?_
  rintro r w' ⟨v, er, rfl, h⟩
  obtain ⟨rfl, rfl, h2⟩ := h.no no
  exact ⟨rfl, h2⟩
theorem sub_zero {w : World} {x : Value} {A : Int} (hx : DNum w x A) (oA : Dok A) (hT : Tab w) :
    Calls Tryd.prog 14 #[x, x] w fun r w' => ∃ v, r = .returned (.tuple #[v, .int .i64 0]) ∧ DAns w w' 0 v := by
  refine (sub_D hx hx oA oA hT).mono ?_
  rintro r w' ⟨v, er, rfl, h⟩
  rw [Int.sub_self] at h
  obtain ⟨rfl, h2⟩ := h.yes dok_zero
  exact ⟨v, rfl, h2⟩
theorem mul_no {w : World} {x : Value} {A : Int} (hx : DNum w x A) (oA : Dok A) (hT : Tab w) (no : ∀ C, C * 2 ^ 4194304 = A * A → ¬ Dok C) :
    Calls Tryd.prog 21 #[x, x] w fun r w' => r = .returned (.tuple #[zeroV, .int .i64 2]) ∧ Below w.heap.size w w' := by
  refine (mul_D hx hx oA oA hT).mono ?_
  rintro r w' ⟨v, er, C, rfl, hC, h⟩
  obtain ⟨rfl, rfl, h2⟩ := h.no (no C hC)
  exact ⟨rfl, h2⟩
def trip3 (x y z : NumR) : Nat → NumR := fun i => if i = 0 then x else if i = 1 then y else z
theorem nums3 {w : World} {g : Nat} {x y z : NumR} {t : TypeId} (h : w.heap[g]? = some (.cells #[.bool x.ng, .slice x.ao x.n x.cap, .int .i64 x.e, .bool y.ng, .slice y.ao y.n y.cap, .int .i64 y.e, .bool z.ng, .slice z.ao z.n z.cap, .int .i64 z.e] t (0, 0))) (hx : Row w x.ao x.n x.cap x.d) (hy : Row w y.ao y.n y.cap y.d) (hz : Row w z.ao z.n z.cap z.d) :
    Nums w (some ⟨g, 0, none⟩) 3 3 (trip3 x y z) :=
  ⟨Nat.le_refl _, by decide, fun _ => ⟨g, 0, rfl, (Array.getElem?_eq_some_iff.1 h).1, fun i hi => by
    match i, hi with
    | 0, _ => exact ⟨blkC h 0 rfl, blkC h 1 rfl, blkC h 2 rfl, hx⟩
    | 1, _ => exact ⟨blkC h 3 rfl, blkC h 4 rfl, blkC h 5 rfl, hy⟩
    | 2, _ => exact ⟨blkC h 6 rfl, blkC h 7 rfl, blkC h 8 rfl, hz⟩⟩⟩
theorem DNum.open2 {w : World} {ng : Bool} {so : Option Addr} {sn sc : Nat} {e V : Int} (h : DNum w (.agg #[.bool ng, .slice so sn sc, .int .i64 e]) V) (ok : Dok V) : ∃ d, Row w so sn sc d ∧ okR ⟨ng, so, sn, sc, d, e⟩ = true ∧ (⟨ng, so, sn, sc, d, e⟩ : NumR).V = V := by
  obtain ⟨x, h1, h2, h3, h4⟩ := h.open ok
  obtain ⟨xg, xo, xn, xc, xd, xe⟩ := x
  simp only [NumR.v, Value.agg.injEq, Array.mk.injEq, List.cons.injEq, Value.bool.injEq, Value.int.injEq, Value.slice.injEq, and_true, true_and] at h1
  obtain ⟨rfl, ⟨rfl, rfl, rfl⟩, rfl⟩ := h1
  exact ⟨xd, h2, h3, h4⟩
end Go.Proofs.YtgplnodgndbdeaaDoor

/-
  What the laws of package round share: what a row gives, numbers told by their worth, round.To at all ways.
-/
namespace Go.Proofs.YtgplnodgndbdeaaDoor
open Go Go.ChangeShapes Go.WideShapes Go.ChangeAt Go.RowKit Go.Proofs.YtgplnodgndbdeaaDoor.M
set_option linter.unusedSimpArgs false
set_option linter.unusedVariables false

structure Hold4 (w : World) : Prop where
  lay : Lay64 w
  tab : Tab w
  env : Env w
theorem Hold4.keeps {w w' : World} (h : Hold4 w) (hb : Below w.heap.size w w') : Hold4 w' := ⟨h.lay.keeps hb, h.tab.keeps hb, h.env.keeps hb⟩
theorem hold4_of {W : World} (h : laidMetH Tryd.prog [("math/bits.deBruijn32tab", Rows.laid_math_bits_deBruijn32tab), ("math/bits.deBruijn64tab", Rows.laid_math_bits_deBruijn64tab), ("plumb/bits.binary64", Rows.laid_plumb_bits_binary64), ("plumb/bits.binary32", Rows.laid_plumb_bits_binary32)] W) : Hold4 W := by
  have k := hold2_of h
  exact ⟨k.lay, k.tab, ⟨⟨k.lay.a0, k.lay.a1, k.lay.a2, k.lay32.b0, k.lay32.b1, k.lay32.b2⟩, k.tab⟩⟩
theorem P20_30 : P 20 ≤ P 30 := by unfold P; decide
theorem num4_B (x : NumR) (w : World) (h : Row w x.ao x.n x.cap x.d) (he : rng x.e) (hT : Tab w) :
    Calls Tryd.prog 7 #[x.v] w fun r w' => ∃ v V, r = .returned v ∧ DAns w w' V v ∧ Bd 4000 V := by
  refine (num4_any x w h he hT).mono ?_
  rintro r w' ⟨v, M, e, rfl, hD, h0, h1, e0, e1⟩
  exact ⟨v, _, rfl, hD, bd_num h0 (Int.lt_of_lt_of_le h1 P20_30) (by omega) (by omega)⟩
/-- The four ways at a number. -/
def To4 (w : World) (x : Value) (f : Int → Int × Bool) : Prop := ∀ (way : Int) (W : World), 0 ≤ way ∧ way ≤ 3 → Below w.heap.size w W → Calls Tryd.prog 8 #[x, .int .i64 way] W fun e w' => e = .returned (.tuple #[.int .i64 (f way).1, .bool (f way).2, .int .i64 0]) ∧ Below W.heap.size W w'
theorem To4.keeps {w w' : World} {x : Value} {f : Int → Int × Bool} (h : To4 w x f) (hb : Below w.heap.size w w') : To4 w' x f := fun way W hw hB => h way W hw (bel_trans hb hB)
theorem To4.at {w : World} {x : Value} {f : Int → Int × Bool} (h : To4 w x f) (way : Int) (hw : 0 ≤ way ∧ way ≤ 3) : Calls Tryd.prog 8 #[x, .int .i64 way] w fun e w' => e = .returned (.tuple #[.int .i64 (f way).1, .bool (f way).2, .int .i64 0]) ∧ Below w.heap.size w w' := h way w hw (bel_refl w)
theorem rTo_range (way : Int) (ng : Bool) (r0 : Nat) (left : Int) : 0 ≤ rTo way ng r0 left ∧ rTo way ng r0 left ≤ 9218868437227405312 := by
  unfold rTo
  split
  · split <;> omega
  · unfold bRung
    repeat' split
    all_goals decide
theorem toR_range {x : NumR} (ok : okR x = true) (way : Int) : rng (toR way x).1 := by
  by_cases h0 : x.n = 0
  · rw [to_zero ok h0]; unfold rng; decide
  · obtain ⟨r0, left, _, hf⟩ := to_all ok (by omega)
    rw [hf way]
    obtain ⟨h1, h2⟩ := rTo_range way x.ng r0 left
    exact (patS_facts h1 h2 (fun h => by
      cases hx : x.ng
      · rw [hx] at h; cases h
      · rw [hx, Bool.true_and] at h; exact of_decide_eq_true h)).1
theorem to_four {w : World} {ng : Bool} {so : Option Addr} {sn sc : Nat} {e V : Int} (h : DNum w (.agg #[.bool ng, .slice so sn sc, .int .i64 e]) V) (ok : Dok V) (H : Hold4 w) :
    ∃ x : NumR, okR x = true ∧ x.V = V ∧ x.ng = ng ∧ To4 w (.agg #[.bool ng, .slice so sn sc, .int .i64 e]) (fun way => toR way x) := by
  obtain ⟨d, hR, hok, hV⟩ := h.open2 ok
  exact ⟨⟨ng, so, sn, sc, d, e⟩, hok, hV, rfl, fun way W hw hb => to_ok way hw ⟨ng, so, sn, sc, d, e⟩ W (hR.keeps hb) hok (H.env.keeps hb) (H.tab.keeps hb)⟩
theorem to_btw {w : World} {ng : Bool} {so : Option Addr} {sn sc : Nat} {e V : Int} (h : DNum w (.agg #[.bool ng, .slice so sn sc, .int .i64 e]) V) (ok : Dok V) (H : Hold4 w) :
    ∃ f : Int → Int × Bool, To4 w (.agg #[.bool ng, .slice so sn sc, .int .i64 e]) f ∧ Btw V ng f ∧ ∀ way, rng (f way).1 := by
  obtain ⟨x, h1, rfl, rfl, h4⟩ := to_four h ok H
  exact ⟨_, h4, between h1, toR_range h1⟩
end Go.Proofs.YtgplnodgndbdeaaDoor

/-
  Plain mathematics: a number and its rung, for 0 too; which neighbour is nearer.
-/
namespace Go.Proofs.YtgplnodgndbdeaaDoor
open Go Go.RowKit Go.Proofs.YtgplnodgndbdeaaDoor.M
set_option linter.unusedSimpArgs false
set_option linter.unusedVariables false

/-- What the four ways answer at a number, by its rung. -/
def RdOf (V : Int) (ng : Bool) (f : Int → Int × Bool) : Prop := ∃ (A : Int) (r0 : Nat) (left : Int), V = sg ng A ∧ (ng = true → 0 < A) ∧ Rung A r0 left ∧ ∀ way, f way = (patS (ng && decide (0 < rTo way ng r0 left)) (rTo way ng r0 left), decide (left ≠ 0) || decide (9218868437227405312 ≤ (r0 : Int)))
theorem rung_zero_aux {a b : Int} (h0 : a = 0) (h1 : a < b) : (0 : Int) < b ∧ (((0 : Int) = 0 ↔ (0 : Int) = a) ∧ ((0 : Int) = 1 ↔ a < 0 ∧ 2 * 0 < a + b) ∧ ((0 : Int) = 2 ↔ 2 * 0 = a + b) ∧ ((0 : Int) = 3 ↔ a + b < 2 * 0)) := by
  subst h0
  exact ⟨h1, by omega, by omega, by omega, by omega⟩
theorem rung_zero : Rung 0 0 0 := by
  have h1 := vS_lt (show 0 < 0 + 1 by decide)
  have h0 := vS_zero
  obtain ⟨q, a, b, c, d⟩ := rung_zero_aux h0 h1
  exact ⟨Int.le_of_eq h0, q, a, b, c, d⟩
theorem rTo_zero (way : Int) : rTo way false 0 0 = 0 := by
  unfold rTo
  rw [if_pos (by decide)]
  cases h : rUp way false (decide (0 % 2 = 1)) 0
  · rfl
  · exact (rUp_left h).elim
theorem val_posA {x : NumR} (ok : okR x = true) (h0 : 0 < x.n) : 0 < val x.d x.n * pw x.e := by
  obtain ⟨na, _⟩ := okR_sane ok
  exact Int.mul_pos (val_pos na h0) (pw_pos _)
theorem to_rd {x : NumR} (ok : okR x = true) : RdOf x.V x.ng (fun way => toR way x) := by
  by_cases h0 : x.n = 0
  · have hz : x.ng = false := by
      have := of_decide_eq_true ok
      rcases this with ⟨_, a, b⟩ | ⟨a, _⟩
      · exact a
      · omega
    have hv : x.V = 0 := by
      have hv : val x.d x.n = 0 := by rw [h0]; rfl
      unfold NumR.V
      rw [hv, sg_zero, Int.zero_mul]
    refine ⟨0, 0, 0, by rw [hv, hz]; rfl, (fun h => by rw [hz] at h; cases h), rung_zero, fun way => ?_⟩
    rw [hz, rTo_zero]
    exact to_zero ok h0 way
  · obtain ⟨r0, left, hR, hf⟩ := to_all ok (by omega)
    have hp := val_posA ok (by omega)
    have hV : x.V = sg x.ng (val x.d x.n * pw x.e) := by
      unfold NumR.V
      exact sg_prod _ _ _
    exact ⟨_, r0, left, hV, (fun _ => hp), hR, hf⟩
theorem ord_neg_iff {a b : Int} : ord a b < 0 ↔ a < b := by
  rcases Int.lt_trichotomy a b with h | h | h
  · rw [ord_lt h]; exact ⟨fun _ => h, fun _ => by decide⟩
  · rw [ord_eq h]; exact ⟨fun q => absurd q (by decide), fun q => by omega⟩
  · rw [ord_gt h]; exact ⟨fun q => absurd q (by decide), fun q => by omega⟩
theorem ord_pos_iff {a b : Int} : 0 < ord a b ↔ b < a := by
  rcases Int.lt_trichotomy a b with h | h | h
  · rw [ord_lt h]; exact ⟨fun q => absurd q (by decide), fun q => by omega⟩
  · rw [ord_eq h]; exact ⟨fun q => absurd q (by decide), fun q => by omega⟩
  · rw [ord_gt h]; exact ⟨fun _ => h, fun _ => by decide⟩
theorem ord_zero_iff {a b : Int} : ord a b = 0 ↔ a = b := by
  rcases Int.lt_trichotomy a b with h | h | h
  · rw [ord_lt h]; exact ⟨fun q => absurd q (by decide), fun q => by omega⟩
  · rw [ord_eq h]; exact ⟨fun _ => h, fun _ => rfl⟩
  · rw [ord_gt h]; exact ⟨fun q => absurd q (by decide), fun q => by omega⟩
theorem near_pos {A a b left : Int} (l1 : left = 1 ↔ a < A ∧ 2 * A < a + b) (l2 : left = 2 ↔ 2 * A = a + b) (l3 : left = 3 ↔ a + b < 2 * A) (lo : a < A) :
    (ord (A - a) (b - A) < 0 → left = 1) ∧ (0 < ord (A - a) (b - A) → left = 3) ∧ (ord (A - a) (b - A) = 0 → left = 2) :=
  ⟨fun h => l1.2 ⟨lo, by have := ord_neg_iff.1 h; omega⟩, fun h => l3.2 (by have := ord_pos_iff.1 h; omega), fun h => l2.2 (by have := ord_zero_iff.1 h; omega)⟩
theorem near_neg {A a b left : Int} (l1 : left = 1 ↔ a < A ∧ 2 * A < a + b) (l2 : left = 2 ↔ 2 * A = a + b) (l3 : left = 3 ↔ a + b < 2 * A) (lo : a < A) :
    (ord (-A - -b) (-a - -A) < 0 → left = 3) ∧ (0 < ord (-A - -b) (-a - -A) → left = 1) ∧ (ord (-A - -b) (-a - -A) = 0 → left = 2) :=
  ⟨fun h => l3.2 (by have := ord_neg_iff.1 h; omega), fun h => l1.2 ⟨lo, by have := ord_pos_iff.1 h; omega⟩, fun h => l2.2 (by have := ord_zero_iff.1 h; omega)⟩
theorem near_posS {A a b left : Int} (l1 : left = 1 ↔ a < A ∧ 2 * A < a + b) (l2 : left = 2 ↔ 2 * A = a + b) (l3 : left = 3 ↔ a + b < 2 * A) (lo : a < A) :
    (ord (sg false A - sg false a) (sg false b - sg false A) < 0 → left = 1) ∧ (0 < ord (sg false A - sg false a) (sg false b - sg false A) → left = 3) ∧ (ord (sg false A - sg false a) (sg false b - sg false A) = 0 → left = 2) := near_pos l1 l2 l3 lo
theorem near_negS {A a b left : Int} (l1 : left = 1 ↔ a < A ∧ 2 * A < a + b) (l2 : left = 2 ↔ 2 * A = a + b) (l3 : left = 3 ↔ a + b < 2 * A) (lo : a < A) :
    (ord (sg true A - sg true b) (sg true a - sg true A) < 0 → left = 3) ∧ (0 < ord (sg true A - sg true b) (sg true a - sg true A) → left = 1) ∧ (ord (sg true A - sg true b) (sg true a - sg true A) = 0 → left = 2) := near_neg l1 l2 l3 lo
theorem rTo0_1 {ng : Bool} {r0 : Nat} (h : (r0 : Int) < 9218868437227405312) : rTo 0 ng r0 1 = (r0 : Int) := by
  unfold rTo
  rw [if_pos h]
  simp [rUp]
theorem rTo0_3 {ng : Bool} {r0 : Nat} (h : (r0 : Int) < 9218868437227405312) : rTo 0 ng r0 3 = ((r0 + 1 : Nat) : Int) := by
  unfold rTo
  rw [if_pos h]
  simp [rUp]
theorem rTo0_2 {ng : Bool} {r0 : Nat} (h : (r0 : Int) < 9218868437227405312) : rTo 0 ng r0 2 % 2 = 0 := by
  unfold rTo
  rw [if_pos h]
  by_cases hp : r0 % 2 = 1
  · simp [rUp, hp]; omega
  · simp [rUp, hp]; omega
theorem patS_even {b : Bool} {r : Int} (h : r % 2 = 0) : patS b r % 2 = 0 := by
  unfold patS
  cases b
  · exact h
  · show (r - 9223372036854775808) % 2 = 0; omega
theorem and_pos {ng : Bool} {r : Int} (h : (ng && decide (0 < r)) = true) : 0 < r := by
  cases ng
  · cases h
  · rw [Bool.true_and] at h; exact of_decide_eq_true h
theorem pat_fin {ng : Bool} {r : Int} (h0 : 0 ≤ r) (h1 : r ≤ 9218868437227405312) (h : pok (patS (ng && decide (0 < r)) r) = true) : r < 9218868437227405312 := by
  rw [patS_pok h0 h1 and_pos] at h
  exact of_decide_eq_true h
theorem patV_rung {ng : Bool} {r : Nat} (h : (r : Int) < 9218868437227405312) : patV (patS (ng && decide ((0 : Int) < (r : Int))) (r : Int)) = sg ng (vS r) := by
  rw [patV_patS h (fun q => by have := and_pos q; omega)]
  by_cases h0 : r = 0
  · subst h0
    rw [vS_zero]
    simp [sg]
  · have e : (ng && decide ((0 : Int) < (r : Int))) = ng := by rw [decide_eq_true (by omega), Bool.and_true]
    rw [e]
structure Nea (V : Int) (f : Int → Int × Bool) : Prop where
  lo : ord (V - patV (f 1).1) (patV (f 2).1 - V) < 0 → (f 0).1 = (f 1).1
  hi : 0 < ord (V - patV (f 1).1) (patV (f 2).1 - V) → (f 0).1 = (f 2).1
  ev : ord (V - patV (f 1).1) (patV (f 2).1 - V) = 0 → (f 0).1 % 2 = 0
theorem Nea.of {V : Int} {f : Int → Int × Bool} {d u n p q : Int} {o : Bool} (f1 : f 1 = (d, o)) (f2 : f 2 = (u, o)) (f0 : f 0 = (n, o)) (hd : patV d = p) (hu : patV u = q)
    (lo : ord (V - p) (q - V) < 0 → n = d) (hi : 0 < ord (V - p) (q - V) → n = u) (ev : ord (V - p) (q - V) = 0 → n % 2 = 0) : Nea V f := by
  subst hd hu
  exact ⟨by rw [f1, f2, f0]; exact lo, by rw [f1, f2, f0]; exact hi, by rw [f1, f2, f0]; exact ev⟩
theorem nearest {V : Int} {ng : Bool} {f : Int → Int × Bool} (h : RdOf V ng f) (o : (f 0).2 = true) (pd : pok (f 1).1 = true) (pu : pok (f 2).1 = true) : Nea V f := by
  obtain ⟨A, r0, left, hV, hA, hR, hf⟩ := h
  have f1 := hf 1
  have f2 := hf 2
  have f0 := hf 0
  rw [f1] at pd
  rw [f2] at pu
  rw [f0] at o
  have g1 := rTo_range 1 ng r0 left
  have g2 := rTo_range 2 ng r0 left
  have q1 := pat_fin g1.1 g1.2 pd
  have q2 := pat_fin g2.1 g2.2 pu
  clear pd pu hf g1 g2
  by_cases hr : (r0 : Int) < 9218868437227405312
  · obtain ⟨t1, t2, t3, t0⟩ := rTo_fin (ng := ng) (left := left) hr
    have hl : left ≠ 0 := by
      have o' : (decide (left ≠ 0) || decide (9218868437227405312 ≤ (r0 : Int))) = true := o
      rw [decide_eq_false (p := 9218868437227405312 ≤ (r0 : Int)) (Int.not_le.2 hr), Bool.or_false] at o'
      exact of_decide_eq_true o'
    have hAl : vS r0 < A := by
      rcases Int.lt_or_eq_of_le hR.lo with h | h
      · exact h
      · exact absurd (hR.l0.2 h.symm) hl
    have l1 := hR.l1
    have l2 := hR.l2
    have l3 := hR.l3
    clear hR t3 t0 hA
    have V0 := patV_rung (ng := ng) hr
    cases ng
    · have e1 : rTo 1 false r0 left = (r0 : Int) := by rw [t1, if_neg (fun h => by cases h.2)]
      have e2 : rTo 2 false r0 left = ((r0 + 1 : Nat) : Int) := by rw [t2, if_pos ⟨hl, rfl⟩]
      rw [e1] at f1
      rw [e2] at f2 q2
      have V1 := patV_rung (ng := false) q2
      obtain ⟨n1, n2, n3⟩ := near_posS l1 l2 l3 hAl
      refine Nea.of f1 f2 f0 V0 V1 ?_ ?_ ?_
      · intro h
        rw [hV] at h
        have := n1 h
        subst this
        rw [rTo0_1 hr]
      · intro h
        rw [hV] at h
        have := n2 h
        subst this
        rw [rTo0_3 hr]
      · intro h
        rw [hV] at h
        have := n3 h
        subst this
        exact patS_even (rTo0_2 hr)
    · have e1 : rTo 1 true r0 left = ((r0 + 1 : Nat) : Int) := by rw [t1, if_pos ⟨hl, rfl⟩]
      have e2 : rTo 2 true r0 left = (r0 : Int) := by rw [t2, if_neg (fun h => by cases h.2)]
      rw [e1] at f1 q1
      rw [e2] at f2
      have V1 := patV_rung (ng := true) q1
      obtain ⟨n1, n2, n3⟩ := near_negS l1 l2 l3 hAl
      refine Nea.of f1 f2 f0 V1 V0 ?_ ?_ ?_
      · intro h
        rw [hV] at h
        have := n1 h
        subst this
        rw [rTo0_3 hr]
      · intro h
        rw [hV] at h
        have := n2 h
        subst this
        rw [rTo0_1 hr]
      · intro h
        rw [hV] at h
        have := n3 h
        subst this
        exact patS_even (rTo0_2 hr)
  · exfalso
    obtain ⟨t1, t2, t3, t0⟩ := rTo_inf (ng := ng) (left := left) hr
    rw [t1] at q1
    rw [t2] at q2
    clear f1 f2 f0 o hV hA hR
    cases ng
    · rw [if_neg (by decide)] at q2; omega
    · rw [if_pos rfl] at q1; omega
end Go.Proofs.YtgplnodgndbdeaaDoor

/-
  What RoundNearest asks of the calls.
-/
namespace Go.Proofs.YtgplnodgndbdeaaDoor
open Go Go.RowKit Go.Proofs.YtgplnodgndbdeaaDoor.M
set_option linter.unusedSimpArgs false
set_option linter.unusedVariables false

theorem to_nea {w : World} {ng : Bool} {so : Option Addr} {sn sc : Nat} {e V : Int} (h : DNum w (.agg #[.bool ng, .slice so sn sc, .int .i64 e]) V) (ok : Dok V) (H : Hold4 w) :
    ∃ f : Int → Int × Bool, To4 w (.agg #[.bool ng, .slice so sn sc, .int .i64 e]) f ∧ Btw V ng f ∧ (∀ way, rng (f way).1) ∧ RdOf V ng f := by
  obtain ⟨x, h1, rfl, rfl, h4⟩ := to_four h ok H
  exact ⟨_, h4, between h1, toR_range h1, to_rd h1⟩
theorem patV_bd {b : Int} (h : pok b = true) : Bd 4000 (patV b) := by
  obtain ⟨i0, i1, i2, i3⟩ := pmag_in h
  have h30 : (9007199254740992 : Int) ≤ P 30 := by unfold P; decide
  exact bd_num i0 (Int.lt_of_lt_of_le (by omega) h30) (by omega) (by omega)
theorem Bd.sub {B : Nat} {V W : Int} (h : Bd B V) (k : Bd B W) (hB : B < 4194304) : Bd (B + 1) (V - W) := by
  rw [Int.sub_eq_add_neg]
  exact h.add k.neg hB
theorem of_ok {b : Int} {w : World} (h : pok b = true) (H : Hold4 w) : Calls Tryd.prog 13 #[.int .i64 b] w fun r w' => ∃ v, r = .returned (.tuple #[v, .int .i64 0]) ∧ DAns w w' (patV b) v := by
  refine (dof_any b w H.lay H.tab).mono ?_
  rintro _ w' ⟨v, er, rfl, hb, (⟨_, rfl, hD⟩ | ⟨h', _⟩)⟩
  · exact ⟨v, rfl, hD⟩
  · rw [h] at h'; cases h'
theorem of_no {b : Int} {w : World} (h : pok b = false) (H : Hold4 w) : Calls Tryd.prog 13 #[.int .i64 b] w fun r w' => r = .returned (.tuple #[.agg #[.bool false, .slice none 0 0, .int .i64 0], .int .i64 10]) ∧ Below w.heap.size w w' := by
  refine (dof_any b w H.lay H.tab).mono ?_
  rintro _ w' ⟨v, er, rfl, hb, (⟨h', _⟩ | ⟨_, rfl, rfl⟩)⟩
  · rw [h] at h'; cases h'
  · exact ⟨rfl, hb⟩
end Go.Proofs.YtgplnodgndbdeaaDoor

/-
  Plain mathematics: rounding with the other sign, and that it keeps the order.
-/
namespace Go.Proofs.YtgplnodgndbdeaaDoor
open Go Go.RowKit Go.Proofs.YtgplnodgndbdeaaDoor.M
set_option linter.unusedSimpArgs false
set_option linter.unusedVariables false

theorem cls_pat {s : Bool} {r : Int} (h0 : 0 ≤ r) (h1 : r ≤ 9218868437227405312) (h : s = true → 0 < r) : cls (patS s r) ≠ 4 := by
  obtain ⟨a, b, _⟩ := patS_facts h0 h1 h
  intro q
  have := (cls_rg a).1.1 q
  omega
theorem key_pat {s : Bool} {r : Int} (h0 : 0 ≤ r) (h1 : r ≤ 9218868437227405312) (h : s = true → 0 < r) : key (patS s r) = sg s r := by
  unfold key patS sg
  cases s
  · simp only [Bool.false_eq_true, if_false]
    rw [if_neg (by omega)]
  · have := h rfl
    simp only [if_true]
    rw [if_pos (by omega)]
    omega
theorem rg_neg {b : Int} (hb : rng b) (h : cls b ≠ 4) : rg (neg b) = rg b ∧ key (neg b) = -key b := by
  unfold rng at hb
  unfold neg
  rw [if_neg h]
  unfold rg key
  by_cases h0 : b < 0
  · rw [if_pos h0, if_neg (by omega), if_pos h0, if_neg (by omega), if_pos h0]; omega
  · rw [if_neg h0, if_pos (by omega), if_neg h0, if_pos (by omega), if_neg h0]; omega
theorem cls_neg {b : Int} (hb : rng b) (h : cls b ≠ 4) : cls (neg b) ≠ 4 := by
  intro q
  have h1 := (cls_rg (rng_neg hb)).1.1 q
  rw [(rg_neg hb h).1] at h1
  exact h ((cls_rg hb).1.2 h1)
theorem same_of {a b : Int} (ha : cls a ≠ 4) (hb : cls b ≠ 4) (h : key a = key b) : same a b = true := by
  unfold same
  rw [decide_eq_false ha, decide_eq_false hb, decide_eq_true h]
  rfl
theorem less_not {a b : Int} (h : key b ≤ key a) : less a b = false := by
  unfold less
  rw [decide_eq_false (p := key a < key b) (by omega), Bool.and_false, Bool.and_false]
theorem rUp_mono {way : Int} {ng odd : Bool} {A B a b l k : Int} (h0 : l = 0 ↔ A = a) (h2 : l = 2 ↔ 2 * A = a + b) (h3 : l = 3 ↔ a + b < 2 * A) (g0 : k = 0 ↔ B = a) (g2 : k = 2 ↔ 2 * B = a + b) (g3 : k = 3 ↔ a + b < 2 * B) (lo : a ≤ A) (AB : A ≤ B)
    (h : rUp way ng odd l = true) : rUp way ng odd k = true := by
  have nz : l ≠ 0 → k ≠ 0 := fun q e => by
    have e1 := g0.1 e
    exact q (h0.2 (by omega))
  unfold rUp at *
  split at h
  · rename_i e
    rw [if_pos e]
    simp only [Bool.or_eq_true, Bool.and_eq_true, decide_eq_true_eq] at *
    rcases h with h | ⟨h, ho⟩
    · left; exact g3.2 (by have := h3.1 h; omega)
    · have e2 := h2.1 h
      by_cases e3 : 2 * B = a + b
      · right; exact ⟨g2.2 e3, ho⟩
      · left; exact g3.2 (by omega)
  · rename_i e
    rw [if_neg e]
    split at h
    · rename_i e2
      rw [if_pos e2]
      simp only [Bool.and_eq_true, decide_eq_true_eq] at *
      exact ⟨nz h.1, h.2⟩
    · rename_i e2
      rw [if_neg e2]
      split at h
      · rename_i e3
        rw [if_pos e3]
        simp only [Bool.and_eq_true, decide_eq_true_eq] at *
        exact ⟨nz h.1, h.2⟩
      · cases h
theorem rung_le {A B : Int} {r s : Nat} {l k : Int} (h : Rung A r l) (g : Rung B s k) (AB : A ≤ B) : r ≤ s := by
  rcases Nat.lt_or_ge s r with q | q
  · exfalso
    have h1 := h.lo
    have g1 := g.hi
    have e : vS (s + 1) ≤ vS r := by
      rcases Nat.lt_or_eq_of_le (show s + 1 ≤ r from q) with q2 | q2
      · exact Int.le_of_lt (vS_lt q2)
      · rw [q2]; exact Int.le_refl _
    exact absurd (Int.lt_of_lt_of_le g1 (Int.le_trans e (Int.le_trans h1 AB))) (Int.lt_irrefl _)
  · exact q
theorem rTo_mono {way : Int} {ng : Bool} {A B : Int} {r s : Nat} {l k : Int} (h : Rung A r l) (g : Rung B s k) (AB : A ≤ B) : rTo way ng r l ≤ rTo way ng s k := by
  have hrs := rung_le h g AB
  rcases Nat.lt_or_eq_of_le hrs with q | q
  · clear h g
    unfold rTo
    by_cases hs : (s : Int) < 9218868437227405312
    · rw [if_pos hs, if_pos (by omega)]
      split <;> split <;> omega
    · rw [if_neg hs]
      by_cases hr : (r : Int) < 9218868437227405312
      · rw [if_pos hr]
        unfold bRung
        cases hu : rUp way ng (decide (r % 2 = 1)) l
        · simp only [Bool.false_eq_true, if_false]
          split <;> omega
        · rw [if_pos rfl, if_pos (rUp_more hu)]
          omega
      · rw [if_neg hr]
        exact Int.le_refl _
  · subst q
    have lo := h.lo
    have h0 := h.l0
    have h2 := h.l2
    have h3 := h.l3
    have g0 := g.l0
    have g2 := g.l2
    have g3 := g.l3
    have hm := fun odd => @rUp_mono way ng odd A B (vS r) (vS (r + 1)) l k h0 h2 h3 g0 g2 g3 lo AB
    clear h g lo h0 h2 h3 g0 g2 g3
    unfold rTo
    by_cases hr : (r : Int) < 9218868437227405312
    · rw [if_pos hr, if_pos hr]
      cases hu : rUp way ng (decide (r % 2 = 1)) l
      · simp only [Bool.false_eq_true, if_false]
        split <;> omega
      · rw [hm _ hu]
        exact Int.le_refl _
    · rw [if_neg hr, if_neg hr]
      exact Int.le_refl _
theorem vS_nonneg (r : Nat) : 0 ≤ vS r := by
  rcases Nat.eq_zero_or_pos r with h | h
  · subst h; rw [vS_zero]; exact Int.le_refl _
  · have := vS_lt h
    rw [vS_zero] at this
    exact Int.le_of_lt this
theorem sg_key (ng : Bool) {r : Int} (h0 : 0 ≤ r) : sg (ng && decide (0 < r)) r = sg ng r := by
  by_cases h : 0 < r
  · rw [decide_eq_true h, Bool.and_true]
  · obtain rfl : r = 0 := by omega
    cases ng <;> rfl
/-- A pattern that is answered: its place in the order, and that it is a number's. -/
theorem RdOf.key {V : Int} {ng : Bool} {f : Int → Int × Bool} {A : Int} {r0 : Nat} {left : Int} {way : Int} (hf : f way = (patS (ng && decide (0 < rTo way ng r0 left)) (rTo way ng r0 left), decide (left ≠ 0) || decide (9218868437227405312 ≤ (r0 : Int)))) :
    M.key (f way).1 = sg ng (rTo way ng r0 left) ∧ cls (f way).1 ≠ 4 ∧ rng (f way).1 := by
  obtain ⟨g1, g2⟩ := rTo_range way ng r0 left
  rw [hf]
  exact ⟨(key_pat g1 g2 and_pos).trans (sg_key ng g1), cls_pat g1 g2 and_pos, (patS_facts g1 g2 and_pos).1⟩
theorem sg_le {ng mg : Bool} {A B r s : Int} (hA : 0 ≤ A) (hB : 0 ≤ B) (zB : mg = true → 0 < B) (r0 : 0 ≤ r) (s0 : 0 ≤ s) (h : sg ng A ≤ sg mg B) (up : ng = mg → A ≤ B → r ≤ s) (dn : ng = mg → B ≤ A → s ≤ r) : sg ng r ≤ sg mg s := by
  cases ng <;> cases mg
  · exact up rfl h
  · exfalso
    have h' : A ≤ -B := h
    have := zB rfl
    omega
  · show -r ≤ s
    omega
  · have h' : -A ≤ -B := h
    have := dn rfl (by omega)
    show -r ≤ -s
    omega
theorem rd_mono {V U : Int} {ng mg : Bool} {f g : Int → Int × Bool} (h : RdOf V ng f) (k : RdOf U mg g) (hVU : V ≤ U) (way : Int) : less (g way).1 (f way).1 = false := by
  obtain ⟨A, r, l, eV, zA, RA, hf⟩ := h
  obtain ⟨B, s, m, eU, zB, RB, hg⟩ := k
  have kf := (RdOf.key (V := V) (A := A) (hf way)).1
  have kg := (RdOf.key (V := U) (A := B) (hg way)).1
  have hA : 0 ≤ A := Int.le_trans (vS_nonneg r) RA.lo
  have hB : 0 ≤ B := Int.le_trans (vS_nonneg s) RB.lo
  refine less_not ?_
  rw [kf, kg]
  rw [eV, eU] at hVU
  refine sg_le hA hB zB (rTo_range way ng r l).1 (rTo_range way mg s m).1 hVU (fun e AB => ?_) (fun e BA => ?_)
  · subst e; exact rTo_mono RA RB AB
  · subst e; exact rTo_mono RB RA BA
theorem sg_mir {ng mg : Bool} {A B : Int} (hA : 0 ≤ A) (hB : 0 ≤ B) (zA : ng = true → 0 < A) (zB : mg = true → 0 < B) (h : -sg ng A = sg mg B) : A = B ∧ ((A = 0 ∧ ng = false ∧ mg = false) ∨ mg = !ng) := by
  cases ng <;> cases mg
  · have h' : -A = B := h
    exact ⟨by omega, .inl ⟨by omega, rfl, rfl⟩⟩
  · have h' : -A = -B := h
    exact ⟨by omega, .inr rfl⟩
  · have h' : - -A = B := h
    exact ⟨by omega, .inr rfl⟩
  · have h' : - -A = -B := h
    have := zA rfl
    have := zB rfl
    omega
/-- The way with the other sign. -/
def mirW (way : Int) : Int := if way = 1 then 2 else if way = 2 then 1 else way
theorem rUp_mir {way : Int} (hw : 0 ≤ way ∧ way ≤ 3) (ng odd : Bool) (l : Int) : rUp (mirW way) (!ng) odd l = rUp way ng odd l := by
  have hc : way = 0 ∨ way = 1 ∨ way = 2 ∨ way = 3 := by omega
  rcases hc with rfl | rfl | rfl | rfl <;> cases ng <;> rfl
theorem rTo_mir {way : Int} (hw : 0 ≤ way ∧ way ≤ 3) (ng : Bool) (r : Nat) (l : Int) : rTo (mirW way) (!ng) r l = rTo way ng r l := by
  unfold rTo bRung
  rw [rUp_mir hw, rUp_mir hw]
theorem key_mir {ng mg : Bool} {t u : Int} (h : (t = 0 ∧ u = 0 ∧ ng = false ∧ mg = false) ∨ (mg = !ng ∧ u = t)) : -sg ng t = sg mg u := by
  rcases h with ⟨rfl, rfl, rfl, rfl⟩ | ⟨rfl, rfl⟩
  · rfl
  · cases ng
    · rfl
    · exact Int.neg_neg u
theorem rd_mirK {ng mg : Bool} {A B : Int} {r s : Nat} {l m : Int} (RA : Rung A r l) (RB : Rung B s m) (zA : ng = true → 0 < A) (zB : mg = true → 0 < B) (e : -sg ng A = sg mg B) {way : Int} (hw : 0 ≤ way ∧ way ≤ 3) :
    r = s ∧ l = m ∧ -sg ng (rTo way ng r l) = sg mg (rTo (mirW way) mg s m) := by
  have hA : 0 ≤ A := Int.le_trans (vS_nonneg r) RA.lo
  have hB : 0 ≤ B := Int.le_trans (vS_nonneg s) RB.lo
  obtain ⟨h1, hc⟩ := sg_mir hA hB zA zB e
  rw [← h1] at RB
  obtain ⟨h2, h3⟩ := RA.unique RB
  refine ⟨h2, h3, key_mir ?_⟩
  rw [← h2, ← h3]
  rcases hc with ⟨h4, h5, h6⟩ | h4
  · left
    rw [h4] at RA
    obtain ⟨h7, h8⟩ := RA.unique rung_zero
    rw [h5, h6, h7, h8]
    exact ⟨rTo_zero way, rTo_zero _, rfl, rfl⟩
  · right
    rw [h4]
    exact ⟨rfl, rTo_mir hw ng r l⟩
theorem rd_mir {V : Int} {ng mg : Bool} {f g : Int → Int × Bool} (h : RdOf V ng f) (k : RdOf (-V) mg g) {way : Int} (hw : 0 ≤ way ∧ way ≤ 3) : (f way).2 = (g (mirW way)).2 ∧ same (neg (f way).1) (g (mirW way)).1 = true := by
  obtain ⟨A, r, l, eV, zA, RA, hf⟩ := h
  obtain ⟨B, s, m, eU, zB, RB, hg⟩ := k
  obtain ⟨kf, cf, rf⟩ := RdOf.key (V := V) (A := A) (hf way)
  obtain ⟨kg, cg, _⟩ := RdOf.key (V := V) (A := B) (hg (mirW way))
  rw [eV] at eU
  obtain ⟨h1, h2, h3⟩ := rd_mirK RA RB zA zB eU hw
  have o1 : (f way).2 = (decide (l ≠ 0) || decide (9218868437227405312 ≤ (r : Int))) := by rw [hf]
  have o2 : (g (mirW way)).2 = (decide (m ≠ 0) || decide (9218868437227405312 ≤ (s : Int))) := by rw [hg]
  clear hf hg RA RB
  subst h1 h2
  exact ⟨o1.trans o2.symm, same_of (cls_neg rf cf) cg (((rg_neg rf cf).2.trans (congrArg Neg.neg kf)).trans (h3.trans kg.symm))⟩
end Go.Proofs.YtgplnodgndbdeaaDoor
