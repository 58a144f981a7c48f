/-
  Plain mathematics: the ways down and up by the nearest float and its neighbours. No Go text in sight.
-/
import Derived.Test.YtcpjdgfnblkfpaaGreatDoorRRd
import Derived.Test.YtcpjdgfnblkfpaaGreatDoorEPat
import Derived.Test.YtcpjdgfnblkfpaaGreatDoorRQs3
import Derived.Test.YtcpjdgfnblkfpaaGreatDoorSBes
namespace Go.Proofs.YtcpjdgfnblkfpaaGreatDoor
open Go Go.RowKit Go.Proofs.YtcpjdgfnblkfpaaGreatDoor.M
set_option linter.unusedSimpArgs false
set_option linter.unusedVariables false

theorem sgTT (x : Int) : sg true x = -x := rfl
theorem sgFF (x : Int) : sg false x = x := rfl
theorem rTo_low {ng : Bool} {r0 : Nat} {left : Int} (way : Int) (h : (r0 : Int) < 9218868437227405312) : rTo way ng r0 left = (r0 : Int) + (if rUp way ng (decide (r0 % 2 = 1)) left then 1 else 0) := by
  unfold rTo; rw [if_pos h]
/-- A number that is not 0: its sign, the rung below it, and what the three ways make of it. -/
theorem dir_cases {V : Int} (h0 : V ≠ 0) : ∃ (g : Bool) (A : Int) (r0 : Nat) (left : Int), V = sg g A ∧ 0 < A ∧ Rung A r0 left ∧ nearP V = patS g (rTo 0 g r0 left) ∧ rdP 1 V = patS g (rTo 1 g r0 left) ∧ rdP 2 V = patS g (rTo 2 g r0 left) := by
  obtain ⟨A, r0, left, e1, hR, e2⟩ := nearP_rung h0
  have hA : 0 < A := by
    by_cases hn : V < 0
    · rw [decide_eq_true hn] at e1
      have : V = -A := e1
      omega
    · rw [decide_eq_false hn] at e1
      have : V = A := e1
      omega
  exact ⟨decide (V < 0), A, r0, left, e1, hA, hR, e2, rdP_eq h0 ⟨A, r0, left, e1, hR, rfl⟩, rdP_eq h0 ⟨A, r0, left, e1, hR, rfl⟩⟩
theorem patS_nn {g : Bool} {r : Int} (h0 : 0 ≤ r) (h1 : r ≤ 9218868437227405312) : nn (patS g r) := by
  obtain ⟨a, b⟩ := patS_rng (ng := g) h0 h1
  exact ⟨a, b⟩
theorem nextS_pos {r : Int} (h0 : 0 ≤ r) (h1 : r < 9218868437227405312) : next (patS false r) = patS false (r + 1) := by
  have hn := patS_nn (g := false) h0 (by omega)
  unfold next
  rw [if_neg hn.2]
  show (if r = 9218868437227405312 then r else if r = -9223372036854775808 then 1 else if r < 0 then r - 1 else r + 1) = r + 1
  rw [if_neg (by omega), if_neg (by omega), if_neg (by omega)]
theorem nextS_neg {r : Int} (h0 : 0 ≤ r) (h1 : r < 9218868437227405312) : next (patS true (r + 1)) = patS true r := by
  have hn := patS_nn (g := true) (show 0 ≤ r + 1 by omega) (by omega)
  unfold next
  rw [if_neg hn.2]
  show (if r + 1 - 9223372036854775808 = 9218868437227405312 then r + 1 - 9223372036854775808 else if r + 1 - 9223372036854775808 = -9223372036854775808 then 1 else if r + 1 - 9223372036854775808 < 0 then r + 1 - 9223372036854775808 - 1 else r + 1 - 9223372036854775808 + 1) = r - 9223372036854775808
  rw [if_neg (by omega), if_neg (by omega), if_pos (by omega)]
  omega
theorem prevS_pos {r : Int} (h0 : 0 ≤ r) (h1 : r < 9218868437227405312) : prev (patS false (r + 1)) = patS false r := by
  have hn := patS_nn (g := false) (show 0 ≤ r + 1 by omega) (by omega)
  rw [prev_down hn (show ¬ r + 1 = -4503599627370496 by omega)]
  show (if r + 1 = 0 ∨ r + 1 = -9223372036854775808 then (-9223372036854775807 : Int) else if r + 1 < 0 then r + 1 + 1 else r + 1 - 1) = r
  rw [if_neg (by omega), if_neg (by omega)]
  omega
theorem prevS_neg {r : Int} (h0 : 0 ≤ r) (h1 : r < 9218868437227405312) : prev (patS true r) = patS true (r + 1) := by
  have hn := patS_nn (g := true) h0 (by omega)
  rw [prev_down hn (show ¬ r - 9223372036854775808 = -4503599627370496 by omega)]
  show (if r - 9223372036854775808 = 0 ∨ r - 9223372036854775808 = -9223372036854775808 then (-9223372036854775807 : Int) else if r - 9223372036854775808 < 0 then r - 9223372036854775808 + 1 else r - 9223372036854775808 - 1) = r + 1 - 9223372036854775808
  by_cases hr : r = 0
  · rw [if_pos (by omega)]; omega
  · rw [if_neg (by omega), if_pos (by omega)]; omega
theorem rUp_dn (odd : Bool) (left : Int) : rUp 1 false odd left = false ∧ (left ≠ 0 → rUp 1 true odd left = true) ∧ rUp 2 true odd left = false ∧ (left ≠ 0 → rUp 2 false odd left = true) ∧ (∀ way g, left = 0 → rUp way g odd left = false) := by
  refine ⟨?_, fun h => ?_, ?_, fun h => ?_, fun way g h => ?_⟩
  · unfold rUp; simp
  · unfold rUp; simp [h]
  · unfold rUp; simp
  · unfold rUp; simp [h]
  · cases hu : rUp way g odd left
    · rfl
    · rw [h] at hu; exact absurd hu (fun q => rUp_left q)
/-- The nearest one is finite: by the sign of what it lost. -/
theorem dir_fin {V : Int} (h0 : V ≠ 0) (hf : pok (nearP V) = true) :
    (V < patV (nearP V) → prev (nearP V) = rdP 1 V ∧ nearP V = rdP 2 V) ∧ (patV (nearP V) < V → nearP V = rdP 1 V ∧ next (nearP V) = rdP 2 V) ∧ (V = patV (nearP V) → nearP V = rdP 1 V ∧ nearP V = rdP 2 V) := by
  obtain ⟨g, A, r0, left, e, hA, hR, en, e1, e2⟩ := dir_cases h0
  have hrr := rTo_range 0 g r0 left
  rw [en, patS_fin hrr.1 hrr.2] at hf
  have hf := of_decide_eq_true hf
  have hr0 : (r0 : Int) < 9218868437227405312 := by
    rcases Int.lt_or_le (r0 : Int) 9218868437227405312 with q | q
    · exact q
    · exfalso
      unfold rTo at hf
      rw [if_neg (by omega)] at hf
      unfold bRung at hf
      rw [show rUp 0 g true 3 = true by cases g <;> decide, if_pos rfl] at hf
      omega
  obtain ⟨lo, hi, l0, l1, l2, l3⟩ := hR
  obtain ⟨u1, u2, u3, u4, u5⟩ := rUp_dn (decide (r0 % 2 = 1)) left
  rw [en, e1, e2, rTo_low 1 hr0, rTo_low 2 hr0]
  rw [rTo_low 0 hr0] at hf ⊢
  have pv : ∀ r : Nat, (r : Int) < 9218868437227405312 → patV (patS g (r : Int)) = sg g (vS r) := fun r hr => by
    cases g
    · exact patV_patS hr (fun q => by cases q)
    · exact patV_neg hr
  have pv0 := pv r0 hr0
  have pv1 := pv (r0 + 1)
  clear pv l1 l2 l3
  generalize vS r0 = a at *
  generalize vS (r0 + 1) = b at *
  by_cases hl : left = 0
  · have ha := l0.1 hl
    rw [u5 0 g hl, u5 1 g hl, u5 2 g hl]
    simp only [Bool.false_eq_true, if_false, Int.add_zero] at hf ⊢
    rw [pv0, e, ha]
    clear pv0 pv1 en e1 e2 e h0
    exact ⟨fun q => absurd q (by omega), fun q => absurd q (by omega), fun _ => ⟨trivial, trivial⟩⟩
  · have hlt : a < A := by
      have : A ≠ a := fun q => hl (l0.2 q)
      omega
    cases hu : rUp 0 g (decide (r0 % 2 = 1)) left
    · rw [hu] at hf
      simp only [Bool.false_eq_true, if_false, Int.add_zero] at hf ⊢
      rw [pv0, e]
      clear pv0 pv1 en e1 e2 e h0
      cases g
      · rw [u1, u4 hl]
        simp only [Bool.false_eq_true, if_false, if_true, Int.add_zero]
        refine ⟨fun q => ?_, fun _ => ⟨trivial, nextS_pos (by omega) hr0⟩, fun q => ?_⟩
        · rw [sgFF, sgFF] at q
          omega
        · rw [sgFF, sgFF] at q
          omega
      · rw [u2 hl, u3]
        simp only [Bool.false_eq_true, if_false, if_true, Int.add_zero]
        refine ⟨fun _ => ⟨prevS_neg (by omega) hr0, trivial⟩, fun q => ?_, fun q => ?_⟩
        · rw [sgTT, sgTT] at q
          omega
        · rw [sgTT, sgTT] at q
          omega
    · rw [hu] at hf
      simp only [if_true] at hf ⊢
      rw [show (r0 : Int) + 1 = ((r0 + 1 : Nat) : Int) by push_cast; rfl] at hf ⊢
      rw [pv1 hf, e]
      clear pv0 pv1 en e1 e2 e h0
      rw [show ((r0 + 1 : Nat) : Int) = (r0 : Int) + 1 by push_cast; rfl]
      cases g
      · rw [u1, u4 hl]
        simp only [Bool.false_eq_true, if_false, if_true, Int.add_zero]
        refine ⟨fun _ => ⟨prevS_pos (by omega) hr0, trivial⟩, fun q => ?_, fun q => ?_⟩
        · rw [sgFF, sgFF] at q
          omega
        · rw [sgFF, sgFF] at q
          omega
      · rw [u2 hl, u3]
        simp only [Bool.false_eq_true, if_false, if_true, Int.add_zero]
        refine ⟨fun q => ?_, fun _ => ⟨trivial, nextS_neg (by omega) hr0⟩, fun q => ?_⟩
        · rw [sgTT, sgTT] at q
          omega
        · rw [sgTT, sgTT] at q
          omega
/-- The nearest one is infinite. -/
theorem dir_inf {V : Int} (h0 : V ≠ 0) (hf : pok (nearP V) = false) :
    (0 < V → nearP V = 9218868437227405312 ∧ rdP 1 V = 9218868437227405311 ∧ rdP 2 V = 9218868437227405312) ∧ (V < 0 → nearP V = -4503599627370496 ∧ rdP 1 V = -4503599627370496 ∧ rdP 2 V = -4503599627370497) := by
  obtain ⟨g, A, r0, left, e, hA, hR, en, e1, e2⟩ := dir_cases h0
  have hrr := rTo_range 0 g r0 left
  rw [en, patS_fin hrr.1 hrr.2] at hf
  have hf := of_decide_eq_false hf
  obtain ⟨u1, u2, u3, u4, u5⟩ := rUp_dn (decide (r0 % 2 = 1)) left
  have hr : rTo 0 g r0 left = 9218868437227405312 := by omega
  have key : (∀ g', g = g' → rTo 1 g r0 left = if g' then 9218868437227405312 else 9218868437227405311) ∧ (∀ g', g = g' → rTo 2 g r0 left = if g' then 9218868437227405311 else 9218868437227405312) := by
    by_cases hr0 : (r0 : Int) < 9218868437227405312
    · rw [rTo_low 0 hr0] at hr
      have hl : left ≠ 0 := fun q => by
        rw [u5 0 g q] at hr
        simp at hr
        omega
      have hrv : (r0 : Int) = 9218868437227405311 := by
        split at hr <;> omega
      rw [rTo_low 1 hr0, rTo_low 2 hr0]
      cases g
      · rw [u1, u4 hl]
        constructor
        · intro g' hg; subst hg; simp; omega
        · intro g' hg; subst hg; simp; omega
      · rw [u2 hl, u3]
        constructor
        · intro g' hg; subst hg; simp; omega
        · intro g' hg; subst hg; simp; omega
    · unfold rTo bRung
      rw [if_neg hr0, if_neg hr0]
      cases g
      · constructor
        · intro g' hg; subst hg; decide
        · intro g' hg; subst hg; decide
      · constructor
        · intro g' hg; subst hg; decide
        · intro g' hg; subst hg; decide
  cases g
  · refine ⟨fun _ => ⟨?_, ?_, ?_⟩, fun q => ?_⟩
    · rw [en, hr]; rfl
    · rw [e1, key.1 false rfl]; rfl
    · rw [e2, key.2 false rfl]; rfl
    · have : V = A := e
      omega
  · refine ⟨fun q => ?_, fun _ => ⟨?_, ?_, ?_⟩⟩
    · have : V = -A := e
      omega
    · rw [en, hr]; rfl
    · rw [e1, key.1 true rfl]; rfl
    · rw [e2, key.2 true rfl]; rfl
end Go.Proofs.YtcpjdgfnblkfpaaGreatDoor
