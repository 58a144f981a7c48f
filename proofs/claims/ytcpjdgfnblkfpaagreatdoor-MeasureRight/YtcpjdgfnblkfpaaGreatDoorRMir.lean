/-
  Plain mathematics: rounding with the other sign, and that it keeps the order.
-/
import Derived.Test.YtcpjdgfnblkfpaaGreatDoorRNear2
import Derived.Test.YtcpjdgfnblkfpaaGreatDoorMathF
namespace Go.Proofs.YtcpjdgfnblkfpaaGreatDoor
open Go Go.RowKit Go.Proofs.YtcpjdgfnblkfpaaGreatDoor.M
set_option linter.unusedSimpArgs false
set_option linter.unusedVariables false

theorem cls_pat {s : Bool} {r : Int} (h0 : 0 ≤ r) (h1 : r ≤ 9218868437227405312) (h : s = true → 0 < r) : cls (patS s r) ≠ 4 := by
  obtain ⟨a, b, _⟩ := patS_facts h0 h1 h
  intro q
  have := (cls_rg a).1.1 q
  omega
theorem key_pat {s : Bool} {r : Int} (h0 : 0 ≤ r) (h1 : r ≤ 9218868437227405312) (h : s = true → 0 < r) : key (patS s r) = sg s r := by
  unfold key patS sg
  cases s
  · simp only [Bool.false_eq_true, if_false]
    rw [if_neg (by omega)]
  · have := h rfl
    simp only [if_true]
    rw [if_pos (by omega)]
    omega
theorem rg_neg {b : Int} (hb : rng b) (h : cls b ≠ 4) : rg (neg b) = rg b ∧ key (neg b) = -key b := by
  unfold rng at hb
  unfold neg
  rw [if_neg h]
  unfold rg key
  by_cases h0 : b < 0
  · rw [if_pos h0, if_neg (by omega), if_pos h0, if_neg (by omega), if_pos h0]; omega
  · rw [if_neg h0, if_pos (by omega), if_neg h0, if_pos (by omega), if_neg h0]; omega
theorem cls_neg {b : Int} (hb : rng b) (h : cls b ≠ 4) : cls (neg b) ≠ 4 := by
  intro q
  have h1 := (cls_rg (rng_neg hb)).1.1 q
  rw [(rg_neg hb h).1] at h1
  exact h ((cls_rg hb).1.2 h1)
theorem same_of {a b : Int} (ha : cls a ≠ 4) (hb : cls b ≠ 4) (h : key a = key b) : same a b = true := by
  unfold same
  rw [decide_eq_false ha, decide_eq_false hb, decide_eq_true h]
  rfl
theorem less_not {a b : Int} (h : key b ≤ key a) : less a b = false := by
  unfold less
  rw [decide_eq_false (p := key a < key b) (by omega), Bool.and_false, Bool.and_false]
theorem rUp_mono {way : Int} {ng odd : Bool} {A B a b l k : Int} (h0 : l = 0 ↔ A = a) (h2 : l = 2 ↔ 2 * A = a + b) (h3 : l = 3 ↔ a + b < 2 * A) (g0 : k = 0 ↔ B = a) (g2 : k = 2 ↔ 2 * B = a + b) (g3 : k = 3 ↔ a + b < 2 * B) (lo : a ≤ A) (AB : A ≤ B)
    (h : rUp way ng odd l = true) : rUp way ng odd k = true := by
  have nz : l ≠ 0 → k ≠ 0 := fun q e => by
    have e1 := g0.1 e
    exact q (h0.2 (by omega))
  unfold rUp at *
  split at h
  · rename_i e
    rw [if_pos e]
    simp only [Bool.or_eq_true, Bool.and_eq_true, decide_eq_true_eq] at *
    rcases h with h | ⟨h, ho⟩
    · left; exact g3.2 (by have := h3.1 h; omega)
    · have e2 := h2.1 h
      by_cases e3 : 2 * B = a + b
      · right; exact ⟨g2.2 e3, ho⟩
      · left; exact g3.2 (by omega)
  · rename_i e
    rw [if_neg e]
    split at h
    · rename_i e2
      rw [if_pos e2]
      simp only [Bool.and_eq_true, decide_eq_true_eq] at *
      exact ⟨nz h.1, h.2⟩
    · rename_i e2
      rw [if_neg e2]
      split at h
      · rename_i e3
        rw [if_pos e3]
        simp only [Bool.and_eq_true, decide_eq_true_eq] at *
        exact ⟨nz h.1, h.2⟩
      · cases h
theorem rung_le {A B : Int} {r s : Nat} {l k : Int} (h : Rung A r l) (g : Rung B s k) (AB : A ≤ B) : r ≤ s := by
  rcases Nat.lt_or_ge s r with q | q
  · exfalso
    have h1 := h.lo
    have g1 := g.hi
    have e : vS (s + 1) ≤ vS r := by
      rcases Nat.lt_or_eq_of_le (show s + 1 ≤ r from q) with q2 | q2
      · exact Int.le_of_lt (vS_lt q2)
      · rw [q2]; exact Int.le_refl _
    exact absurd (Int.lt_of_lt_of_le g1 (Int.le_trans e (Int.le_trans h1 AB))) (Int.lt_irrefl _)
  · exact q
theorem rTo_mono {way : Int} {ng : Bool} {A B : Int} {r s : Nat} {l k : Int} (h : Rung A r l) (g : Rung B s k) (AB : A ≤ B) : rTo way ng r l ≤ rTo way ng s k := by
  have hrs := rung_le h g AB
  rcases Nat.lt_or_eq_of_le hrs with q | q
  · clear h g
    unfold rTo
    by_cases hs : (s : Int) < 9218868437227405312
    · rw [if_pos hs, if_pos (by omega)]
      split <;> split <;> omega
    · rw [if_neg hs]
      by_cases hr : (r : Int) < 9218868437227405312
      · rw [if_pos hr]
        unfold bRung
        cases hu : rUp way ng (decide (r % 2 = 1)) l
        · simp only [Bool.false_eq_true, if_false]
          split <;> omega
        · rw [if_pos rfl, if_pos (rUp_more hu)]
          omega
      · rw [if_neg hr]
        exact Int.le_refl _
  · subst q
    have lo := h.lo
    have h0 := h.l0
    have h2 := h.l2
    have h3 := h.l3
    have g0 := g.l0
    have g2 := g.l2
    have g3 := g.l3
    have hm := fun odd => @rUp_mono way ng odd A B (vS r) (vS (r + 1)) l k h0 h2 h3 g0 g2 g3 lo AB
    clear h g lo h0 h2 h3 g0 g2 g3
    unfold rTo
    by_cases hr : (r : Int) < 9218868437227405312
    · rw [if_pos hr, if_pos hr]
      cases hu : rUp way ng (decide (r % 2 = 1)) l
      · simp only [Bool.false_eq_true, if_false]
        split <;> omega
      · rw [hm _ hu]
        exact Int.le_refl _
    · rw [if_neg hr, if_neg hr]
      exact Int.le_refl _
theorem vS_nonneg (r : Nat) : 0 ≤ vS r := by
  rcases Nat.eq_zero_or_pos r with h | h
  · subst h; rw [vS_zero]; exact Int.le_refl _
  · have := vS_lt h
    rw [vS_zero] at this
    exact Int.le_of_lt this
theorem sg_key (ng : Bool) {r : Int} (h0 : 0 ≤ r) : sg (ng && decide (0 < r)) r = sg ng r := by
  by_cases h : 0 < r
  · rw [decide_eq_true h, Bool.and_true]
  · obtain rfl : r = 0 := by omega
    cases ng <;> rfl
/-- A pattern that is answered: its place in the order, and that it is a number's. -/
theorem RdOf.key {V : Int} {ng : Bool} {f : Int → Int × Bool} {A : Int} {r0 : Nat} {left : Int} {way : Int} (hf : f way = (patS (ng && decide (0 < rTo way ng r0 left)) (rTo way ng r0 left), decide (left ≠ 0) || decide (9218868437227405312 ≤ (r0 : Int)))) :
    M.key (f way).1 = sg ng (rTo way ng r0 left) ∧ cls (f way).1 ≠ 4 ∧ rng (f way).1 := by
  obtain ⟨g1, g2⟩ := rTo_range way ng r0 left
  rw [hf]
  exact ⟨(key_pat g1 g2 and_pos).trans (sg_key ng g1), cls_pat g1 g2 and_pos, (patS_facts g1 g2 and_pos).1⟩
theorem sg_le {ng mg : Bool} {A B r s : Int} (hA : 0 ≤ A) (hB : 0 ≤ B) (zB : mg = true → 0 < B) (r0 : 0 ≤ r) (s0 : 0 ≤ s) (h : sg ng A ≤ sg mg B) (up : ng = mg → A ≤ B → r ≤ s) (dn : ng = mg → B ≤ A → s ≤ r) : sg ng r ≤ sg mg s := by
  cases ng <;> cases mg
  · exact up rfl h
  · exfalso
    have h' : A ≤ -B := h
    have := zB rfl
    omega
  · show -r ≤ s
    omega
  · have h' : -A ≤ -B := h
    have := dn rfl (by omega)
    show -r ≤ -s
    omega
theorem rd_mono {V U : Int} {ng mg : Bool} {f g : Int → Int × Bool} (h : RdOf V ng f) (k : RdOf U mg g) (hVU : V ≤ U) (way : Int) : less (g way).1 (f way).1 = false := by
  obtain ⟨A, r, l, eV, zA, RA, hf⟩ := h
  obtain ⟨B, s, m, eU, zB, RB, hg⟩ := k
  have kf := (RdOf.key (V := V) (A := A) (hf way)).1
  have kg := (RdOf.key (V := U) (A := B) (hg way)).1
  have hA : 0 ≤ A := Int.le_trans (vS_nonneg r) RA.lo
  have hB : 0 ≤ B := Int.le_trans (vS_nonneg s) RB.lo
  refine less_not ?_
  rw [kf, kg]
  rw [eV, eU] at hVU
  refine sg_le hA hB zB (rTo_range way ng r l).1 (rTo_range way mg s m).1 hVU (fun e AB => ?_) (fun e BA => ?_)
  · subst e; exact rTo_mono RA RB AB
  · subst e; exact rTo_mono RB RA BA
theorem sg_mir {ng mg : Bool} {A B : Int} (hA : 0 ≤ A) (hB : 0 ≤ B) (zA : ng = true → 0 < A) (zB : mg = true → 0 < B) (h : -sg ng A = sg mg B) : A = B ∧ ((A = 0 ∧ ng = false ∧ mg = false) ∨ mg = !ng) := by
  cases ng <;> cases mg
  · have h' : -A = B := h
    exact ⟨by omega, .inl ⟨by omega, rfl, rfl⟩⟩
  · have h' : -A = -B := h
    exact ⟨by omega, .inr rfl⟩
  · have h' : - -A = B := h
    exact ⟨by omega, .inr rfl⟩
  · have h' : - -A = -B := h
    have := zA rfl
    have := zB rfl
    omega
/-- The way with the other sign. -/
def mirW (way : Int) : Int := if way = 1 then 2 else if way = 2 then 1 else way
theorem rUp_mir {way : Int} (hw : 0 ≤ way ∧ way ≤ 3) (ng odd : Bool) (l : Int) : rUp (mirW way) (!ng) odd l = rUp way ng odd l := by
  have hc : way = 0 ∨ way = 1 ∨ way = 2 ∨ way = 3 := by omega
  rcases hc with rfl | rfl | rfl | rfl <;> cases ng <;> rfl
theorem rTo_mir {way : Int} (hw : 0 ≤ way ∧ way ≤ 3) (ng : Bool) (r : Nat) (l : Int) : rTo (mirW way) (!ng) r l = rTo way ng r l := by
  unfold rTo bRung
  rw [rUp_mir hw, rUp_mir hw]
theorem key_mir {ng mg : Bool} {t u : Int} (h : (t = 0 ∧ u = 0 ∧ ng = false ∧ mg = false) ∨ (mg = !ng ∧ u = t)) : -sg ng t = sg mg u := by
  rcases h with ⟨rfl, rfl, rfl, rfl⟩ | ⟨rfl, rfl⟩
  · rfl
  · cases ng
    · rfl
    · exact Int.neg_neg u
theorem rd_mirK {ng mg : Bool} {A B : Int} {r s : Nat} {l m : Int} (RA : Rung A r l) (RB : Rung B s m) (zA : ng = true → 0 < A) (zB : mg = true → 0 < B) (e : -sg ng A = sg mg B) {way : Int} (hw : 0 ≤ way ∧ way ≤ 3) :
    r = s ∧ l = m ∧ -sg ng (rTo way ng r l) = sg mg (rTo (mirW way) mg s m) := by
  have hA : 0 ≤ A := Int.le_trans (vS_nonneg r) RA.lo
  have hB : 0 ≤ B := Int.le_trans (vS_nonneg s) RB.lo
  obtain ⟨h1, hc⟩ := sg_mir hA hB zA zB e
  rw [← h1] at RB
  obtain ⟨h2, h3⟩ := RA.unique RB
  refine ⟨h2, h3, key_mir ?_⟩
  rw [← h2, ← h3]
  rcases hc with ⟨h4, h5, h6⟩ | h4
  · left
    rw [h4] at RA
    obtain ⟨h7, h8⟩ := RA.unique rung_zero
    rw [h5, h6, h7, h8]
    exact ⟨rTo_zero way, rTo_zero _, rfl, rfl⟩
  · right
    rw [h4]
    exact ⟨rfl, rTo_mir hw ng r l⟩
theorem rd_mir {V : Int} {ng mg : Bool} {f g : Int → Int × Bool} (h : RdOf V ng f) (k : RdOf (-V) mg g) {way : Int} (hw : 0 ≤ way ∧ way ≤ 3) : (f way).2 = (g (mirW way)).2 ∧ same (neg (f way).1) (g (mirW way)).1 = true := by
  obtain ⟨A, r, l, eV, zA, RA, hf⟩ := h
  obtain ⟨B, s, m, eU, zB, RB, hg⟩ := k
  obtain ⟨kf, cf, rf⟩ := RdOf.key (V := V) (A := A) (hf way)
  obtain ⟨kg, cg, _⟩ := RdOf.key (V := V) (A := B) (hg (mirW way))
  rw [eV] at eU
  obtain ⟨h1, h2, h3⟩ := rd_mirK RA RB zA zB eU hw
  have o1 : (f way).2 = (decide (l ≠ 0) || decide (9218868437227405312 ≤ (r : Int))) := by rw [hf]
  have o2 : (g (mirW way)).2 = (decide (m ≠ 0) || decide (9218868437227405312 ≤ (s : Int))) := by rw [hg]
  clear hf hg RA RB
  subst h1 h2
  exact ⟨o1.trans o2.symm, same_of (cls_neg rf cf) cg (((rg_neg rf cf).2.trans (congrArg Neg.neg kf)).trans (h3.trans kg.symm))⟩
end Go.Proofs.YtcpjdgfnblkfpaaGreatDoor
