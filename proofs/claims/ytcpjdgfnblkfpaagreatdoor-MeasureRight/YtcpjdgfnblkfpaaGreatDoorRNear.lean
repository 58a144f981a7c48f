/-
  Plain mathematics: a number and its rung, for 0 too; which neighbour is nearer.
-/
import Derived.Test.YtcpjdgfnblkfpaaGreatDoorRLaw
namespace Go.Proofs.YtcpjdgfnblkfpaaGreatDoor
open Go Go.RowKit Go.Proofs.YtcpjdgfnblkfpaaGreatDoor.M
set_option linter.unusedSimpArgs false
set_option linter.unusedVariables false

/-- What the four ways answer at a number, by its rung. -/
def RdOf (V : Int) (ng : Bool) (f : Int → Int × Bool) : Prop := ∃ (A : Int) (r0 : Nat) (left : Int), V = sg ng A ∧ (ng = true → 0 < A) ∧ Rung A r0 left ∧ ∀ way, f way = (patS (ng && decide (0 < rTo way ng r0 left)) (rTo way ng r0 left), decide (left ≠ 0) || decide (9218868437227405312 ≤ (r0 : Int)))
theorem rung_zero_aux {a b : Int} (h0 : a = 0) (h1 : a < b) : (0 : Int) < b ∧ (((0 : Int) = 0 ↔ (0 : Int) = a) ∧ ((0 : Int) = 1 ↔ a < 0 ∧ 2 * 0 < a + b) ∧ ((0 : Int) = 2 ↔ 2 * 0 = a + b) ∧ ((0 : Int) = 3 ↔ a + b < 2 * 0)) := by
  subst h0
  exact ⟨h1, by omega, by omega, by omega, by omega⟩
theorem rung_zero : Rung 0 0 0 := by
  have h1 := vS_lt (show 0 < 0 + 1 by decide)
  have h0 := vS_zero
  obtain ⟨q, a, b, c, d⟩ := rung_zero_aux h0 h1
  exact ⟨Int.le_of_eq h0, q, a, b, c, d⟩
theorem rTo_zero (way : Int) : rTo way false 0 0 = 0 := by
  unfold rTo
  rw [if_pos (by decide)]
  cases h : rUp way false (decide (0 % 2 = 1)) 0
  · rfl
  · exact (rUp_left h).elim
theorem val_posA {x : NumR} (ok : okR x = true) (h0 : 0 < x.n) : 0 < val x.d x.n * pw x.e := by
  obtain ⟨na, _⟩ := okR_sane ok
  exact Int.mul_pos (val_pos na h0) (pw_pos _)
theorem to_rd {x : NumR} (ok : okR x = true) : RdOf x.V x.ng (fun way => toR way x) := by
  by_cases h0 : x.n = 0
  · have hz : x.ng = false := by
      have := of_decide_eq_true ok
      rcases this with ⟨_, a, b⟩ | ⟨a, _⟩
      · exact a
      · omega
    have hv : x.V = 0 := by
      have hv : val x.d x.n = 0 := by rw [h0]; rfl
      unfold NumR.V
      rw [hv, sg_zero, Int.zero_mul]
    refine ⟨0, 0, 0, by rw [hv, hz]; rfl, (fun h => by rw [hz] at h; cases h), rung_zero, fun way => ?_⟩
    rw [hz, rTo_zero]
    exact to_zero ok h0 way
  · obtain ⟨r0, left, hR, hf⟩ := to_all ok (by omega)
    have hp := val_posA ok (by omega)
    have hV : x.V = sg x.ng (val x.d x.n * pw x.e) := by
      unfold NumR.V
      exact sg_prod _ _ _
    exact ⟨_, r0, left, hV, (fun _ => hp), hR, hf⟩
theorem ord_neg_iff {a b : Int} : ord a b < 0 ↔ a < b := by
  rcases Int.lt_trichotomy a b with h | h | h
  · rw [ord_lt h]; exact ⟨fun _ => h, fun _ => by decide⟩
  · rw [ord_eq h]; exact ⟨fun q => absurd q (by decide), fun q => by omega⟩
  · rw [ord_gt h]; exact ⟨fun q => absurd q (by decide), fun q => by omega⟩
theorem ord_pos_iff {a b : Int} : 0 < ord a b ↔ b < a := by
  rcases Int.lt_trichotomy a b with h | h | h
  · rw [ord_lt h]; exact ⟨fun q => absurd q (by decide), fun q => by omega⟩
  · rw [ord_eq h]; exact ⟨fun q => absurd q (by decide), fun q => by omega⟩
  · rw [ord_gt h]; exact ⟨fun _ => h, fun _ => by decide⟩
theorem ord_zero_iff {a b : Int} : ord a b = 0 ↔ a = b := by
  rcases Int.lt_trichotomy a b with h | h | h
  · rw [ord_lt h]; exact ⟨fun q => absurd q (by decide), fun q => by omega⟩
  · rw [ord_eq h]; exact ⟨fun _ => h, fun _ => rfl⟩
  · rw [ord_gt h]; exact ⟨fun q => absurd q (by decide), fun q => by omega⟩
theorem near_pos {A a b left : Int} (l1 : left = 1 ↔ a < A ∧ 2 * A < a + b) (l2 : left = 2 ↔ 2 * A = a + b) (l3 : left = 3 ↔ a + b < 2 * A) (lo : a < A) :
    (ord (A - a) (b - A) < 0 → left = 1) ∧ (0 < ord (A - a) (b - A) → left = 3) ∧ (ord (A - a) (b - A) = 0 → left = 2) :=
  ⟨fun h => l1.2 ⟨lo, by have := ord_neg_iff.1 h; omega⟩, fun h => l3.2 (by have := ord_pos_iff.1 h; omega), fun h => l2.2 (by have := ord_zero_iff.1 h; omega)⟩
theorem near_neg {A a b left : Int} (l1 : left = 1 ↔ a < A ∧ 2 * A < a + b) (l2 : left = 2 ↔ 2 * A = a + b) (l3 : left = 3 ↔ a + b < 2 * A) (lo : a < A) :
    (ord (-A - -b) (-a - -A) < 0 → left = 3) ∧ (0 < ord (-A - -b) (-a - -A) → left = 1) ∧ (ord (-A - -b) (-a - -A) = 0 → left = 2) :=
  ⟨fun h => l3.2 (by have := ord_neg_iff.1 h; omega), fun h => l1.2 ⟨lo, by have := ord_pos_iff.1 h; omega⟩, fun h => l2.2 (by have := ord_zero_iff.1 h; omega)⟩
theorem near_posS {A a b left : Int} (l1 : left = 1 ↔ a < A ∧ 2 * A < a + b) (l2 : left = 2 ↔ 2 * A = a + b) (l3 : left = 3 ↔ a + b < 2 * A) (lo : a < A) :
    (ord (sg false A - sg false a) (sg false b - sg false A) < 0 → left = 1) ∧ (0 < ord (sg false A - sg false a) (sg false b - sg false A) → left = 3) ∧ (ord (sg false A - sg false a) (sg false b - sg false A) = 0 → left = 2) := near_pos l1 l2 l3 lo
theorem near_negS {A a b left : Int} (l1 : left = 1 ↔ a < A ∧ 2 * A < a + b) (l2 : left = 2 ↔ 2 * A = a + b) (l3 : left = 3 ↔ a + b < 2 * A) (lo : a < A) :
    (ord (sg true A - sg true b) (sg true a - sg true A) < 0 → left = 3) ∧ (0 < ord (sg true A - sg true b) (sg true a - sg true A) → left = 1) ∧ (ord (sg true A - sg true b) (sg true a - sg true A) = 0 → left = 2) := near_neg l1 l2 l3 lo
theorem rTo0_1 {ng : Bool} {r0 : Nat} (h : (r0 : Int) < 9218868437227405312) : rTo 0 ng r0 1 = (r0 : Int) := by
  unfold rTo
  rw [if_pos h]
  simp [rUp]
theorem rTo0_3 {ng : Bool} {r0 : Nat} (h : (r0 : Int) < 9218868437227405312) : rTo 0 ng r0 3 = ((r0 + 1 : Nat) : Int) := by
  unfold rTo
  rw [if_pos h]
  simp [rUp]
theorem rTo0_2 {ng : Bool} {r0 : Nat} (h : (r0 : Int) < 9218868437227405312) : rTo 0 ng r0 2 % 2 = 0 := by
  unfold rTo
  rw [if_pos h]
  by_cases hp : r0 % 2 = 1
  · simp [rUp, hp]; omega
  · simp [rUp, hp]; omega
theorem patS_even {b : Bool} {r : Int} (h : r % 2 = 0) : patS b r % 2 = 0 := by
  unfold patS
  cases b
  · exact h
  · show (r - 9223372036854775808) % 2 = 0; omega
theorem and_pos {ng : Bool} {r : Int} (h : (ng && decide (0 < r)) = true) : 0 < r := by
  cases ng
  · cases h
  · rw [Bool.true_and] at h; exact of_decide_eq_true h
theorem pat_fin {ng : Bool} {r : Int} (h0 : 0 ≤ r) (h1 : r ≤ 9218868437227405312) (h : pok (patS (ng && decide (0 < r)) r) = true) : r < 9218868437227405312 := by
  rw [patS_pok h0 h1 and_pos] at h
  exact of_decide_eq_true h
theorem patV_rung {ng : Bool} {r : Nat} (h : (r : Int) < 9218868437227405312) : patV (patS (ng && decide ((0 : Int) < (r : Int))) (r : Int)) = sg ng (vS r) := by
  rw [patV_patS h (fun q => by have := and_pos q; omega)]
  by_cases h0 : r = 0
  · subst h0
    rw [vS_zero]
    simp [sg]
  · have e : (ng && decide ((0 : Int) < (r : Int))) = ng := by rw [decide_eq_true (by omega), Bool.and_true]
    rw [e]
structure Nea (V : Int) (f : Int → Int × Bool) : Prop where
  lo : ord (V - patV (f 1).1) (patV (f 2).1 - V) < 0 → (f 0).1 = (f 1).1
  hi : 0 < ord (V - patV (f 1).1) (patV (f 2).1 - V) → (f 0).1 = (f 2).1
  ev : ord (V - patV (f 1).1) (patV (f 2).1 - V) = 0 → (f 0).1 % 2 = 0
theorem Nea.of {V : Int} {f : Int → Int × Bool} {d u n p q : Int} {o : Bool} (f1 : f 1 = (d, o)) (f2 : f 2 = (u, o)) (f0 : f 0 = (n, o)) (hd : patV d = p) (hu : patV u = q)
    (lo : ord (V - p) (q - V) < 0 → n = d) (hi : 0 < ord (V - p) (q - V) → n = u) (ev : ord (V - p) (q - V) = 0 → n % 2 = 0) : Nea V f := by
  subst hd hu
  exact ⟨by rw [f1, f2, f0]; exact lo, by rw [f1, f2, f0]; exact hi, by rw [f1, f2, f0]; exact ev⟩
theorem nearest {V : Int} {ng : Bool} {f : Int → Int × Bool} (h : RdOf V ng f) (o : (f 0).2 = true) (pd : pok (f 1).1 = true) (pu : pok (f 2).1 = true) : Nea V f := by
  obtain ⟨A, r0, left, hV, hA, hR, hf⟩ := h
  have f1 := hf 1
  have f2 := hf 2
  have f0 := hf 0
  rw [f1] at pd
  rw [f2] at pu
  rw [f0] at o
  have g1 := rTo_range 1 ng r0 left
  have g2 := rTo_range 2 ng r0 left
  have q1 := pat_fin g1.1 g1.2 pd
  have q2 := pat_fin g2.1 g2.2 pu
  clear pd pu hf g1 g2
  by_cases hr : (r0 : Int) < 9218868437227405312
  · obtain ⟨t1, t2, t3, t0⟩ := rTo_fin (ng := ng) (left := left) hr
    have hl : left ≠ 0 := by
      have o' : (decide (left ≠ 0) || decide (9218868437227405312 ≤ (r0 : Int))) = true := o
      rw [decide_eq_false (p := 9218868437227405312 ≤ (r0 : Int)) (Int.not_le.2 hr), Bool.or_false] at o'
      exact of_decide_eq_true o'
    have hAl : vS r0 < A := by
      rcases Int.lt_or_eq_of_le hR.lo with h | h
      · exact h
      · exact absurd (hR.l0.2 h.symm) hl
    have l1 := hR.l1
    have l2 := hR.l2
    have l3 := hR.l3
    clear hR t3 t0 hA
    have V0 := patV_rung (ng := ng) hr
    cases ng
    · have e1 : rTo 1 false r0 left = (r0 : Int) := by rw [t1, if_neg (fun h => by cases h.2)]
      have e2 : rTo 2 false r0 left = ((r0 + 1 : Nat) : Int) := by rw [t2, if_pos ⟨hl, rfl⟩]
      rw [e1] at f1
      rw [e2] at f2 q2
      have V1 := patV_rung (ng := false) q2
      obtain ⟨n1, n2, n3⟩ := near_posS l1 l2 l3 hAl
      refine Nea.of f1 f2 f0 V0 V1 ?_ ?_ ?_
      · intro h
        rw [hV] at h
        have := n1 h
        subst this
        rw [rTo0_1 hr]
      · intro h
        rw [hV] at h
        have := n2 h
        subst this
        rw [rTo0_3 hr]
      · intro h
        rw [hV] at h
        have := n3 h
        subst this
        exact patS_even (rTo0_2 hr)
    · have e1 : rTo 1 true r0 left = ((r0 + 1 : Nat) : Int) := by rw [t1, if_pos ⟨hl, rfl⟩]
      have e2 : rTo 2 true r0 left = (r0 : Int) := by rw [t2, if_neg (fun h => by cases h.2)]
      rw [e1] at f1 q1
      rw [e2] at f2
      have V1 := patV_rung (ng := true) q1
      obtain ⟨n1, n2, n3⟩ := near_negS l1 l2 l3 hAl
      refine Nea.of f1 f2 f0 V1 V0 ?_ ?_ ?_
      · intro h
        rw [hV] at h
        have := n1 h
        subst this
        rw [rTo0_3 hr]
      · intro h
        rw [hV] at h
        have := n2 h
        subst this
        rw [rTo0_1 hr]
      · intro h
        rw [hV] at h
        have := n3 h
        subst this
        exact patS_even (rTo0_2 hr)
  · exfalso
    obtain ⟨t1, t2, t3, t0⟩ := rTo_inf (ng := ng) (left := left) hr
    rw [t1] at q1
    rw [t2] at q2
    clear f1 f2 f0 o hV hA hR
    cases ng
    · rw [if_neg (by decide)] at q2; omega
    · rw [if_pos rfl] at q1; omega
end Go.Proofs.YtcpjdgfnblkfpaaGreatDoor
