/-
  Parts of the proof, one behind another.
-/
import Derived.Test.YtjlmpgbadgkgmaaGreatDoorPart9
import Derived.Test.YtjlmpgbadgkgmaaGreatDoorPart8
import Derived.Test.YtjlmpgbadgkgmaaGreatDoorPart4
import Derived.Test.YtjlmpgbadgkgmaaGreatDoorPart5
import Derived.Laws.FloatArith
/-
  Numbers at the ends of what is valid: which have a valid form, which have none; calls that are known to tell a number or ErrLong.
-/
namespace Go.Proofs.YtjlmpgbadgkgmaaGreatDoor
open Go Go.RowKit Go.Proofs.YtjlmpgbadgkgmaaGreatDoor.M
set_option linter.unusedSimpArgs false
set_option linter.unusedVariables false

theorem P_one : (1 : Int) < P 2000 := by
  have := P2000_big2
  omega
theorem mk_one {ng : Bool} {e : Int} (h : -4194304 ≤ e) : mkV ng 1 e = sg ng 1 * pw e := by
  unfold mkV
  rw [if_neg (by decide), if_neg (by omega)]
theorem dy_one {ng : Bool} {e : Int} (h : -4194304 ≤ e) : Dy (mkV ng 1 e) ng 1 e := ⟨mk_one h, h, .inr ⟨by decide, by decide⟩⟩
theorem dok_one {ng : Bool} {e : Int} (h0 : -1048576 ≤ e) (h1 : e ≤ 1048576) : Dok (mkV ng 1 e) := (dy_one (by omega)).ok.2 ⟨P_one, h0, h1⟩
theorem nok_one {ng : Bool} {e : Int} (h : 1048576 < e ∨ e < -1048576) : ¬ Dok (mkV ng 1 e) := by
  by_cases h0 : e < -4194304
  · unfold mkV
    rw [if_neg (by decide), if_pos h0]
    exact not_dok_one
  · intro hk
    have := (dy_one (ng := ng) (e := e) (by omega)).ok.1 hk
    omega
theorem nok_two {e : Int} (h0 : -4194304 ≤ e) (h : 1048576 ≤ e) : ¬ Dok (mkV false 2 e) := by
  have e1 : mkV false 2 e = mkV false 1 (e + 1) := by
    rw [mk_one (by omega)]
    unfold mkV
    rw [if_neg (by decide), if_neg (by omega)]
    have := pw_add h0 1
    rw [show e + ((1 : Nat) : Int) = e + 1 from rfl] at this
    rw [this]
    simp only [sg]
    grind
  rw [e1]
  exact nok_one (.inl (by omega))
theorem one_sum {a b : Int} (h : b ≤ a) (h0 : -4194304 ≤ b) : mkV false 1 a + mkV false 1 b = (2 ^ (a - b).toNat + 1) * pw b := by
  rw [mk_one (by omega), mk_one (by omega), pw_sub h0 h]
  simp only [sg]
  generalize pw b = Q
  generalize (2 : Int) ^ (a - b).toNat = R
  grind
theorem nok_sum {a b : Int} (h : b + 60000 ≤ a) (h0 : -4194304 ≤ b) : ¬ Dok (mkV false 1 a + mkV false 1 b) := by
  rw [one_sum (by omega) h0]
  have hp := two_pos (a - b).toNat
  have ho : ((2 : Int) ^ (a - b).toNat + 1) % 2 = 1 := by
    obtain ⟨k, hk⟩ : ∃ k, (a - b).toNat = k + 1 := ⟨(a - b).toNat - 1, by omega⟩
    rw [hk, Int.pow_succ]
    omega
  have hd : Dy (((2 : Int) ^ (a - b).toNat + 1) * pw b) false (2 ^ (a - b).toNat + 1) b := ⟨rfl, h0, .inr ⟨by omega, ho⟩⟩
  intro hk
  have h1 := (hd.ok.1 hk).1
  have h2 : (2 : Int) ^ (30 * 2000) ≤ 2 ^ (a - b).toNat := two_le (by omega)
  rw [← P_two] at h2
  omega
theorem twice_one {ng : Bool} {e : Int} (h : -4194304 ≤ e) : mkV ng 1 e + mkV ng 1 e = mkV ng 1 (e + 1) := by
  rw [mk_one h, mk_one (by omega)]
  have := pw_add h 1
  rw [show e + ((1 : Nat) : Int) = e + 1 from rfl] at this
  rw [this]
  generalize pw e = Q
  cases ng <;> simp only [sg] <;> grind
theorem one_lt {a b : Int} (h : b < a) (h0 : -4194304 ≤ b) : mkV false 1 b < mkV false 1 a := by
  have h1 := one_sum (a := a) (b := b) (by omega) h0
  rw [mk_one (by omega), mk_one (by omega)] at *
  rw [pw_sub h0 (show b ≤ a by omega)]
  simp only [sg]
  have hp := pw_pos b
  have h2 : (2 : Int) ≤ 2 ^ (a - b).toNat := by
    have := two_le (show 1 ≤ (a - b).toNat by omega)
    rwa [show (2 : Int) ^ 1 = 2 from rfl] at this
  have h3 : 2 * pw b ≤ 2 ^ (a - b).toNat * pw b := Int.mul_le_mul_of_nonneg_right h2 (by omega)
  simp
  omega
theorem nok_prod {C : Int} (h : C * 2 ^ 4194304 = mkV true 1 (-1048576) * mkV true 1 (-1048576)) : ¬ Dok C := by
  have e : C = mkV false 1 (-2097152) := by
    refine scale_inj ?_
    rw [h, mk_one (by omega), mk_one (by omega)]
    have := pw_mul (a := -1048576) (b := -1048576) (by omega) (by omega)
    rw [show (-1048576 : Int) + -1048576 = -2097152 from rfl] at this
    generalize pw (-1048576) = Q at *
    generalize pw (-2097152) = R at *
    rw [show sg true 1 = -1 from rfl, show sg false 1 = 1 from rfl, Int.one_mul, ← this, show (-1 : Int) * Q = -Q by omega, Int.neg_mul_neg]
  rw [e]
  exact nok_one (.inr (by omega))
theorem dok_low2 : Dok (mkV true 1 (-1048576) + mkV true 1 (-1048576)) := by
  rw [twice_one (by omega)]
  exact dok_one (by omega) (by omega)
theorem nok_high2 : ¬ Dok (mkV false 1 1048576 + mkV false 1 1048576) := by
  rw [twice_one (by omega)]
  exact nok_one (.inl (by omega))
theorem dok_minus {V : Int} (h : Dok V) : Dok (-V) := by
  obtain ⟨ng, m, e, hy, h1⟩ := h
  rcases hy.form with ⟨h2, _, _⟩ | ⟨h2, _⟩
  · rw [hy.eq_zero.2 h2]; exact dok_zero
  · exact (hy.neg h2).ok.2 h1
theorem DFit.no {w w' : World} {V er : Int} {v : Value} (h : DFit w w' V v er) (no : ¬ Dok V) : er = 2 ∧ v = zeroV ∧ Below w.heap.size w w' := by
  rcases h.2 with ⟨ok, _⟩ | ⟨_, h1, h2⟩
  · exact absurd ok no
  · exact ⟨h1, h2, h.1⟩
def trip3 (x y z : NumR) : Nat → NumR := fun i => if i = 0 then x else if i = 1 then y else z
theorem nums3 {w : World} {g : Nat} {x y z : NumR} {t : TypeId} (h : w.heap[g]? = some (.cells #[.bool x.ng, .slice x.ao x.n x.cap, .int .i64 x.e, .bool y.ng, .slice y.ao y.n y.cap, .int .i64 y.e, .bool z.ng, .slice z.ao z.n z.cap, .int .i64 z.e] t (0, 0))) (hx : Row w x.ao x.n x.cap x.d) (hy : Row w y.ao y.n y.cap y.d) (hz : Row w z.ao z.n z.cap z.d) :
    Nums w (some ⟨g, 0, none⟩) 3 3 (trip3 x y z) :=
  ⟨Nat.le_refl _, by decide, fun _ => ⟨g, 0, rfl, (Array.getElem?_eq_some_iff.1 h).1, fun i hi => by
    match i, hi with
    | 0, _ => exact ⟨blkC h 0 rfl, blkC h 1 rfl, blkC h 2 rfl, hx⟩
    | 1, _ => exact ⟨blkC h 3 rfl, blkC h 4 rfl, blkC h 5 rfl, hy⟩
    | 2, _ => exact ⟨blkC h 6 rfl, blkC h 7 rfl, blkC h 8 rfl, hz⟩⟩⟩
theorem DNum.open2 {w : World} {ng : Bool} {so : Option Addr} {sn sc : Nat} {e V : Int} (h : DNum w (.agg #[.bool ng, .slice so sn sc, .int .i64 e]) V) (ok : Dok V) : ∃ d, Row w so sn sc d ∧ okR ⟨ng, so, sn, sc, d, e⟩ = true ∧ (⟨ng, so, sn, sc, d, e⟩ : NumR).V = V := by
  obtain ⟨x, h1, h2, h3, h4⟩ := h.open ok
  obtain ⟨xg, xo, xn, xc, xd, xe⟩ := x
  simp only [NumR.v, Value.agg.injEq, Array.mk.injEq, List.cons.injEq, Value.bool.injEq, Value.int.injEq, Value.slice.injEq, and_true, true_and] at h1
  obtain ⟨rfl, ⟨rfl, rfl, rfl⟩, rfl⟩ := h1
  exact ⟨xd, h2, h3, h4⟩
end Go.Proofs.YtjlmpgbadgkgmaaGreatDoor

/-
  What the laws of package round share: what a row gives, numbers told by their worth, round.To at all ways.
-/
namespace Go.Proofs.YtjlmpgbadgkgmaaGreatDoor
open Go Go.ChangeShapes Go.WideShapes Go.ChangeAt Go.RowKit Go.Proofs.YtjlmpgbadgkgmaaGreatDoor.M
set_option linter.unusedSimpArgs false
set_option linter.unusedVariables false

structure Hold4 (w : World) : Prop where
  lay : Lay64 w
  tab : Tab w
  env : Env w
theorem Hold4.keeps {w w' : World} (h : Hold4 w) (hb : Below w.heap.size w w') : Hold4 w' := ⟨h.lay.keeps hb, h.tab.keeps hb, h.env.keeps hb⟩
theorem P20_30 : P 20 ≤ P 30 := by unfold P; decide
theorem rTo_range (way : Int) (ng : Bool) (r0 : Nat) (left : Int) : 0 ≤ rTo way ng r0 left ∧ rTo way ng r0 left ≤ 9218868437227405312 := by
  unfold rTo
  split
  · split <;> omega
  · unfold bRung
    repeat' split
    all_goals decide
theorem toR_range {x : NumR} (ok : okR x = true) (way : Int) : rng (toR way x).1 := by
  by_cases h0 : x.n = 0
  · rw [to_zero ok h0]; unfold rng; decide
  · obtain ⟨r0, left, _, hf⟩ := to_all ok (by omega)
    rw [hf way]
    obtain ⟨h1, h2⟩ := rTo_range way x.ng r0 left
    exact (patS_facts h1 h2 (fun h => by
      cases hx : x.ng
      · rw [hx] at h; cases h
      · rw [hx, Bool.true_and] at h; exact of_decide_eq_true h)).1
end Go.Proofs.YtjlmpgbadgkgmaaGreatDoor

/-
  Plain mathematics: a number and its rung, for 0 too; which neighbour is nearer.
-/
namespace Go.Proofs.YtjlmpgbadgkgmaaGreatDoor
open Go Go.RowKit Go.Proofs.YtjlmpgbadgkgmaaGreatDoor.M
set_option linter.unusedSimpArgs false
set_option linter.unusedVariables false

/-- What the four ways answer at a number, by its rung. -/
def RdOf (V : Int) (ng : Bool) (f : Int → Int × Bool) : Prop := ∃ (A : Int) (r0 : Nat) (left : Int), V = sg ng A ∧ (ng = true → 0 < A) ∧ Rung A r0 left ∧ ∀ way, f way = (patS (ng && decide (0 < rTo way ng r0 left)) (rTo way ng r0 left), decide (left ≠ 0) || decide (9218868437227405312 ≤ (r0 : Int)))
theorem rung_zero_aux {a b : Int} (h0 : a = 0) (h1 : a < b) : (0 : Int) < b ∧ (((0 : Int) = 0 ↔ (0 : Int) = a) ∧ ((0 : Int) = 1 ↔ a < 0 ∧ 2 * 0 < a + b) ∧ ((0 : Int) = 2 ↔ 2 * 0 = a + b) ∧ ((0 : Int) = 3 ↔ a + b < 2 * 0)) := by
  subst h0
  exact ⟨h1, by omega, by omega, by omega, by omega⟩
theorem rung_zero : Rung 0 0 0 := by
  have h1 := vS_lt (show 0 < 0 + 1 by decide)
  have h0 := vS_zero
  obtain ⟨q, a, b, c, d⟩ := rung_zero_aux h0 h1
  exact ⟨Int.le_of_eq h0, q, a, b, c, d⟩
theorem rTo_zero (way : Int) : rTo way false 0 0 = 0 := by
  unfold rTo
  rw [if_pos (by decide)]
  cases h : rUp way false (decide (0 % 2 = 1)) 0
  · rfl
  · exact (rUp_left h).elim
theorem val_posA {x : NumR} (ok : okR x = true) (h0 : 0 < x.n) : 0 < val x.d x.n * pw x.e := by
  obtain ⟨na, _⟩ := okR_sane ok
  exact Int.mul_pos (val_pos na h0) (pw_pos _)
theorem to_rd {x : NumR} (ok : okR x = true) : RdOf x.V x.ng (fun way => toR way x) := by
  by_cases h0 : x.n = 0
  · have hz : x.ng = false := by
      have := of_decide_eq_true ok
      rcases this with ⟨_, a, b⟩ | ⟨a, _⟩
      · exact a
      · omega
    have hv : x.V = 0 := by
      have hv : val x.d x.n = 0 := by rw [h0]; rfl
      unfold NumR.V
      rw [hv, sg_zero, Int.zero_mul]
    refine ⟨0, 0, 0, by rw [hv, hz]; rfl, (fun h => by rw [hz] at h; cases h), rung_zero, fun way => ?_⟩
    rw [hz, rTo_zero]
    exact to_zero ok h0 way
  · obtain ⟨r0, left, hR, hf⟩ := to_all ok (by omega)
    have hp := val_posA ok (by omega)
    have hV : x.V = sg x.ng (val x.d x.n * pw x.e) := by
      unfold NumR.V
      exact sg_prod _ _ _
    exact ⟨_, r0, left, hV, (fun _ => hp), hR, hf⟩
theorem ord_neg_iff {a b : Int} : ord a b < 0 ↔ a < b := by
  rcases Int.lt_trichotomy a b with h | h | h
  · rw [ord_lt h]; exact ⟨fun _ => h, fun _ => by decide⟩
  · rw [ord_eq h]; exact ⟨fun q => absurd q (by decide), fun q => by omega⟩
  · rw [ord_gt h]; exact ⟨fun q => absurd q (by decide), fun q => by omega⟩
theorem ord_pos_iff {a b : Int} : 0 < ord a b ↔ b < a := by
  rcases Int.lt_trichotomy a b with h | h | h
  · rw [ord_lt h]; exact ⟨fun q => absurd q (by decide), fun q => by omega⟩
  · rw [ord_eq h]; exact ⟨fun q => absurd q (by decide), fun q => by omega⟩
  · rw [ord_gt h]; exact ⟨fun _ => h, fun _ => by decide⟩
theorem ord_zero_iff {a b : Int} : ord a b = 0 ↔ a = b := by
  rcases Int.lt_trichotomy a b with h | h | h
  · rw [ord_lt h]; exact ⟨fun q => absurd q (by decide), fun q => by omega⟩
  · rw [ord_eq h]; exact ⟨fun _ => h, fun _ => rfl⟩
  · rw [ord_gt h]; exact ⟨fun q => absurd q (by decide), fun q => by omega⟩
theorem near_pos {A a b left : Int} (l1 : left = 1 ↔ a < A ∧ 2 * A < a + b) (l2 : left = 2 ↔ 2 * A = a + b) (l3 : left = 3 ↔ a + b < 2 * A) (lo : a < A) :
    (ord (A - a) (b - A) < 0 → left = 1) ∧ (0 < ord (A - a) (b - A) → left = 3) ∧ (ord (A - a) (b - A) = 0 → left = 2) :=
  ⟨fun h => l1.2 ⟨lo, by have := ord_neg_iff.1 h; omega⟩, fun h => l3.2 (by have := ord_pos_iff.1 h; omega), fun h => l2.2 (by have := ord_zero_iff.1 h; omega)⟩
theorem near_neg {A a b left : Int} (l1 : left = 1 ↔ a < A ∧ 2 * A < a + b) (l2 : left = 2 ↔ 2 * A = a + b) (l3 : left = 3 ↔ a + b < 2 * A) (lo : a < A) :
    (ord (-A - -b) (-a - -A) < 0 → left = 3) ∧ (0 < ord (-A - -b) (-a - -A) → left = 1) ∧ (ord (-A - -b) (-a - -A) = 0 → left = 2) :=
  ⟨fun h => l3.2 (by have := ord_neg_iff.1 h; omega), fun h => l1.2 ⟨lo, by have := ord_pos_iff.1 h; omega⟩, fun h => l2.2 (by have := ord_zero_iff.1 h; omega)⟩
theorem near_posS {A a b left : Int} (l1 : left = 1 ↔ a < A ∧ 2 * A < a + b) (l2 : left = 2 ↔ 2 * A = a + b) (l3 : left = 3 ↔ a + b < 2 * A) (lo : a < A) :
    (ord (sg false A - sg false a) (sg false b - sg false A) < 0 → left = 1) ∧ (0 < ord (sg false A - sg false a) (sg false b - sg false A) → left = 3) ∧ (ord (sg false A - sg false a) (sg false b - sg false A) = 0 → left = 2) := near_pos l1 l2 l3 lo
theorem near_negS {A a b left : Int} (l1 : left = 1 ↔ a < A ∧ 2 * A < a + b) (l2 : left = 2 ↔ 2 * A = a + b) (l3 : left = 3 ↔ a + b < 2 * A) (lo : a < A) :
    (ord (sg true A - sg true b) (sg true a - sg true A) < 0 → left = 3) ∧ (0 < ord (sg true A - sg true b) (sg true a - sg true A) → left = 1) ∧ (ord (sg true A - sg true b) (sg true a - sg true A) = 0 → left = 2) := near_neg l1 l2 l3 lo
theorem rTo0_1 {ng : Bool} {r0 : Nat} (h : (r0 : Int) < 9218868437227405312) : rTo 0 ng r0 1 = (r0 : Int) := by
  unfold rTo
  rw [if_pos h]
  simp [rUp]
theorem rTo0_3 {ng : Bool} {r0 : Nat} (h : (r0 : Int) < 9218868437227405312) : rTo 0 ng r0 3 = ((r0 + 1 : Nat) : Int) := by
  unfold rTo
  rw [if_pos h]
  simp [rUp]
theorem rTo0_2 {ng : Bool} {r0 : Nat} (h : (r0 : Int) < 9218868437227405312) : rTo 0 ng r0 2 % 2 = 0 := by
  unfold rTo
  rw [if_pos h]
  by_cases hp : r0 % 2 = 1
  · simp [rUp, hp]; omega
  · simp [rUp, hp]; omega
theorem patS_even {b : Bool} {r : Int} (h : r % 2 = 0) : patS b r % 2 = 0 := by
  unfold patS
  cases b
  · exact h
  · show (r - 9223372036854775808) % 2 = 0; omega
theorem and_pos {ng : Bool} {r : Int} (h : (ng && decide (0 < r)) = true) : 0 < r := by
  cases ng
  · cases h
  · rw [Bool.true_and] at h; exact of_decide_eq_true h
theorem pat_fin {ng : Bool} {r : Int} (h0 : 0 ≤ r) (h1 : r ≤ 9218868437227405312) (h : pok (patS (ng && decide (0 < r)) r) = true) : r < 9218868437227405312 := by
  rw [patS_pok h0 h1 and_pos] at h
  exact of_decide_eq_true h
theorem patV_rung {ng : Bool} {r : Nat} (h : (r : Int) < 9218868437227405312) : patV (patS (ng && decide ((0 : Int) < (r : Int))) (r : Int)) = sg ng (vS r) := by
  rw [patV_patS h (fun q => by have := and_pos q; omega)]
  by_cases h0 : r = 0
  · subst h0
    rw [vS_zero]
    simp [sg]
  · have e : (ng && decide ((0 : Int) < (r : Int))) = ng := by rw [decide_eq_true (by omega), Bool.and_true]
    rw [e]
structure Nea (V : Int) (f : Int → Int × Bool) : Prop where
  lo : ord (V - patV (f 1).1) (patV (f 2).1 - V) < 0 → (f 0).1 = (f 1).1
  hi : 0 < ord (V - patV (f 1).1) (patV (f 2).1 - V) → (f 0).1 = (f 2).1
  ev : ord (V - patV (f 1).1) (patV (f 2).1 - V) = 0 → (f 0).1 % 2 = 0
theorem Nea.of {V : Int} {f : Int → Int × Bool} {d u n p q : Int} {o : Bool} (f1 : f 1 = (d, o)) (f2 : f 2 = (u, o)) (f0 : f 0 = (n, o)) (hd : patV d = p) (hu : patV u = q)
    (lo : ord (V - p) (q - V) < 0 → n = d) (hi : 0 < ord (V - p) (q - V) → n = u) (ev : ord (V - p) (q - V) = 0 → n % 2 = 0) : Nea V f := by
  subst hd hu
  exact ⟨by rw [f1, f2, f0]; exact lo, by rw [f1, f2, f0]; exact hi, by rw [f1, f2, f0]; exact ev⟩
theorem nearest {V : Int} {ng : Bool} {f : Int → Int × Bool} (h : RdOf V ng f) (o : (f 0).2 = true) (pd : pok (f 1).1 = true) (pu : pok (f 2).1 = true) : Nea V f := by
  obtain ⟨A, r0, left, hV, hA, hR, hf⟩ := h
  have f1 := hf 1
  have f2 := hf 2
  have f0 := hf 0
  rw [f1] at pd
  rw [f2] at pu
  rw [f0] at o
  have g1 := rTo_range 1 ng r0 left
  have g2 := rTo_range 2 ng r0 left
  have q1 := pat_fin g1.1 g1.2 pd
  have q2 := pat_fin g2.1 g2.2 pu
  clear pd pu hf g1 g2
  by_cases hr : (r0 : Int) < 9218868437227405312
  · obtain ⟨t1, t2, t3, t0⟩ := rTo_fin (ng := ng) (left := left) hr
    have hl : left ≠ 0 := by
      have o' : (decide (left ≠ 0) || decide (9218868437227405312 ≤ (r0 : Int))) = true := o
      rw [decide_eq_false (p := 9218868437227405312 ≤ (r0 : Int)) (Int.not_le.2 hr), Bool.or_false] at o'
      exact of_decide_eq_true o'
    have hAl : vS r0 < A := by
      rcases Int.lt_or_eq_of_le hR.lo with h | h
      · exact h
      · exact absurd (hR.l0.2 h.symm) hl
    have l1 := hR.l1
    have l2 := hR.l2
    have l3 := hR.l3
    clear hR t3 t0 hA
    have V0 := patV_rung (ng := ng) hr
    cases ng
    · have e1 : rTo 1 false r0 left = (r0 : Int) := by rw [t1, if_neg (fun h => by cases h.2)]
      have e2 : rTo 2 false r0 left = ((r0 + 1 : Nat) : Int) := by rw [t2, if_pos ⟨hl, rfl⟩]
      rw [e1] at f1
      rw [e2] at f2 q2
      have V1 := patV_rung (ng := false) q2
      obtain ⟨n1, n2, n3⟩ := near_posS l1 l2 l3 hAl
      refine Nea.of f1 f2 f0 V0 V1 ?_ ?_ ?_
      · intro h
        rw [hV] at h
        have := n1 h
        subst this
        rw [rTo0_1 hr]
      · intro h
        rw [hV] at h
        have := n2 h
        subst this
        rw [rTo0_3 hr]
      · intro h
        rw [hV] at h
        have := n3 h
        subst this
        exact patS_even (rTo0_2 hr)
    · have e1 : rTo 1 true r0 left = ((r0 + 1 : Nat) : Int) := by rw [t1, if_pos ⟨hl, rfl⟩]
      have e2 : rTo 2 true r0 left = (r0 : Int) := by rw [t2, if_neg (fun h => by cases h.2)]
      rw [e1] at f1 q1
      rw [e2] at f2
      have V1 := patV_rung (ng := true) q1
      obtain ⟨n1, n2, n3⟩ := near_negS l1 l2 l3 hAl
      refine Nea.of f1 f2 f0 V1 V0 ?_ ?_ ?_
      · intro h
        rw [hV] at h
        have := n1 h
        subst this
        rw [rTo0_3 hr]
      · intro h
        rw [hV] at h
        have := n2 h
        subst this
        rw [rTo0_1 hr]
      · intro h
        rw [hV] at h
        have := n3 h
        subst this
        exact patS_even (rTo0_2 hr)
  · exfalso
    obtain ⟨t1, t2, t3, t0⟩ := rTo_inf (ng := ng) (left := left) hr
    rw [t1] at q1
    rw [t2] at q2
    clear f1 f2 f0 o hV hA hR
    cases ng
    · rw [if_neg (by decide)] at q2; omega
    · rw [if_pos rfl] at q1; omega
end Go.Proofs.YtjlmpgbadgkgmaaGreatDoor

/-
  Plain mathematics of neighbours and of the order of all patterns. No Go text in sight.
-/
namespace Go.Proofs.YtjlmpgbadgkgmaaGreatDoor.M
open Go
set_option linter.unusedSimpArgs false
set_option linter.unusedVariables false

/-- a number that is not the greatest: its next one is one key on -/
theorem key_next {b : Int} (hb : rng b) (h4 : ¬ cls b = 4) (hi : ¬ b = 9218868437227405312) : key (next b) = key b + 1 ∧ ¬ cls (next b) = 4 ∧ place b < place (next b) ∧ ¬ next b = -4503599627370496 := by
  have n := cls4_not h4
  unfold rng at hb
  unfold next
  rw [if_neg h4, if_neg hi]
  by_cases h1 : b = -9223372036854775808
  · subst h1; rw [if_pos rfl]; refine ⟨by decide, by decide, by decide, by decide⟩
  · rw [if_neg h1]
    by_cases h2 : b < 0
    · rw [if_pos h2]
      refine ⟨?_, ?_, ?_, ?_⟩
      · unfold key; split <;> omega
      · rw [cls4]; unfold fld frc at *; omega
      · unfold place; split <;> omega
      · unfold fld frc at n; omega
    · rw [if_neg h2]
      refine ⟨?_, ?_, ?_, ?_⟩
      · unfold key; split <;> omega
      · rw [cls4]; unfold fld frc at *; omega
      · unfold place; split <;> omega
      · unfold fld frc at n; omega
theorem key_neg {b : Int} (hb : rng b) (h4 : ¬ cls b = 4) : key (neg b) = - key b ∧ ¬ cls (neg b) = 4 := by
  have n := cls4_not h4
  unfold rng at hb
  unfold neg
  rw [if_neg h4]
  by_cases h2 : b < 0
  · rw [if_pos h2]
    refine ⟨?_, ?_⟩
    · unfold key; split <;> omega
    · rw [cls4]; unfold fld frc at *; omega
  · rw [if_neg h2]
    refine ⟨?_, ?_⟩
    · unfold key; split <;> omega
    · rw [cls4]; unfold fld frc at *; omega
theorem key_prev {b : Int} (hb : rng b) (h4 : ¬ cls b = 4) (hi : ¬ b = -4503599627370496) : key (prev b) = key b - 1 ∧ ¬ cls (prev b) = 4 := by
  obtain ⟨a1, a2⟩ := key_neg hb h4
  have r1 := rng_neg hb
  have hi' : ¬ neg b = 9218868437227405312 := by
    unfold neg; rw [if_neg h4]; unfold rng at hb; split <;> omega
  obtain ⟨c1, c2, _, _⟩ := key_next r1 a2 hi'
  obtain ⟨d1, d2⟩ := key_neg (rng_next r1) c2
  unfold prev
  refine ⟨by omega, d2⟩
/-- what lies between neighbours -/
theorem next_facts {b c : Int} (hb : rng b) (h4 : ¬ cls b = 4) (hi : ¬ b = 9218868437227405312) :
    less b (next b) = true ∧ same (prev (next b)) b = true ∧ (less b c && less c (next b)) = false ∧ b_ord b (next b) = -1 := by
  obtain ⟨a1, a2, a3, a4⟩ := key_next hb h4 hi
  obtain ⟨p1, p2⟩ := key_prev (rng_next hb) a2 a4
  refine ⟨?_, ?_, ?_, ?_⟩
  · unfold less; simp [h4, a2, a1]; omega
  · unfold same; simp [h4, p2, p1, a1]
  · unfold less
    by_cases hc : cls c = 4
    · simp [hc]
    · simp [h4, a2, hc, a1]; omega
  · unfold b_ord; rw [if_neg h4, if_neg a2, if_pos a3]
theorem cls_inf : cls 9218868437227405312 = 3 := by decide
theorem next_inf : next 9218868437227405312 = 9218868437227405312 := by decide
/-! the order of all -/
theorem ord_cases (a b : Int) : b_ord a b = -1 ∨ b_ord a b = 0 ∨ b_ord a b = 1 := by
  unfold b_ord; repeat' split
  all_goals simp
theorem ord_neg (a b : Int) : b_ord a b = - b_ord b a := by
  unfold b_ord; repeat' split
  all_goals omega
theorem place_key {a b : Int} (ha : rng a) (hb : rng b) (h : key a < key b) : place a < place b := by
  unfold rng at ha hb
  unfold key at h
  unfold place
  by_cases x : a < 0 <;> by_cases y : b < 0 <;> simp only [x, y, if_true, if_false] at h ⊢ <;> omega
theorem ord_less {a b : Int} (ha : rng a) (hb : rng b) (h : less a b = true) : b_ord a b = -1 := by
  unfold less at h
  simp only [Bool.and_eq_true, Bool.not_eq_true', decide_eq_false_iff_not, decide_eq_true_eq] at h
  unfold b_ord; rw [if_neg h.1, if_neg h.2.1, if_pos (place_key ha hb h.2.2)]
theorem ord_trans {a b c : Int} (h1 : b_ord a b ≤ 0) (h2 : b_ord b c ≤ 0) : b_ord a c ≤ 0 := by
  unfold b_ord at *
  by_cases x : cls a = 4 <;> by_cases y : cls b = 4 <;> by_cases z : cls c = 4 <;> simp only [x, y, z, if_true, if_false] at *
  all_goals first
    | omega
    | (repeat' split at h1) <;> (repeat' split at h2) <;> (repeat' split) <;> omega
theorem b_same_self (a : Int) : same a a = !decide (cls a = 4) := by
  unfold same; by_cases h : cls a = 4 <;> simp [h]
theorem same_iff (a b : Int) : same a b = (!decide (cls a = 4) && (!decide (cls b = 4) && (!less a b && !less b a))) := by
  unfold same less
  by_cases h : cls a = 4 <;> by_cases k : cls b = 4 <;> simp [h, k]
  rw [Bool.eq_iff_iff]; simp; omega
end Go.Proofs.YtjlmpgbadgkgmaaGreatDoor.M

/-
  Plain mathematics: a binary32's value as a binary64: it is written there without rounding, and greater ones stay greater. No Go text in sight.
-/
namespace Go.Proofs.YtjlmpgbadgkgmaaGreatDoor.M
open Go Ieee
set_option linter.unusedSimpArgs false
set_option linter.unusedVariables false

theorem p53 : (2 : Int) ^ ((52 : Int).toNat + 1) = 9007199254740992 := by decide
theorem cut_zero (neg : Bool) (n : Nat) : Toward.even.cut neg n 0 = n := by
  unfold Toward.cut
  have h1 : n % 1 = 0 := Nat.mod_one n
  simp [h1]
/-- a number with few digits, not below the least place, is written without rounding -/
theorem nearest_exact (f : Format) (neg : Bool) (m : Nat) (place : Int) (hm : m ≠ 0) (hm2 : m < 2 ^ (f.fractionBits + 1)) (hp : f.leastPlace ≤ place) :
    ∃ r, f.nearest neg m place = f.word neg (min r f.infRung) ∧ V f r = m * 2 ^ (place - f.leastPlace).toNat := by
  unfold Format.nearest
  rw [if_neg hm]
  have h1 := Nat.log2_self_le hm
  have h2 : m < 2 ^ (m.log2 + 1) := Nat.lt_log2_self
  have hl : m.log2 ≤ f.fractionBits := by
    have := (Nat.log2_lt hm).2 hm2
    omega
  dsimp only
  have hlast : max (place + (m.log2 : Int) - (f.fractionBits : Int)) f.leastPlace ≤ place := by omega
  generalize hL : max (place + (m.log2 : Int) - (f.fractionBits : Int)) f.leastPlace = last at *
  rw [show (last - place).toNat = 0 by omega, cut_zero, Nat.shiftLeft_eq]
  refine ⟨_, rfl, ?_⟩
  have hB : f.binade = 2 ^ f.fractionBits := rfl
  rw [V_parts]
  · rw [Nat.mul_assoc, ← Nat.pow_add]
    congr 2; omega
  · -- where the last place is the least one, or the first digit stands at the top
    by_cases hc : place + (m.log2 : Int) - (f.fractionBits : Int) ≤ f.leastPlace
    · left
      refine ⟨by omega, ?_⟩
      have e : last = f.leastPlace := by omega
      have : m * 2 ^ (place - last).toNat < 2 ^ (m.log2 + 1) * 2 ^ (place - last).toNat := Nat.mul_lt_mul_of_pos_right h2 (Nat.two_pow_pos _)
      rw [← Nat.pow_add] at this
      have h3 : 2 ^ (m.log2 + 1 + (place - last).toNat) ≤ 2 ^ (f.fractionBits + 1) := Nat.pow_le_pow_right (by decide) (by omega)
      rw [hB]
      rw [Nat.pow_succ] at h3
      omega
    · right
      have e : (place - last).toNat = f.fractionBits - m.log2 := by omega
      rw [e, hB]
      have a1 : 2 ^ m.log2 * 2 ^ (f.fractionBits - m.log2) ≤ m * 2 ^ (f.fractionBits - m.log2) := Nat.mul_le_mul_right _ h1
      have a2 : m * 2 ^ (f.fractionBits - m.log2) < 2 ^ (m.log2 + 1) * 2 ^ (f.fractionBits - m.log2) := Nat.mul_lt_mul_of_pos_right h2 (Nat.two_pow_pos _)
      rw [← Nat.pow_add] at a1 a2
      rw [show m.log2 + (f.fractionBits - m.log2) = f.fractionBits by omega] at a1
      rw [show m.log2 + 1 + (f.fractionBits - m.log2) = f.fractionBits + 1 by omega, Nat.pow_succ] at a2
      omega
/-- how far the two least places are apart -/
def gap : Nat := 925
/-- what a binary32 with these parts is as a binary64 -/
theorem widened {b : Int} (hp : pok32 b = true) : jk 52 2047 (-1074) (pmag32 b) (pexp32 b) = true ∧ V Ieee.double (jv 52 2047 (-1074) (pmag32 b) (pexp32 b)).toNat = V Ieee.single (rg32 b).toNat * 2 ^ gap := by
  obtain ⟨m0, m1, e0, e1⟩ := pmag32_le hp
  have hV := V_rg32 hp
  by_cases hz : pmag32 b = 0
  · refine ⟨by rw [hz]; simp [jk], ?_⟩
    rw [hV, hz]
    simp [jv, V_zero]
  · have hg : jgood 52 2047 (-1074) (pmag32 b) (pexp32 b) = true := jgood_small (by omega) (by omega) (by omega) (by rw [p53]; omega) (by omega) (by omega)
    refine ⟨by unfold jk; rw [if_neg (by omega), if_neg hz]; exact hg, ?_⟩
    have hj := V_join Ieee.double 52 dB 2047 (-1074) (pmag32 b) (pexp32 b) (by omega) (by omega) hg (by omega)
    have e : jv ((52 : Nat) : Int) 2047 (-1074) (pmag32 b) (pexp32 b) = jv 52 2047 (-1074) (pmag32 b) (pexp32 b) := rfl
    rw [e] at hj
    rw [hj, hV, Nat.mul_assoc, ← Nat.pow_add]
    congr 2; unfold gap; omega
/-- the pattern of it, with its sign -/
def wide (b : Int) : Int := jp (pneg32 b) (pmag32 b) (pexp32 b)
theorem wide_key {b : Int} (hp : pok32 b = true) : rng (wide b) ∧ ¬ cls (wide b) = 4 ∧ ¬ wide b = 9218868437227405312 ∧ key (wide b) = (if 2147483648 ≤ b then -(jv 52 2047 (-1074) (pmag32 b) (pexp32 b)) else jv 52 2047 (-1074) (pmag32 b) (pexp32 b)) := by
  obtain ⟨m0, m1, e0, e1⟩ := pmag32_le hp
  obtain ⟨hk, hv⟩ := widened hp
  have hl := jv_le (mag := pmag32 b) (exp := pexp32 b) (by unfold rng; omega)
  have hneg : pneg32 b = decide (2147483648 ≤ b) := by unfold pneg32; rw [hp]; simp
  unfold wide jp
  rw [hk, hneg]
  by_cases h : 2147483648 ≤ b
  · simp only [h, decide_true, Bool.and_self, if_true]
    refine ⟨by unfold rng; omega, ?_, by omega, ?_⟩
    · rw [cls4]; unfold fld frc; omega
    · unfold key; rw [if_pos (by omega)]; omega
  · simp only [h, decide_false, Bool.and_false, Bool.false_eq_true, if_false]
    refine ⟨by unfold rng; omega, ?_, by omega, ?_⟩
    · rw [cls4]; unfold fld frc; omega
    · unfold key; rw [if_neg (by omega)]
theorem wide_lt {b c : Int} (hb : pok32 b = true) (hc : pok32 c = true) : jv 52 2047 (-1074) (pmag32 b) (pexp32 b) < jv 52 2047 (-1074) (pmag32 c) (pexp32 c) ↔ rg32 b < rg32 c := by
  obtain ⟨b0, b1, _⟩ := pparts32 hb
  obtain ⟨c0, c1, _⟩ := pparts32 hc
  have rb := (rg32_parts b0 b1).1
  have rc := (rg32_parts c0 c1).1
  obtain ⟨mb0, mb1, _, _⟩ := pmag32_le hb
  obtain ⟨mc0, mc1, _, _⟩ := pmag32_le hc
  have lb := jv_le (mag := pmag32 b) (exp := pexp32 b) (by unfold rng; omega)
  have lc := jv_le (mag := pmag32 c) (exp := pexp32 c) (by unfold rng; omega)
  have vb := (widened hb).2
  have vc := (widened hc).2
  have h1 := V_lt_iff Ieee.double (jv 52 2047 (-1074) (pmag32 b) (pexp32 b)).toNat (jv 52 2047 (-1074) (pmag32 c) (pexp32 c)).toNat
  have h2 := V_lt_iff Ieee.single (rg32 b).toNat (rg32 c).toNat
  rw [vb, vc, Nat.mul_lt_mul_right (Nat.two_pow_pos _), h2] at h1
  omega
/-- the next binary32 is no nearer than the next binary64 -/
theorem wide_next {b : Int} (hp : pok32 b = true) (hn : pok32 (next32 b) = true) : less (wide (next32 b)) (next (wide b)) = false := by
  obtain ⟨r1, k1, i1, w1⟩ := wide_key hp
  obtain ⟨r2, k2, i2, w2⟩ := wide_key hn
  obtain ⟨n1, n2, _, _⟩ := key_next r1 k1 i1
  obtain ⟨b0, b1, hb⟩ := pparts32 hp
  obtain ⟨c0, c1, hc⟩ := pparts32 hn
  have lt1 := wide_lt hp hn
  have lt2 := wide_lt hn hp
  have l0 := jv_le (mag := pmag32 b) (exp := pexp32 b) (by have := rng_pmag32 b; exact this)
  have l1 := jv_le (mag := pmag32 (next32 b)) (exp := pexp32 (next32 b)) (by have := rng_pmag32 (next32 b); exact this)
  have h4 : ¬ cls32 b = 4 := by
    have := pok32_cls b; rw [hp] at this
    have := of_decide_eq_true this.symm
    omega
  have key : key (wide b) < key (wide (next32 b)) := by
    rw [w1, w2]
    have hnx : next32 b = if b = 2139095040 then b else if b = 2147483648 then 1 else if 2147483648 < b then b - 1 else b + 1 := by
      unfold next32; rw [if_neg h4]
    by_cases e1 : b = 2139095040
    · exfalso; subst e1; revert hb; decide
    · rw [if_neg e1] at hnx
      by_cases e2 : b = 2147483648
      · rw [if_pos e2] at hnx
        have hr : rg32 b < rg32 (next32 b) := by rw [hnx, e2]; decide
        have := lt1.2 hr
        rw [if_pos (by omega), if_neg (by omega)]
        omega
      · rw [if_neg e2] at hnx
        by_cases e3 : 2147483648 < b
        · rw [if_pos e3] at hnx
          have hr : rg32 (next32 b) < rg32 b := by rw [hnx]; unfold rg32; rw [if_neg (by omega), if_neg (by omega)]; omega
          have := lt2.2 hr
          rw [if_pos (by omega), if_pos (by omega)]
          omega
        · rw [if_neg e3] at hnx
          by_cases e4 : b = 2147483647
          · exfalso; subst e4; revert hb; decide
          · have hr : rg32 b < rg32 (next32 b) := by rw [hnx]; unfold rg32; rw [if_pos (by omega), if_pos (by omega)]; omega
            have := lt1.2 hr
            rw [if_neg (by omega), if_neg (by omega)]
            omega
  unfold less
  simp only [k2, n2, decide_false, Bool.not_false, Bool.true_and, decide_eq_false_iff_not]
  omega
theorem next32_not {b : Int} (hp : pok32 b = true) (hn : pok32 (next32 b) = false) : cls32 (next32 b) = 3 := by
  obtain ⟨b0, b1, hb⟩ := pparts32 hp
  have h4 : ¬ cls32 b = 4 := by
    have := pok32_cls b; rw [hp] at this
    have := of_decide_eq_true this.symm
    omega
  have hnx : next32 b = if b = 2139095040 then b else if b = 2147483648 then 1 else if 2147483648 < b then b - 1 else b + 1 := by
    unfold next32; rw [if_neg h4]
  have hi : 0 ≤ next32 b ∧ next32 b < 4294967296 := by
    rw [hnx]; repeat' split
    all_goals omega
  have hin : in32 (next32 b) = true := decide_eq_true hi
  have hf : fld32 (next32 b) = 255 := by
    unfold pok32 at hn; rw [hin] at hn; simpa using hn
  have ht : frc32 (next32 b) = 0 := by
    rw [hnx] at hf ⊢
    unfold fld32 frc32 at *
    repeat' split
    all_goals (first | omega | (repeat' split at hf) <;> omega)
  unfold cls32; rw [if_neg (by omega), if_pos hf, if_pos ht]
theorem read_finite_few (f : Format) (x : Nat) (h : x % f.signWeight < f.infRung) :
    ∃ m u : Nat, f.read x = .number (x / f.signWeight % 2 == 1) m (f.leastPlace + u) ∧ m * 2 ^ u = V f (x % f.signWeight) ∧ m < 2 * f.binade := by
  unfold Format.read V
  have hB := binade_pos f
  dsimp only
  by_cases h1 : x % f.signWeight < f.binade
  · rw [if_pos h1, if_pos h1]
    exact ⟨x % f.signWeight, 0, by simp, by simp, by omega⟩
  · rw [if_neg h1, if_pos h, if_neg h1]
    have := Nat.mod_lt (x % f.signWeight) hB
    exact ⟨_, _, rfl, rfl, by omega⟩
theorem sSignW : Ieee.single.signWeight = 2147483648 := by decide
theorem sInfR : Ieee.single.infRung = 2139095040 := by decide
theorem dLeast : Ieee.double.leastPlace = -1074 := by decide
theorem sLeast : Ieee.single.leastPlace = -149 := by decide
theorem word_mod (f : Format) (neg : Bool) (r : Nat) (h : r < f.signWeight) : f.word neg r % f.signWeight = r := by
  unfold Format.word; split
  · rw [Nat.add_mod_left, Nat.mod_eq_of_lt h]
  · exact Nat.mod_eq_of_lt h
theorem single_word {b : Int} (hp : pok32 b = true) : b.toNat % 2147483648 = (rg32 b).toNat ∧ (rg32 b).toNat < 2139095040 ∧ (b.toNat / 2147483648 % 2 == 1) = decide (2147483648 ≤ b) := by
  obtain ⟨b0, b1, hb⟩ := pparts32 hp
  unfold fld32 at hb
  refine ⟨by unfold rg32; split <;> omega, by unfold rg32; split <;> omega, ?_⟩
  rw [Bool.eq_iff_iff]; simp only [beq_iff_eq, decide_eq_true_eq]; omega
/-- a finite binary32, made a binary64: the pattern that Join answers of its parts -/
theorem conv_wide {b : Int} (hp : pok32 b = true) : floatToFloatBits .f32 b.toNat .f64 = some (wd (wide b)) := by
  obtain ⟨s1, s2, s3⟩ := single_word hp
  obtain ⟨m0, m1, e0, e1⟩ := pmag32_le hp
  obtain ⟨hk, hv⟩ := widened hp
  have hl := jv_le (mag := pmag32 b) (exp := pexp32 b) (by unfold rng; omega)
  have hneg : pneg32 b = decide (2147483648 ≤ b) := by unfold pneg32; rw [hp]; simp
  obtain ⟨m, u, er, ev, em⟩ := read_finite_few Ieee.single b.toNat (by rw [sSignW, sInfR, s1]; exact s2)
  rw [sSignW, s3] at er
  rw [sSignW, s1] at ev
  have em' : m < 16777216 := by rw [sB] at em; simpa using em
  have hw : wd (wide b) = Ieee.double.word (decide (2147483648 ≤ b)) (jv 52 2047 (-1074) (pmag32 b) (pexp32 b)).toNat := by
    unfold wide jp Format.word
    rw [hk, hneg, dSign]
    unfold wd
    by_cases h : 2147483648 ≤ b
    · simp only [h, decide_true, Bool.and_self, if_true]; omega
    · simp only [h, decide_false, Bool.and_false, Bool.false_eq_true, if_false]; omega
  have henc : FloatKind.f64.encode (.number (decide (2147483648 ≤ b)) m (Ieee.single.leastPlace + u)) = wd (wide b) := by
    show Ieee.double.nearest _ _ _ = _
    rw [hw]
    by_cases hm : m = 0
    · have hr : (jv 52 2047 (-1074) (pmag32 b) (pexp32 b)).toNat = 0 := by
        refine V_inj Ieee.double ?_
        rw [hv, ← ev, hm, V_zero]; simp
      unfold Format.nearest
      rw [if_pos hm, hr]
    · obtain ⟨r, e1, e2⟩ := nearest_exact Ieee.double (decide (2147483648 ≤ b)) m (Ieee.single.leastPlace + u) hm (by
        have : (2 : Nat) ^ (Ieee.double.fractionBits + 1) = 9007199254740992 := by decide
        rw [this]; omega) (by rw [dLeast, sLeast]; omega)
      have hr : r = (jv 52 2047 (-1074) (pmag32 b) (pexp32 b)).toNat := by
        refine V_inj Ieee.double ?_
        rw [e2, hv, ← ev, Nat.mul_assoc, ← Nat.pow_add]
        congr 2
        rw [dLeast, sLeast]; unfold gap; omega
      rw [e1, hr, Nat.min_eq_left (by rw [dInf]; omega)]
  unfold floatToFloatBits
  rw [if_neg (by decide)]
  show (match Ieee.single.read b.toNat with
    | .nan _ _ => none
    | .infinity s => some (FloatKind.f64.encode (.infinity s))
    | .number s m e => if (FloatKind.f64.decode (FloatKind.f64.encode (.number s m e))).isInfinity then none else some (FloatKind.f64.encode (.number s m e))) = _
  rw [er]
  simp only
  rw [henc]
  have hfin : (FloatKind.f64.decode (wd (wide b))).isInfinity = false := by
    show (Ieee.double.read (wd (wide b))).isInfinity = false
    rw [hw]
    obtain ⟨m', u', e', _, _⟩ := read_finite_few Ieee.double (Ieee.double.word (decide (2147483648 ≤ b)) (jv 52 2047 (-1074) (pmag32 b) (pexp32 b)).toNat) (by
      rw [word_mod _ _ _ (by rw [dSign]; omega), dInf]; omega)
    rw [e']; rfl
  rw [hfin]; simp
end Go.Proofs.YtjlmpgbadgkgmaaGreatDoor.M

/-
  Plain mathematics: what the model's floats are rounded to, by rungs. No Go text in sight.
-/
namespace Go.Proofs.YtjlmpgbadgkgmaaGreatDoor
open Go Go.RowKit Go.Proofs.YtjlmpgbadgkgmaaGreatDoor.M Ieee
set_option linter.unusedSimpArgs false
set_option linter.unusedVariables false

/-- What is left of t in D units. -/
def lefN (t D : Nat) : Int := if t = 0 then 0 else if 2 * t < D then 1 else if 2 * t = D then 2 else 3
theorem left_nat {mag u t D : Nat} {q : Int} (hq : 0 < q) (hm : mag = u * D + t) (ht : t < D) : M.Left ((mag : Int) * q) u ((D : Int) * q) (lefN t D) := by
  have e : (mag : Int) * q = (u : Int) * ((D : Int) * q) + (t : Int) * q := by
    rw [hm]; push_cast; rw [Int.add_mul, Int.mul_assoc]
  have k1 : ∀ a b : Nat, a < b → (a : Int) * q < (b : Int) * q := fun a b h => Int.mul_lt_mul_of_pos_right (by omega) hq
  have t0 : 0 ≤ (t : Int) * q := Int.mul_nonneg (by omega) (Int.le_of_lt hq)
  have t1 := k1 t D ht
  have e2 : ((2 * t : Nat) : Int) * q = 2 * ((t : Int) * q) := by push_cast; rw [Int.mul_assoc]
  have z1 : 2 * t < D → 2 * ((t : Int) * q) < (D : Int) * q := fun h => by rw [← e2]; exact k1 _ _ h
  have z2 : 2 * t = D → 2 * ((t : Int) * q) = (D : Int) * q := fun h => by rw [← e2, h]
  have z3 : D < 2 * t → (D : Int) * q < 2 * ((t : Int) * q) := fun h => by rw [← e2]; exact k1 _ _ h
  have z4 : 0 < t → 0 < (t : Int) * q := fun h => Int.mul_pos (by omega) hq
  have z5 : t = 0 → (t : Int) * q = 0 := fun h => by rw [h]; simp
  obtain ⟨U, hU⟩ : ∃ U, (u : Int) * ((D : Int) * q) = U := ⟨_, rfl⟩
  rw [e, hU]
  generalize (t : Int) * q = T at *
  generalize (D : Int) * q = R at *
  unfold lefN
  by_cases c0 : t = 0
  · rw [if_pos c0]
    have := z5 c0
    exact M.Left.mk' hU (by omega) (by omega) (by constructor <;> intro h <;> omega) (by constructor <;> intro h <;> omega) (by constructor <;> intro h <;> omega) (by constructor <;> intro h <;> omega)
  · have := z4 (by omega)
    rw [if_neg c0]
    by_cases c1 : 2 * t < D
    · rw [if_pos c1]
      have := z1 c1
      exact M.Left.mk' hU (by omega) (by omega) (by constructor <;> intro h <;> omega) (by constructor <;> intro h <;> omega) (by constructor <;> intro h <;> omega) (by constructor <;> intro h <;> omega)
    · rw [if_neg c1]
      by_cases c2 : 2 * t = D
      · rw [if_pos c2]
        have := z2 c2
        exact M.Left.mk' hU (by omega) (by omega) (by constructor <;> intro h <;> omega) (by constructor <;> intro h <;> omega) (by constructor <;> intro h <;> omega) (by constructor <;> intro h <;> omega)
      · rw [if_neg c2]
        have := z3 (by omega)
        exact M.Left.mk' hU (by omega) (by omega) (by constructor <;> intro h <;> omega) (by constructor <;> intro h <;> omega) (by constructor <;> intro h <;> omega) (by constructor <;> intro h <;> omega)
theorem up_lef (neg odd : Bool) (t D : Nat) (ht : t < D) : rUp 0 neg odd (lefN t D) = (decide (D < 2 * t) || (decide (D = 2 * t) && odd)) := by
  unfold rUp lefN
  rw [if_pos rfl]
  by_cases c0 : t = 0
  · rw [if_pos c0, decide_eq_false (p := D < 2 * t) (by omega), decide_eq_false (p := D = 2 * t) (by omega)]
    simp
  · rw [if_neg c0]
    by_cases c1 : 2 * t < D
    · rw [if_pos c1, decide_eq_false (p := D < 2 * t) (by omega), decide_eq_false (p := D = 2 * t) (by omega)]
      simp
    · rw [if_neg c1]
      by_cases c2 : 2 * t = D
      · rw [if_pos c2, decide_eq_false (p := D < 2 * t) (by omega), decide_eq_true (p := D = 2 * t) (by omega)]
        simp
      · rw [if_neg c2, decide_eq_true (p := D < 2 * t) (by omega)]
        simp
/-- A whole number of units, to the nearest. -/
theorem cut_even (neg : Bool) (n d : Nat) (hn : n ≠ 0) : Toward.even.cut neg n d = n / 2 ^ d + (if rUp 0 neg (decide (n / 2 ^ d % 2 = 1)) (lefN (n % 2 ^ d) (2 ^ d)) then 1 else 0) := by
  have h2 : n < 2 ^ (n.log2 + 1) := Nat.lt_log2_self
  have hD := Nat.two_pow_pos d
  rw [up_lef _ _ _ _ (Nat.mod_lt _ hD)]
  unfold Toward.cut
  dsimp only
  by_cases h : d ≤ n.log2 + 2
  · rw [Nat.min_eq_left h, Nat.shiftLeft_eq, Nat.one_mul]
    congr 1
    have e1 : (2 ^ d == 2 * (n % 2 ^ d)) = decide (2 ^ d = 2 * (n % 2 ^ d)) := rfl
    have e2 : (n / 2 ^ d % 2 == 1) = decide (n / 2 ^ d % 2 = 1) := rfl
    rw [e1, e2]
    cases (decide (2 ^ d < 2 * (n % 2 ^ d)) || decide (2 ^ d = 2 * (n % 2 ^ d)) && decide (n / 2 ^ d % 2 = 1)) <;> rfl
  · rw [Nat.min_eq_right (by omega), Nat.shiftLeft_eq, Nat.one_mul]
    have h3 : 2 ^ (n.log2 + 2) = 2 * 2 ^ (n.log2 + 1) := by rw [Nat.pow_succ, Nat.mul_comm]
    have h4 : 2 ^ (n.log2 + 2) ≤ 2 ^ d := Nat.pow_le_pow_right (by decide) (by omega)
    have q1 : n / 2 ^ (n.log2 + 2) = 0 := Nat.div_eq_of_lt (by omega)
    have q2 : n % 2 ^ (n.log2 + 2) = n := Nat.mod_eq_of_lt (by omega)
    have q3 : n / 2 ^ d = 0 := Nat.div_eq_of_lt (by omega)
    have q4 : n % 2 ^ d = n := Nat.mod_eq_of_lt (by omega)
    rw [q1, q2, q3, q4, decide_eq_false (p := 2 ^ d < 2 * n) (by omega), decide_eq_false (p := 2 ^ d = 2 * n) (by omega), decide_eq_false (p := 2 ^ (n.log2 + 2) < 2 * n) (by omega)]
    have e1 : (2 ^ (n.log2 + 2) == 2 * n) = decide (2 ^ (n.log2 + 2) = 2 * n) := rfl
    rw [e1, decide_eq_false (p := 2 ^ (n.log2 + 2) = 2 * n) (by omega)]
    rfl
end Go.Proofs.YtjlmpgbadgkgmaaGreatDoor

/-
  Plain mathematics: the nearest word is the nearest rung's. No Go text in sight.
-/
namespace Go.Proofs.YtjlmpgbadgkgmaaGreatDoor
open Go Go.RowKit Go.Proofs.YtjlmpgbadgkgmaaGreatDoor.M Ieee
set_option linter.unusedSimpArgs false
set_option linter.unusedVariables false

theorem dLeast : Ieee.double.leastPlace = -1074 := by decide
theorem dFrac : Ieee.double.fractionBits = 52 := by decide
theorem dBin : Ieee.double.binade = 4503599627370496 := by decide
/-- The last place that is kept. -/
def lastP (mag : Nat) (place : Int) : Int := max (place + (mag.log2 : Int) - 52) (-1074)
theorem nearest_word (neg : Bool) {mag : Nat} (place : Int) (h : mag ≠ 0) : Ieee.double.nearest neg mag place = Ieee.double.word neg (min ((lastP mag place + 1074).toNat * 4503599627370496 + Toward.even.cut neg (mag * 2 ^ (place - lastP mag place).toNat) (lastP mag place - place).toNat) 9218868437227405312) := by
  unfold Format.nearest
  rw [if_neg h, dLeast, dFrac, dBin, dInf]
  dsimp only
  rw [Nat.shiftLeft_eq, show (lastP mag place + 1074) = (lastP mag place - -1074) by omega]
  rfl
theorem minInf {r : Nat} {up : Bool} {neg : Bool} {left : Int} (hup : rUp 0 neg (decide (r % 2 = 1)) left = up) : ((min (r + (if up = true then 1 else 0)) 9218868437227405312 : Nat) : Int) = rTo 0 neg r left := by
  unfold rTo
  rw [hup]
  by_cases h : (r : Int) < 9218868437227405312
  · rw [if_pos h]
    cases up
    · simp only [Bool.false_eq_true, if_false]; omega
    · simp only [if_true]; omega
  · rw [if_neg h]
    have hb : bRung 0 neg = 9218868437227405312 := by cases neg <;> rfl
    rw [hb]
    split <;> omega
theorem odd_rung (a u : Nat) : decide ((a * 4503599627370496 + u) % 2 = 1) = decide (u % 2 = 1) := by congr 1; apply propext; omega
/-- The nearest word, by the number's rung. -/
theorem nearest_rung (neg : Bool) {mag : Nat} {place : Int} (h : mag ≠ 0) (hp : -4194304 ≤ place) :
    ∃ (r0 : Nat) (left : Int), Rung ((mag : Int) * pw place) r0 left ∧ Ieee.double.nearest neg mag place = Ieee.double.word neg (rTo 0 neg r0 left).toNat := by
  rw [nearest_word neg place h]
  have h1 := Nat.log2_self_le h
  have h2 : mag < 2 ^ (mag.log2 + 1) := Nat.lt_log2_self
  have hL : lastP mag place = max (place + (mag.log2 : Int) - 52) (-1074) := rfl
  obtain ⟨l, hl⟩ : ∃ l, lastP mag place = l := ⟨_, rfl⟩
  rw [hl] at hL ⊢
  have hl0 : -1074 ≤ l := by omega
  have hl1 : place + (mag.log2 : Int) - 52 ≤ l := by omega
  have hl2 : -1074 < l → l = place + (mag.log2 : Int) - 52 := by omega
  obtain ⟨a, ha⟩ : ∃ a : Nat, (l + 1074).toNat = a := ⟨_, rfl⟩
  have hal : l = -1074 + (a : Int) := by omega
  have e52 : (2 : Nat) ^ 52 = 4503599627370496 := by decide
  have e53 : (2 : Nat) ^ 53 = 9007199254740992 := by decide
  rw [ha]
  -- u units of 2^l and what is left
  have main : ∃ (u : Nat) (left : Int), M.Left ((mag : Int) * pw place) u (pw l) left ∧ Toward.even.cut neg (mag * 2 ^ (place - l).toNat) (l - place).toNat = u + (if rUp 0 neg (decide (u % 2 = 1)) left then 1 else 0) ∧ u < 9007199254740992 ∧ (0 < a → 4503599627370496 ≤ u) := by
    by_cases hs : l ≤ place
    · obtain ⟨k, hk⟩ : ∃ k : Nat, (place - l).toNat = k := ⟨_, rfl⟩
      have hpl : place = l + (k : Int) := by omega
      rw [hk, show (l - place).toNat = 0 by omega, cut_zero]
      refine ⟨mag * 2 ^ k, 0, ?_, ?_, ?_, ?_⟩
      · have e : (mag : Int) * pw place = ((mag * 2 ^ k : Nat) : Int) * pw l := by
          rw [hpl, pw_add (by omega), Int.mul_comm (pw l)]
          push_cast
          rw [Int.mul_assoc]
        have := left_nat (mag := mag * 2 ^ k) (u := mag * 2 ^ k) (t := 0) (D := 1) (pw_pos l) (by omega) (by decide)
        rw [e]
        have e1 : ((1 : Nat) : Int) * pw l = pw l := by rw [Int.natCast_one, Int.one_mul]
        rw [e1] at this
        exact this
      · have : rUp 0 neg (decide (mag * 2 ^ k % 2 = 1)) 0 = false := by
          cases hu : rUp 0 neg (decide (mag * 2 ^ k % 2 = 1)) 0
          · rfl
          · exact (rUp_left hu).elim
        rw [this]
        rfl
      · have b1 : mag * 2 ^ k < 2 ^ (mag.log2 + 1) * 2 ^ k := Nat.mul_lt_mul_of_pos_right h2 (Nat.two_pow_pos _)
        rw [← Nat.pow_add] at b1
        have b2 : 2 ^ (mag.log2 + 1 + k) ≤ 2 ^ 53 := Nat.pow_le_pow_right (by decide) (by omega)
        omega
      · intro h0
        have b1 : 2 ^ mag.log2 * 2 ^ k ≤ mag * 2 ^ k := Nat.mul_le_mul_right _ h1
        rw [← Nat.pow_add] at b1
        have b2 : 2 ^ 52 ≤ 2 ^ (mag.log2 + k) := Nat.pow_le_pow_right (by decide) (by have := hl2 (by omega); omega)
        omega
    · obtain ⟨k, hk⟩ : ∃ k : Nat, (l - place).toNat = k := ⟨_, rfl⟩
      have hpl : l = place + (k : Int) := by omega
      rw [hk, show (place - l).toNat = 0 by omega, Nat.pow_zero, Nat.mul_one, cut_even neg mag k h]
      have hD := Nat.two_pow_pos k
      have hdm := Nat.div_add_mod mag (2 ^ k)
      have hml := Nat.mod_lt mag hD
      refine ⟨mag / 2 ^ k, lefN (mag % 2 ^ k) (2 ^ k), ?_, rfl, ?_, ?_⟩
      · have := left_nat (mag := mag) (u := mag / 2 ^ k) (t := mag % 2 ^ k) (D := 2 ^ k) (pw_pos place) (by rw [Nat.mul_comm]; exact hdm.symm) hml
        have e : pw l = ((2 ^ k : Nat) : Int) * pw place := by
          rw [hpl, pw_add hp, Int.mul_comm]
          push_cast
          rfl
        rw [e]
        exact this
      · rw [Nat.div_lt_iff_lt_mul hD, ← e53, ← Nat.pow_add]
        exact Nat.lt_of_lt_of_le h2 (Nat.pow_le_pow_right (by decide) (by omega))
      · intro h0
        rw [Nat.le_div_iff_mul_le hD, ← e52, ← Nat.pow_add]
        exact Nat.le_trans (Nat.pow_le_pow_right (by decide) (by have := hl2 (by omega); omega)) h1
  obtain ⟨u, left, hLeft, hcut, hu1, hu2⟩ := main
  rw [hcut]
  have hV := V_rung Ieee.double a u (by rw [dBin]; omega) (fun q => by rw [dBin]; exact hu2 q)
  rw [dBin] at hV
  have hpw : pw l = 2 ^ a * pw (-1074) := by rw [hal, pw_add (by decide), Int.mul_comm]
  rw [hpw] at hLeft
  refine ⟨a * 4503599627370496 + u, left, left_rung hLeft hV.1 hV.2, ?_⟩
  have hm := minInf (r := a * 4503599627370496 + u) (neg := neg) (left := left) rfl
  rw [odd_rung] at hm
  rw [← hm, Int.toNat_natCast, Nat.add_assoc]
end Go.Proofs.YtjlmpgbadgkgmaaGreatDoor

/-
  What RoundNearest asks of the calls.
-/
namespace Go.Proofs.YtjlmpgbadgkgmaaGreatDoor
open Go Go.RowKit Go.Proofs.YtjlmpgbadgkgmaaGreatDoor.M
set_option linter.unusedSimpArgs false
set_option linter.unusedVariables false

theorem patV_bd {b : Int} (h : pok b = true) : Bd 4000 (patV b) := by
  obtain ⟨i0, i1, i2, i3⟩ := pmag_in h
  have h30 : (9007199254740992 : Int) ≤ P 30 := by unfold P; decide
  exact bd_num i0 (Int.lt_of_lt_of_le (by omega) h30) (by omega) (by omega)
theorem Bd.sub {B : Nat} {V W : Int} (h : Bd B V) (k : Bd B W) (hB : B < 4194304) : Bd (B + 1) (V - W) := by
  rw [Int.sub_eq_add_neg]
  exact h.add k.neg hB
end Go.Proofs.YtjlmpgbadgkgmaaGreatDoor

/-
  Plain mathematics: rounding with the other sign, and that it keeps the order.
-/
namespace Go.Proofs.YtjlmpgbadgkgmaaGreatDoor
open Go Go.RowKit Go.Proofs.YtjlmpgbadgkgmaaGreatDoor.M
set_option linter.unusedSimpArgs false
set_option linter.unusedVariables false

theorem cls_pat {s : Bool} {r : Int} (h0 : 0 ≤ r) (h1 : r ≤ 9218868437227405312) (h : s = true → 0 < r) : cls (patS s r) ≠ 4 := by
  obtain ⟨a, b, _⟩ := patS_facts h0 h1 h
  intro q
  have := (cls_rg a).1.1 q
  omega
theorem key_pat {s : Bool} {r : Int} (h0 : 0 ≤ r) (h1 : r ≤ 9218868437227405312) (h : s = true → 0 < r) : key (patS s r) = sg s r := by
  unfold key patS sg
  cases s
  · simp only [Bool.false_eq_true, if_false]
    rw [if_neg (by omega)]
  · have := h rfl
    simp only [if_true]
    rw [if_pos (by omega)]
    omega
theorem rg_neg {b : Int} (hb : rng b) (h : cls b ≠ 4) : rg (neg b) = rg b ∧ key (neg b) = -key b := by
  unfold rng at hb
  unfold neg
  rw [if_neg h]
  unfold rg key
  by_cases h0 : b < 0
  · rw [if_pos h0, if_neg (by omega), if_pos h0, if_neg (by omega), if_pos h0]; omega
  · rw [if_neg h0, if_pos (by omega), if_neg h0, if_pos (by omega), if_neg h0]; omega
theorem cls_neg {b : Int} (hb : rng b) (h : cls b ≠ 4) : cls (neg b) ≠ 4 := by
  intro q
  have h1 := (cls_rg (rng_neg hb)).1.1 q
  rw [(rg_neg hb h).1] at h1
  exact h ((cls_rg hb).1.2 h1)
theorem same_of {a b : Int} (ha : cls a ≠ 4) (hb : cls b ≠ 4) (h : key a = key b) : same a b = true := by
  unfold same
  rw [decide_eq_false ha, decide_eq_false hb, decide_eq_true h]
  rfl
theorem less_not {a b : Int} (h : key b ≤ key a) : less a b = false := by
  unfold less
  rw [decide_eq_false (p := key a < key b) (by omega), Bool.and_false, Bool.and_false]
theorem rUp_mono {way : Int} {ng odd : Bool} {A B a b l k : Int} (h0 : l = 0 ↔ A = a) (h2 : l = 2 ↔ 2 * A = a + b) (h3 : l = 3 ↔ a + b < 2 * A) (g0 : k = 0 ↔ B = a) (g2 : k = 2 ↔ 2 * B = a + b) (g3 : k = 3 ↔ a + b < 2 * B) (lo : a ≤ A) (AB : A ≤ B)
    (h : rUp way ng odd l = true) : rUp way ng odd k = true := by
  have nz : l ≠ 0 → k ≠ 0 := fun q e => by
    have e1 := g0.1 e
    exact q (h0.2 (by omega))
  unfold rUp at *
  split at h
  · rename_i e
    rw [if_pos e]
    simp only [Bool.or_eq_true, Bool.and_eq_true, decide_eq_true_eq] at *
    rcases h with h | ⟨h, ho⟩
    · left; exact g3.2 (by have := h3.1 h; omega)
    · have e2 := h2.1 h
      by_cases e3 : 2 * B = a + b
      · right; exact ⟨g2.2 e3, ho⟩
      · left; exact g3.2 (by omega)
  · rename_i e
    rw [if_neg e]
    split at h
    · rename_i e2
      rw [if_pos e2]
      simp only [Bool.and_eq_true, decide_eq_true_eq] at *
      exact ⟨nz h.1, h.2⟩
    · rename_i e2
      rw [if_neg e2]
      split at h
      · rename_i e3
        rw [if_pos e3]
        simp only [Bool.and_eq_true, decide_eq_true_eq] at *
        exact ⟨nz h.1, h.2⟩
      · cases h
theorem rung_le {A B : Int} {r s : Nat} {l k : Int} (h : Rung A r l) (g : Rung B s k) (AB : A ≤ B) : r ≤ s := by
  rcases Nat.lt_or_ge s r with q | q
  · exfalso
    have h1 := h.lo
    have g1 := g.hi
    have e : vS (s + 1) ≤ vS r := by
      rcases Nat.lt_or_eq_of_le (show s + 1 ≤ r from q) with q2 | q2
      · exact Int.le_of_lt (vS_lt q2)
      · rw [q2]; exact Int.le_refl _
    exact absurd (Int.lt_of_lt_of_le g1 (Int.le_trans e (Int.le_trans h1 AB))) (Int.lt_irrefl _)
  · exact q
theorem rTo_mono {way : Int} {ng : Bool} {A B : Int} {r s : Nat} {l k : Int} (h : Rung A r l) (g : Rung B s k) (AB : A ≤ B) : rTo way ng r l ≤ rTo way ng s k := by
  have hrs := rung_le h g AB
  rcases Nat.lt_or_eq_of_le hrs with q | q
  · clear h g
    unfold rTo
    by_cases hs : (s : Int) < 9218868437227405312
    · rw [if_pos hs, if_pos (by omega)]
      split <;> split <;> omega
    · rw [if_neg hs]
      by_cases hr : (r : Int) < 9218868437227405312
      · rw [if_pos hr]
        unfold bRung
        cases hu : rUp way ng (decide (r % 2 = 1)) l
        · simp only [Bool.false_eq_true, if_false]
          split <;> omega
        · rw [if_pos rfl, if_pos (rUp_more hu)]
          omega
      · rw [if_neg hr]
        exact Int.le_refl _
  · subst q
    have lo := h.lo
    have h0 := h.l0
    have h2 := h.l2
    have h3 := h.l3
    have g0 := g.l0
    have g2 := g.l2
    have g3 := g.l3
    have hm := fun odd => @rUp_mono way ng odd A B (vS r) (vS (r + 1)) l k h0 h2 h3 g0 g2 g3 lo AB
    clear h g lo h0 h2 h3 g0 g2 g3
    unfold rTo
    by_cases hr : (r : Int) < 9218868437227405312
    · rw [if_pos hr, if_pos hr]
      cases hu : rUp way ng (decide (r % 2 = 1)) l
      · simp only [Bool.false_eq_true, if_false]
        split <;> omega
      · rw [hm _ hu]
        exact Int.le_refl _
    · rw [if_neg hr, if_neg hr]
      exact Int.le_refl _
theorem vS_nonneg (r : Nat) : 0 ≤ vS r := by
  rcases Nat.eq_zero_or_pos r with h | h
  · subst h; rw [vS_zero]; exact Int.le_refl _
  · have := vS_lt h
    rw [vS_zero] at this
    exact Int.le_of_lt this
theorem sg_key (ng : Bool) {r : Int} (h0 : 0 ≤ r) : sg (ng && decide (0 < r)) r = sg ng r := by
  by_cases h : 0 < r
  · rw [decide_eq_true h, Bool.and_true]
  · obtain rfl : r = 0 := by omega
    cases ng <;> rfl
/-- A pattern that is answered: its place in the order, and that it is a number's. -/
theorem RdOf.key {V : Int} {ng : Bool} {f : Int → Int × Bool} {A : Int} {r0 : Nat} {left : Int} {way : Int} (hf : f way = (patS (ng && decide (0 < rTo way ng r0 left)) (rTo way ng r0 left), decide (left ≠ 0) || decide (9218868437227405312 ≤ (r0 : Int)))) :
    M.key (f way).1 = sg ng (rTo way ng r0 left) ∧ cls (f way).1 ≠ 4 ∧ rng (f way).1 := by
  obtain ⟨g1, g2⟩ := rTo_range way ng r0 left
  rw [hf]
  exact ⟨(key_pat g1 g2 and_pos).trans (sg_key ng g1), cls_pat g1 g2 and_pos, (patS_facts g1 g2 and_pos).1⟩
theorem sg_le {ng mg : Bool} {A B r s : Int} (hA : 0 ≤ A) (hB : 0 ≤ B) (zB : mg = true → 0 < B) (r0 : 0 ≤ r) (s0 : 0 ≤ s) (h : sg ng A ≤ sg mg B) (up : ng = mg → A ≤ B → r ≤ s) (dn : ng = mg → B ≤ A → s ≤ r) : sg ng r ≤ sg mg s := by
  cases ng <;> cases mg
  · exact up rfl h
  · exfalso
    have h' : A ≤ -B := h
    have := zB rfl
    omega
  · show -r ≤ s
    omega
  · have h' : -A ≤ -B := h
    have := dn rfl (by omega)
    show -r ≤ -s
    omega
theorem rd_mono {V U : Int} {ng mg : Bool} {f g : Int → Int × Bool} (h : RdOf V ng f) (k : RdOf U mg g) (hVU : V ≤ U) (way : Int) : less (g way).1 (f way).1 = false := by
  obtain ⟨A, r, l, eV, zA, RA, hf⟩ := h
  obtain ⟨B, s, m, eU, zB, RB, hg⟩ := k
  have kf := (RdOf.key (V := V) (A := A) (hf way)).1
  have kg := (RdOf.key (V := U) (A := B) (hg way)).1
  have hA : 0 ≤ A := Int.le_trans (vS_nonneg r) RA.lo
  have hB : 0 ≤ B := Int.le_trans (vS_nonneg s) RB.lo
  refine less_not ?_
  rw [kf, kg]
  rw [eV, eU] at hVU
  refine sg_le hA hB zB (rTo_range way ng r l).1 (rTo_range way mg s m).1 hVU (fun e AB => ?_) (fun e BA => ?_)
  · subst e; exact rTo_mono RA RB AB
  · subst e; exact rTo_mono RB RA BA
theorem sg_mir {ng mg : Bool} {A B : Int} (hA : 0 ≤ A) (hB : 0 ≤ B) (zA : ng = true → 0 < A) (zB : mg = true → 0 < B) (h : -sg ng A = sg mg B) : A = B ∧ ((A = 0 ∧ ng = false ∧ mg = false) ∨ mg = !ng) := by
  cases ng <;> cases mg
  · have h' : -A = B := h
    exact ⟨by omega, .inl ⟨by omega, rfl, rfl⟩⟩
  · have h' : -A = -B := h
    exact ⟨by omega, .inr rfl⟩
  · have h' : - -A = B := h
    exact ⟨by omega, .inr rfl⟩
  · have h' : - -A = -B := h
    have := zA rfl
    have := zB rfl
    omega
/-- The way with the other sign. -/
def mirW (way : Int) : Int := if way = 1 then 2 else if way = 2 then 1 else way
theorem rUp_mir {way : Int} (hw : 0 ≤ way ∧ way ≤ 3) (ng odd : Bool) (l : Int) : rUp (mirW way) (!ng) odd l = rUp way ng odd l := by
  have hc : way = 0 ∨ way = 1 ∨ way = 2 ∨ way = 3 := by omega
  rcases hc with rfl | rfl | rfl | rfl <;> cases ng <;> rfl
theorem rTo_mir {way : Int} (hw : 0 ≤ way ∧ way ≤ 3) (ng : Bool) (r : Nat) (l : Int) : rTo (mirW way) (!ng) r l = rTo way ng r l := by
  unfold rTo bRung
  rw [rUp_mir hw, rUp_mir hw]
theorem key_mir {ng mg : Bool} {t u : Int} (h : (t = 0 ∧ u = 0 ∧ ng = false ∧ mg = false) ∨ (mg = !ng ∧ u = t)) : -sg ng t = sg mg u := by
  rcases h with ⟨rfl, rfl, rfl, rfl⟩ | ⟨rfl, rfl⟩
  · rfl
  · cases ng
    · rfl
    · exact Int.neg_neg u
theorem rd_mirK {ng mg : Bool} {A B : Int} {r s : Nat} {l m : Int} (RA : Rung A r l) (RB : Rung B s m) (zA : ng = true → 0 < A) (zB : mg = true → 0 < B) (e : -sg ng A = sg mg B) {way : Int} (hw : 0 ≤ way ∧ way ≤ 3) :
    r = s ∧ l = m ∧ -sg ng (rTo way ng r l) = sg mg (rTo (mirW way) mg s m) := by
  have hA : 0 ≤ A := Int.le_trans (vS_nonneg r) RA.lo
  have hB : 0 ≤ B := Int.le_trans (vS_nonneg s) RB.lo
  obtain ⟨h1, hc⟩ := sg_mir hA hB zA zB e
  rw [← h1] at RB
  obtain ⟨h2, h3⟩ := RA.unique RB
  refine ⟨h2, h3, key_mir ?_⟩
  rw [← h2, ← h3]
  rcases hc with ⟨h4, h5, h6⟩ | h4
  · left
    rw [h4] at RA
    obtain ⟨h7, h8⟩ := RA.unique rung_zero
    rw [h5, h6, h7, h8]
    exact ⟨rTo_zero way, rTo_zero _, rfl, rfl⟩
  · right
    rw [h4]
    exact ⟨rfl, rTo_mir hw ng r l⟩
theorem rd_mir {V : Int} {ng mg : Bool} {f g : Int → Int × Bool} (h : RdOf V ng f) (k : RdOf (-V) mg g) {way : Int} (hw : 0 ≤ way ∧ way ≤ 3) : (f way).2 = (g (mirW way)).2 ∧ same (neg (f way).1) (g (mirW way)).1 = true := by
  obtain ⟨A, r, l, eV, zA, RA, hf⟩ := h
  obtain ⟨B, s, m, eU, zB, RB, hg⟩ := k
  obtain ⟨kf, cf, rf⟩ := RdOf.key (V := V) (A := A) (hf way)
  obtain ⟨kg, cg, _⟩ := RdOf.key (V := V) (A := B) (hg (mirW way))
  rw [eV] at eU
  obtain ⟨h1, h2, h3⟩ := rd_mirK RA RB zA zB eU hw
  have o1 : (f way).2 = (decide (l ≠ 0) || decide (9218868437227405312 ≤ (r : Int))) := by rw [hf]
  have o2 : (g (mirW way)).2 = (decide (m ≠ 0) || decide (9218868437227405312 ≤ (s : Int))) := by rw [hg]
  clear hf hg RA RB
  subst h1 h2
  exact ⟨o1.trans o2.symm, same_of (cls_neg rf cf) cg (((rg_neg rf cf).2.trans (congrArg Neg.neg kf)).trans (h3.trans kg.symm))⟩
end Go.Proofs.YtjlmpgbadgkgmaaGreatDoor
