/-
  Parts of the proof, one behind another.
-/
import Derived.Test.YtmjdlcbiaglkeaaDoorPart9
import Derived.Test.YtmjdlcbiaglkeaaDoorPart8
import Derived.Test.YtmjdlcbiaglkeaaDoorPart4
/-
  Numbers at the ends of what is valid: which have a valid form, which have none; calls that are known to tell a number or ErrLong.
-/
namespace Go.Proofs.YtmjdlcbiaglkeaaDoor
open Go Go.RowKit Go.Proofs.YtmjdlcbiaglkeaaDoor.M
set_option linter.unusedSimpArgs false
set_option linter.unusedVariables false

theorem P_one : (1 : Int) < P 2000 := by
  have := P2000_big2
  omega
theorem mk_one {ng : Bool} {e : Int} (h : -4194304 ≤ e) : mkV ng 1 e = sg ng 1 * pw e := by
  unfold mkV
  rw [if_neg (by decide), if_neg (by omega)]
theorem dy_one {ng : Bool} {e : Int} (h : -4194304 ≤ e) : Dy (mkV ng 1 e) ng 1 e := ⟨mk_one h, h, .inr ⟨by decide, by decide⟩⟩
theorem dok_one {ng : Bool} {e : Int} (h0 : -1048576 ≤ e) (h1 : e ≤ 1048576) : Dok (mkV ng 1 e) := (dy_one (by omega)).ok.2 ⟨P_one, h0, h1⟩
theorem nok_one {ng : Bool} {e : Int} (h : 1048576 < e ∨ e < -1048576) : ¬ Dok (mkV ng 1 e) := by
  by_cases h0 : e < -4194304
  · unfold mkV
    rw [if_neg (by decide), if_pos h0]
    exact not_dok_one
  · intro hk
    have := (dy_one (ng := ng) (e := e) (by omega)).ok.1 hk
    omega
theorem nok_two {e : Int} (h0 : -4194304 ≤ e) (h : 1048576 ≤ e) : ¬ Dok (mkV false 2 e) := by
  have e1 : mkV false 2 e = mkV false 1 (e + 1) := by
    rw [mk_one (by omega)]
    unfold mkV
    rw [if_neg (by decide), if_neg (by omega)]
    have := pw_add h0 1
    rw [show e + ((1 : Nat) : Int) = e + 1 from rfl] at this
    rw [this]
    simp only [sg]
    grind
  rw [e1]
  exact nok_one (.inl (by omega))
theorem one_sum {a b : Int} (h : b ≤ a) (h0 : -4194304 ≤ b) : mkV false 1 a + mkV false 1 b = (2 ^ (a - b).toNat + 1) * pw b := by
  rw [mk_one (by omega), mk_one (by omega), pw_sub h0 h]
  simp only [sg]
  generalize pw b = Q
  generalize (2 : Int) ^ (a - b).toNat = R
  grind
theorem nok_sum {a b : Int} (h : b + 60000 ≤ a) (h0 : -4194304 ≤ b) : ¬ Dok (mkV false 1 a + mkV false 1 b) := by
  rw [one_sum (by omega) h0]
  have hp := two_pos (a - b).toNat
  have ho : ((2 : Int) ^ (a - b).toNat + 1) % 2 = 1 := by
    obtain ⟨k, hk⟩ : ∃ k, (a - b).toNat = k + 1 := ⟨(a - b).toNat - 1, by omega⟩
    rw [hk, Int.pow_succ]
    omega
  have hd : Dy (((2 : Int) ^ (a - b).toNat + 1) * pw b) false (2 ^ (a - b).toNat + 1) b := ⟨rfl, h0, .inr ⟨by omega, ho⟩⟩
  intro hk
  have h1 := (hd.ok.1 hk).1
  have h2 : (2 : Int) ^ (30 * 2000) ≤ 2 ^ (a - b).toNat := two_le (by omega)
  rw [← P_two] at h2
  omega
theorem twice_one {ng : Bool} {e : Int} (h : -4194304 ≤ e) : mkV ng 1 e + mkV ng 1 e = mkV ng 1 (e + 1) := by
  rw [mk_one h, mk_one (by omega)]
  have := pw_add h 1
  rw [show e + ((1 : Nat) : Int) = e + 1 from rfl] at this
  rw [this]
  generalize pw e = Q
  cases ng <;> simp only [sg] <;> grind
theorem one_lt {a b : Int} (h : b < a) (h0 : -4194304 ≤ b) : mkV false 1 b < mkV false 1 a := by
  have h1 := one_sum (a := a) (b := b) (by omega) h0
  rw [mk_one (by omega), mk_one (by omega)] at *
  rw [pw_sub h0 (show b ≤ a by omega)]
  simp only [sg]
  have hp := pw_pos b
  have h2 : (2 : Int) ≤ 2 ^ (a - b).toNat := by
    have := two_le (show 1 ≤ (a - b).toNat by omega)
    rwa [show (2 : Int) ^ 1 = 2 from rfl] at this
  have h3 : 2 * pw b ≤ 2 ^ (a - b).toNat * pw b := Int.mul_le_mul_of_nonneg_right h2 (by omega)
  simp
  omega
theorem nok_prod {C : Int} (h : C * 2 ^ 4194304 = mkV true 1 (-1048576) * mkV true 1 (-1048576)) : ¬ Dok C := by
  have e : C = mkV false 1 (-2097152) := by
    refine scale_inj ?_
    rw [h, mk_one (by omega), mk_one (by omega)]
    have := pw_mul (a := -1048576) (b := -1048576) (by omega) (by omega)
    rw [show (-1048576 : Int) + -1048576 = -2097152 from rfl] at this
    generalize pw (-1048576) = Q at *
    generalize pw (-2097152) = R at *
    rw [show sg true 1 = -1 from rfl, show sg false 1 = 1 from rfl, Int.one_mul, ← this, show (-1 : Int) * Q = -Q by omega, Int.neg_mul_neg]
  rw [e]
  exact nok_one (.inr (by omega))
theorem dok_low2 : Dok (mkV true 1 (-1048576) + mkV true 1 (-1048576)) := by
  rw [twice_one (by omega)]
  exact dok_one (by omega) (by omega)
theorem nok_high2 : ¬ Dok (mkV false 1 1048576 + mkV false 1 1048576) := by
  rw [twice_one (by omega)]
  exact nok_one (.inl (by omega))
theorem dok_minus {V : Int} (h : Dok V) : Dok (-V) := by
  obtain ⟨ng, m, e, hy, h1⟩ := h
  rcases hy.form with ⟨h2, _, _⟩ | ⟨h2, _⟩
  · rw [hy.eq_zero.2 h2]; exact dok_zero
  · exact (hy.neg h2).ok.2 h1
theorem DFit.no {w w' : World} {V er : Int} {v : Value} (h : DFit w w' V v er) (no : ¬ Dok V) : er = 2 ∧ v = zeroV ∧ Below w.heap.size w w' := by
  rcases h.2 with ⟨ok, _⟩ | ⟨_, h1, h2⟩
  · exact absurd ok no
  · exact ⟨h1, h2, h.1⟩
def trip3 (x y z : NumR) : Nat → NumR := fun i => if i = 0 then x else if i = 1 then y else z
theorem nums3 {w : World} {g : Nat} {x y z : NumR} {t : TypeId} (h : w.heap[g]? = some (.cells #[.bool x.ng, .slice x.ao x.n x.cap, .int .i64 x.e, .bool y.ng, .slice y.ao y.n y.cap, .int .i64 y.e, .bool z.ng, .slice z.ao z.n z.cap, .int .i64 z.e] t (0, 0))) (hx : Row w x.ao x.n x.cap x.d) (hy : Row w y.ao y.n y.cap y.d) (hz : Row w z.ao z.n z.cap z.d) :
    Nums w (some ⟨g, 0, none⟩) 3 3 (trip3 x y z) :=
  ⟨Nat.le_refl _, by decide, fun _ => ⟨g, 0, rfl, (Array.getElem?_eq_some_iff.1 h).1, fun i hi => by
    match i, hi with
    | 0, _ => exact ⟨blkC h 0 rfl, blkC h 1 rfl, blkC h 2 rfl, hx⟩
    | 1, _ => exact ⟨blkC h 3 rfl, blkC h 4 rfl, blkC h 5 rfl, hy⟩
    | 2, _ => exact ⟨blkC h 6 rfl, blkC h 7 rfl, blkC h 8 rfl, hz⟩⟩⟩
theorem DNum.open2 {w : World} {ng : Bool} {so : Option Addr} {sn sc : Nat} {e V : Int} (h : DNum w (.agg #[.bool ng, .slice so sn sc, .int .i64 e]) V) (ok : Dok V) : ∃ d, Row w so sn sc d ∧ okR ⟨ng, so, sn, sc, d, e⟩ = true ∧ (⟨ng, so, sn, sc, d, e⟩ : NumR).V = V := by
  obtain ⟨x, h1, h2, h3, h4⟩ := h.open ok
  obtain ⟨xg, xo, xn, xc, xd, xe⟩ := x
  simp only [NumR.v, Value.agg.injEq, Array.mk.injEq, List.cons.injEq, Value.bool.injEq, Value.int.injEq, Value.slice.injEq, and_true, true_and] at h1
  obtain ⟨rfl, ⟨rfl, rfl, rfl⟩, rfl⟩ := h1
  exact ⟨xd, h2, h3, h4⟩
end Go.Proofs.YtmjdlcbiaglkeaaDoor

/-
  What the laws of package round share: what a row gives, numbers told by their worth, round.To at all ways.
-/
namespace Go.Proofs.YtmjdlcbiaglkeaaDoor
open Go Go.ChangeShapes Go.WideShapes Go.ChangeAt Go.RowKit Go.Proofs.YtmjdlcbiaglkeaaDoor.M
set_option linter.unusedSimpArgs false
set_option linter.unusedVariables false

structure Hold4 (w : World) : Prop where
  lay : Lay64 w
  tab : Tab w
  env : Env w
theorem Hold4.keeps {w w' : World} (h : Hold4 w) (hb : Below w.heap.size w w') : Hold4 w' := ⟨h.lay.keeps hb, h.tab.keeps hb, h.env.keeps hb⟩
theorem P20_30 : P 20 ≤ P 30 := by unfold P; decide
/-- The four ways at a number. -/
def To4 (w : World) (x : Value) (f : Int → Int × Bool) : Prop := ∀ (way : Int) (W : World), 0 ≤ way ∧ way ≤ 3 → Below w.heap.size w W → Calls Tryd.prog 29 #[x, .int .i64 way] W fun e w' => e = .returned (.tuple #[.int .i64 (f way).1, .bool (f way).2, .int .i64 0]) ∧ Below W.heap.size W w'
theorem To4.keeps {w w' : World} {x : Value} {f : Int → Int × Bool} (h : To4 w x f) (hb : Below w.heap.size w w') : To4 w' x f := fun way W hw hB => h way W hw (bel_trans hb hB)
theorem To4.at {w : World} {x : Value} {f : Int → Int × Bool} (h : To4 w x f) (way : Int) (hw : 0 ≤ way ∧ way ≤ 3) : Calls Tryd.prog 29 #[x, .int .i64 way] w fun e w' => e = .returned (.tuple #[.int .i64 (f way).1, .bool (f way).2, .int .i64 0]) ∧ Below w.heap.size w w' := h way w hw (bel_refl w)
theorem rTo_range (way : Int) (ng : Bool) (r0 : Nat) (left : Int) : 0 ≤ rTo way ng r0 left ∧ rTo way ng r0 left ≤ 9218868437227405312 := by
  unfold rTo
  split
  · split <;> omega
  · unfold bRung
    repeat' split
    all_goals decide
theorem toR_range {x : NumR} (ok : okR x = true) (way : Int) : rng (toR way x).1 := by
  by_cases h0 : x.n = 0
  · rw [to_zero ok h0]; unfold rng; decide
  · obtain ⟨r0, left, _, hf⟩ := to_all ok (by omega)
    rw [hf way]
    obtain ⟨h1, h2⟩ := rTo_range way x.ng r0 left
    exact (patS_facts h1 h2 (fun h => by
      cases hx : x.ng
      · rw [hx] at h; cases h
      · rw [hx, Bool.true_and] at h; exact of_decide_eq_true h)).1
theorem to_four {w : World} {ng : Bool} {so : Option Addr} {sn sc : Nat} {e V : Int} (h : DNum w (.agg #[.bool ng, .slice so sn sc, .int .i64 e]) V) (ok : Dok V) (H : Hold4 w) :
    ∃ x : NumR, okR x = true ∧ x.V = V ∧ x.ng = ng ∧ To4 w (.agg #[.bool ng, .slice so sn sc, .int .i64 e]) (fun way => toR way x) := by
  obtain ⟨d, hR, hok, hV⟩ := h.open2 ok
  exact ⟨⟨ng, so, sn, sc, d, e⟩, hok, hV, rfl, fun way W hw hb => to_ok way hw ⟨ng, so, sn, sc, d, e⟩ W (hR.keeps hb) hok (H.env.keeps hb) (H.tab.keeps hb)⟩
theorem to_btw {w : World} {ng : Bool} {so : Option Addr} {sn sc : Nat} {e V : Int} (h : DNum w (.agg #[.bool ng, .slice so sn sc, .int .i64 e]) V) (ok : Dok V) (H : Hold4 w) :
    ∃ f : Int → Int × Bool, To4 w (.agg #[.bool ng, .slice so sn sc, .int .i64 e]) f ∧ Btw V ng f ∧ ∀ way, rng (f way).1 := by
  obtain ⟨x, h1, rfl, rfl, h4⟩ := to_four h ok H
  exact ⟨_, h4, between h1, toR_range h1⟩
end Go.Proofs.YtmjdlcbiaglkeaaDoor

/-
  Plain mathematics: a number and its rung, for 0 too; which neighbour is nearer.
-/
namespace Go.Proofs.YtmjdlcbiaglkeaaDoor
open Go Go.RowKit Go.Proofs.YtmjdlcbiaglkeaaDoor.M
set_option linter.unusedSimpArgs false
set_option linter.unusedVariables false

/-- What the four ways answer at a number, by its rung. -/
def RdOf (V : Int) (ng : Bool) (f : Int → Int × Bool) : Prop := ∃ (A : Int) (r0 : Nat) (left : Int), V = sg ng A ∧ (ng = true → 0 < A) ∧ Rung A r0 left ∧ ∀ way, f way = (patS (ng && decide (0 < rTo way ng r0 left)) (rTo way ng r0 left), decide (left ≠ 0) || decide (9218868437227405312 ≤ (r0 : Int)))
theorem rung_zero_aux {a b : Int} (h0 : a = 0) (h1 : a < b) : (0 : Int) < b ∧ (((0 : Int) = 0 ↔ (0 : Int) = a) ∧ ((0 : Int) = 1 ↔ a < 0 ∧ 2 * 0 < a + b) ∧ ((0 : Int) = 2 ↔ 2 * 0 = a + b) ∧ ((0 : Int) = 3 ↔ a + b < 2 * 0)) := by
  subst h0
  exact ⟨h1, by omega, by omega, by omega, by omega⟩
theorem rung_zero : Rung 0 0 0 := by
  have h1 := vS_lt (show 0 < 0 + 1 by decide)
  have h0 := vS_zero
  obtain ⟨q, a, b, c, d⟩ := rung_zero_aux h0 h1
  exact ⟨Int.le_of_eq h0, q, a, b, c, d⟩
theorem rTo_zero (way : Int) : rTo way false 0 0 = 0 := by
  unfold rTo
  rw [if_pos (by decide)]
  cases h : rUp way false (decide (0 % 2 = 1)) 0
  · rfl
  · exact (rUp_left h).elim
theorem val_posA {x : NumR} (ok : okR x = true) (h0 : 0 < x.n) : 0 < val x.d x.n * pw x.e := by
  obtain ⟨na, _⟩ := okR_sane ok
  exact Int.mul_pos (val_pos na h0) (pw_pos _)
theorem to_rd {x : NumR} (ok : okR x = true) : RdOf x.V x.ng (fun way => toR way x) := by
  by_cases h0 : x.n = 0
  · have hz : x.ng = false := by
      have := of_decide_eq_true ok
      rcases this with ⟨_, a, b⟩ | ⟨a, _⟩
      · exact a
      · omega
    have hv : x.V = 0 := by
      have hv : val x.d x.n = 0 := by rw [h0]; rfl
      unfold NumR.V
      rw [hv, sg_zero, Int.zero_mul]
    refine ⟨0, 0, 0, by rw [hv, hz]; rfl, (fun h => by rw [hz] at h; cases h), rung_zero, fun way => ?_⟩
    rw [hz, rTo_zero]
    exact to_zero ok h0 way
  · obtain ⟨r0, left, hR, hf⟩ := to_all ok (by omega)
    have hp := val_posA ok (by omega)
    have hV : x.V = sg x.ng (val x.d x.n * pw x.e) := by
      unfold NumR.V
      exact sg_prod _ _ _
    exact ⟨_, r0, left, hV, (fun _ => hp), hR, hf⟩
theorem ord_neg_iff {a b : Int} : ord a b < 0 ↔ a < b := by
  rcases Int.lt_trichotomy a b with h | h | h
  · rw [ord_lt h]; exact ⟨fun _ => h, fun _ => by decide⟩
  · rw [ord_eq h]; exact ⟨fun q => absurd q (by decide), fun q => by omega⟩
  · rw [ord_gt h]; exact ⟨fun q => absurd q (by decide), fun q => by omega⟩
theorem ord_pos_iff {a b : Int} : 0 < ord a b ↔ b < a := by
  rcases Int.lt_trichotomy a b with h | h | h
  · rw [ord_lt h]; exact ⟨fun q => absurd q (by decide), fun q => by omega⟩
  · rw [ord_eq h]; exact ⟨fun q => absurd q (by decide), fun q => by omega⟩
  · rw [ord_gt h]; exact ⟨fun _ => h, fun _ => by decide⟩
theorem ord_zero_iff {a b : Int} : ord a b = 0 ↔ a = b := by
  rcases Int.lt_trichotomy a b with h | h | h
  · rw [ord_lt h]; exact ⟨fun q => absurd q (by decide), fun q => by omega⟩
  · rw [ord_eq h]; exact ⟨fun _ => h, fun _ => rfl⟩
  · rw [ord_gt h]; exact ⟨fun q => absurd q (by decide), fun q => by omega⟩
theorem near_pos {A a b left : Int} (l1 : left = 1 ↔ a < A ∧ 2 * A < a + b) (l2 : left = 2 ↔ 2 * A = a + b) (l3 : left = 3 ↔ a + b < 2 * A) (lo : a < A) :
    (ord (A - a) (b - A) < 0 → left = 1) ∧ (0 < ord (A - a) (b - A) → left = 3) ∧ (ord (A - a) (b - A) = 0 → left = 2) :=
  ⟨fun h => l1.2 ⟨lo, by have := ord_neg_iff.1 h; omega⟩, fun h => l3.2 (by have := ord_pos_iff.1 h; omega), fun h => l2.2 (by have := ord_zero_iff.1 h; omega)⟩
theorem near_neg {A a b left : Int} (l1 : left = 1 ↔ a < A ∧ 2 * A < a + b) (l2 : left = 2 ↔ 2 * A = a + b) (l3 : left = 3 ↔ a + b < 2 * A) (lo : a < A) :
    (ord (-A - -b) (-a - -A) < 0 → left = 3) ∧ (0 < ord (-A - -b) (-a - -A) → left = 1) ∧ (ord (-A - -b) (-a - -A) = 0 → left = 2) :=
  ⟨fun h => l3.2 (by have := ord_neg_iff.1 h; omega), fun h => l1.2 ⟨lo, by have := ord_pos_iff.1 h; omega⟩, fun h => l2.2 (by have := ord_zero_iff.1 h; omega)⟩
theorem near_posS {A a b left : Int} (l1 : left = 1 ↔ a < A ∧ 2 * A < a + b) (l2 : left = 2 ↔ 2 * A = a + b) (l3 : left = 3 ↔ a + b < 2 * A) (lo : a < A) :
    (ord (sg false A - sg false a) (sg false b - sg false A) < 0 → left = 1) ∧ (0 < ord (sg false A - sg false a) (sg false b - sg false A) → left = 3) ∧ (ord (sg false A - sg false a) (sg false b - sg false A) = 0 → left = 2) := near_pos l1 l2 l3 lo
theorem near_negS {A a b left : Int} (l1 : left = 1 ↔ a < A ∧ 2 * A < a + b) (l2 : left = 2 ↔ 2 * A = a + b) (l3 : left = 3 ↔ a + b < 2 * A) (lo : a < A) :
    (ord (sg true A - sg true b) (sg true a - sg true A) < 0 → left = 3) ∧ (0 < ord (sg true A - sg true b) (sg true a - sg true A) → left = 1) ∧ (ord (sg true A - sg true b) (sg true a - sg true A) = 0 → left = 2) := near_neg l1 l2 l3 lo
theorem rTo0_1 {ng : Bool} {r0 : Nat} (h : (r0 : Int) < 9218868437227405312) : rTo 0 ng r0 1 = (r0 : Int) := by
  unfold rTo
  rw [if_pos h]
  simp [rUp]
theorem rTo0_3 {ng : Bool} {r0 : Nat} (h : (r0 : Int) < 9218868437227405312) : rTo 0 ng r0 3 = ((r0 + 1 : Nat) : Int) := by
  unfold rTo
  rw [if_pos h]
  simp [rUp]
theorem rTo0_2 {ng : Bool} {r0 : Nat} (h : (r0 : Int) < 9218868437227405312) : rTo 0 ng r0 2 % 2 = 0 := by
  unfold rTo
  rw [if_pos h]
  by_cases hp : r0 % 2 = 1
  · simp [rUp, hp]; omega
  · simp [rUp, hp]; omega
theorem patS_even {b : Bool} {r : Int} (h : r % 2 = 0) : patS b r % 2 = 0 := by
  unfold patS
  cases b
  · exact h
  · show (r - 9223372036854775808) % 2 = 0; omega
theorem and_pos {ng : Bool} {r : Int} (h : (ng && decide (0 < r)) = true) : 0 < r := by
  cases ng
  · cases h
  · rw [Bool.true_and] at h; exact of_decide_eq_true h
theorem pat_fin {ng : Bool} {r : Int} (h0 : 0 ≤ r) (h1 : r ≤ 9218868437227405312) (h : pok (patS (ng && decide (0 < r)) r) = true) : r < 9218868437227405312 := by
  rw [patS_pok h0 h1 and_pos] at h
  exact of_decide_eq_true h
theorem patV_rung {ng : Bool} {r : Nat} (h : (r : Int) < 9218868437227405312) : patV (patS (ng && decide ((0 : Int) < (r : Int))) (r : Int)) = sg ng (vS r) := by
  rw [patV_patS h (fun q => by have := and_pos q; omega)]
  by_cases h0 : r = 0
  · subst h0
    rw [vS_zero]
    simp [sg]
  · have e : (ng && decide ((0 : Int) < (r : Int))) = ng := by rw [decide_eq_true (by omega), Bool.and_true]
    rw [e]
structure Nea (V : Int) (f : Int → Int × Bool) : Prop where
  lo : ord (V - patV (f 1).1) (patV (f 2).1 - V) < 0 → (f 0).1 = (f 1).1
  hi : 0 < ord (V - patV (f 1).1) (patV (f 2).1 - V) → (f 0).1 = (f 2).1
  ev : ord (V - patV (f 1).1) (patV (f 2).1 - V) = 0 → (f 0).1 % 2 = 0
theorem Nea.of {V : Int} {f : Int → Int × Bool} {d u n p q : Int} {o : Bool} (f1 : f 1 = (d, o)) (f2 : f 2 = (u, o)) (f0 : f 0 = (n, o)) (hd : patV d = p) (hu : patV u = q)
    (lo : ord (V - p) (q - V) < 0 → n = d) (hi : 0 < ord (V - p) (q - V) → n = u) (ev : ord (V - p) (q - V) = 0 → n % 2 = 0) : Nea V f := by
  subst hd hu
  exact ⟨by rw [f1, f2, f0]; exact lo, by rw [f1, f2, f0]; exact hi, by rw [f1, f2, f0]; exact ev⟩
theorem nearest {V : Int} {ng : Bool} {f : Int → Int × Bool} (h : RdOf V ng f) (o : (f 0).2 = true) (pd : pok (f 1).1 = true) (pu : pok (f 2).1 = true) : Nea V f := by
  obtain ⟨A, r0, left, hV, hA, hR, hf⟩ := h
  have f1 := hf 1
  have f2 := hf 2
  have f0 := hf 0
  rw [f1] at pd
  rw [f2] at pu
  rw [f0] at o
  have g1 := rTo_range 1 ng r0 left
  have g2 := rTo_range 2 ng r0 left
  have q1 := pat_fin g1.1 g1.2 pd
  have q2 := pat_fin g2.1 g2.2 pu
  clear pd pu hf g1 g2
  by_cases hr : (r0 : Int) < 9218868437227405312
  · obtain ⟨t1, t2, t3, t0⟩ := rTo_fin (ng := ng) (left := left) hr
    have hl : left ≠ 0 := by
      have o' : (decide (left ≠ 0) || decide (9218868437227405312 ≤ (r0 : Int))) = true := o
      rw [decide_eq_false (p := 9218868437227405312 ≤ (r0 : Int)) (Int.not_le.2 hr), Bool.or_false] at o'
      exact of_decide_eq_true o'
    have hAl : vS r0 < A := by
      rcases Int.lt_or_eq_of_le hR.lo with h | h
      · exact h
      · exact absurd (hR.l0.2 h.symm) hl
    have l1 := hR.l1
    have l2 := hR.l2
    have l3 := hR.l3
    clear hR t3 t0 hA
    have V0 := patV_rung (ng := ng) hr
    cases ng
    · have e1 : rTo 1 false r0 left = (r0 : Int) := by rw [t1, if_neg (fun h => by cases h.2)]
      have e2 : rTo 2 false r0 left = ((r0 + 1 : Nat) : Int) := by rw [t2, if_pos ⟨hl, rfl⟩]
      rw [e1] at f1
      rw [e2] at f2 q2
      have V1 := patV_rung (ng := false) q2
      obtain ⟨n1, n2, n3⟩ := near_posS l1 l2 l3 hAl
      refine Nea.of f1 f2 f0 V0 V1 ?_ ?_ ?_
      · intro h
        rw [hV] at h
        have := n1 h
        subst this
        rw [rTo0_1 hr]
      · intro h
        rw [hV] at h
        have := n2 h
        subst this
        rw [rTo0_3 hr]
      · intro h
        rw [hV] at h
        have := n3 h
        subst this
        exact patS_even (rTo0_2 hr)
    · have e1 : rTo 1 true r0 left = ((r0 + 1 : Nat) : Int) := by rw [t1, if_pos ⟨hl, rfl⟩]
      have e2 : rTo 2 true r0 left = (r0 : Int) := by rw [t2, if_neg (fun h => by cases h.2)]
      rw [e1] at f1 q1
      rw [e2] at f2
      have V1 := patV_rung (ng := true) q1
      obtain ⟨n1, n2, n3⟩ := near_negS l1 l2 l3 hAl
      refine Nea.of f1 f2 f0 V1 V0 ?_ ?_ ?_
      · intro h
        rw [hV] at h
        have := n1 h
        subst this
        rw [rTo0_3 hr]
      · intro h
        rw [hV] at h
        have := n2 h
        subst this
        rw [rTo0_1 hr]
      · intro h
        rw [hV] at h
        have := n3 h
        subst this
        exact patS_even (rTo0_2 hr)
  · exfalso
    obtain ⟨t1, t2, t3, t0⟩ := rTo_inf (ng := ng) (left := left) hr
    rw [t1] at q1
    rw [t2] at q2
    clear f1 f2 f0 o hV hA hR
    cases ng
    · rw [if_neg (by decide)] at q2; omega
    · rw [if_pos rfl] at q1; omega
end Go.Proofs.YtmjdlcbiaglkeaaDoor

/-
  What RoundNearest asks of the calls.
-/
namespace Go.Proofs.YtmjdlcbiaglkeaaDoor
open Go Go.RowKit Go.Proofs.YtmjdlcbiaglkeaaDoor.M
set_option linter.unusedSimpArgs false
set_option linter.unusedVariables false

theorem to_nea {w : World} {ng : Bool} {so : Option Addr} {sn sc : Nat} {e V : Int} (h : DNum w (.agg #[.bool ng, .slice so sn sc, .int .i64 e]) V) (ok : Dok V) (H : Hold4 w) :
    ∃ f : Int → Int × Bool, To4 w (.agg #[.bool ng, .slice so sn sc, .int .i64 e]) f ∧ Btw V ng f ∧ (∀ way, rng (f way).1) ∧ RdOf V ng f := by
  obtain ⟨x, h1, rfl, rfl, h4⟩ := to_four h ok H
  exact ⟨_, h4, between h1, toR_range h1, to_rd h1⟩
theorem patV_bd {b : Int} (h : pok b = true) : Bd 4000 (patV b) := by
  obtain ⟨i0, i1, i2, i3⟩ := pmag_in h
  have h30 : (9007199254740992 : Int) ≤ P 30 := by unfold P; decide
  exact bd_num i0 (Int.lt_of_lt_of_le (by omega) h30) (by omega) (by omega)
theorem Bd.sub {B : Nat} {V W : Int} (h : Bd B V) (k : Bd B W) (hB : B < 4194304) : Bd (B + 1) (V - W) := by
  rw [Int.sub_eq_add_neg]
  exact h.add k.neg hB
theorem of_ok {b : Int} {w : World} (h : pok b = true) (H : Hold4 w) : Calls Tryd.prog 4 #[.int .i64 b] w fun r w' => ∃ v, r = .returned (.tuple #[v, .int .i64 0]) ∧ DAns w w' (patV b) v := by
  refine (dof_any b w H.lay H.tab).mono ?_
  rintro _ w' ⟨v, er, rfl, hb, (⟨_, rfl, hD⟩ | ⟨h', _⟩)⟩
  · exact ⟨v, rfl, hD⟩
  · rw [h] at h'; cases h'
theorem of_no {b : Int} {w : World} (h : pok b = false) (H : Hold4 w) : Calls Tryd.prog 4 #[.int .i64 b] w fun r w' => r = .returned (.tuple #[.agg #[.bool false, .slice none 0 0, .int .i64 0], .int .i64 10]) ∧ Below w.heap.size w w' := by
  refine (dof_any b w H.lay H.tab).mono ?_
  rintro _ w' ⟨v, er, rfl, hb, (⟨h', _⟩ | ⟨_, rfl, rfl⟩)⟩
  · rw [h] at h'; cases h'
  · exact ⟨rfl, hb⟩
end Go.Proofs.YtmjdlcbiaglkeaaDoor

/-
  Package span: told, Around, by their contracts.
-/
namespace Go.Proofs.YtmjdlcbiaglkeaaDoor
open Go Go.RowKit Go.Proofs.YtmjdlcbiaglkeaaDoor.M
set_option linter.unusedSimpArgs false
set_option linter.unusedVariables false

set_option maxRecDepth 100000 in
set_option maxHeartbeats 1000000 in
theorem spanTold {lo hi : Int} (hl : nn lo) (hh : nn hi) (w : World) (L : Lays w) :
    Calls Tryd.prog 15 #[ivl lo hi] w fun e w' => e = .returned (spn (canon lo) (canon hi)) ∧ Below w.heap.size w w' := by
  unfold ivl spn
  have CO1 : Hid (∀ W, Calls Tryd.prog 27 #[.float .f64 (wd lo)] W fun e w' => e = .returned (.int .i64 lo) ∧ w' = W) := fun W => by
    have := bitsOf lo W hl.1
    rw [show told lo = lo from if_neg hl.2] at this
    exact this
  have CO2 : Hid (∀ W, Calls Tryd.prog 27 #[.float .f64 (wd hi)] W fun e w' => e = .returned (.int .i64 hi) ∧ w' = W) := fun W => by
    have := bitsOf hi W hh.1
    rw [show told hi = hi from if_neg hh.2] at this
    exact this
  have CX' : Hid (∀ W, Lays W → Calls Tryd.prog 26 #[.int .i64 lo] W fun e w' => e = .returned (.int .i64 (canon lo)) ∧ Gr W w') := fun W LW => bitsCanon lo W LW
  have CY' : Hid (∀ W, Lays W → Calls Tryd.prog 26 #[.int .i64 hi] W fun e w' => e = .returned (.int .i64 (canon hi)) ∧ Gr W w') := fun W LW => bitsCanon hi W LW
  generalize canon lo = X at *
  generalize canon hi = Y at *
  generalize wd lo = A at *
  generalize wd hi = B at *
  have hb2 := bel_alloc2 w (.cells #[.float .f64 A, .float .f64 B] 45) (.cells #[.int .i64 0, .int .i64 0] 23)
  have p0 := heap_a2 w (.cells #[.float .f64 A, .float .f64 B] 45) (.cells #[.int .i64 0, .int .i64 0] 23)
  have p1 := heap_b2 w (.cells #[.float .f64 A, .float .f64 B] 45) (.cells #[.int .i64 0, .int .i64 0] 23)
  have hs := size2 w (.cells #[.float .f64 A, .float .f64 B] 45) (.cells #[.int .i64 0, .int .i64 0] 23)
  have c0 := blkC p0 0 rfl
  have c1 := blkC p0 1 rfl
  have hbd := hb2.drew
  have L1 := L.below' hbd
  clear hl hh
  go_enter Tryd.func15, Tryd.ntmps15
  go_wp2_with fail
  generalize (w.alloc (.cells #[.float .f64 A, .float .f64 B] 45)).alloc (.cells #[.int .i64 0, .int .i64 0] 23) = w1 at *
  have hc : w.heap.size < w.heap.size + 1 ∧ w.heap.size + 1 ≤ w1.drew.heap.size ∧ w1.drew.cell? ⟨w.heap.size, 0, none⟩ = some (.float .f64 A) ∧ w1.drew.cell? ⟨w.heap.size, 1, none⟩ = some (.float .f64 B) := ⟨by omega, by show _ ≤ w1.heap.size; omega, c0, c1⟩
  have hd : w1.drew.heap[w.heap.size + 1]? = some (.cells #[.int .i64 0, .int .i64 0] 23 (0, 0)) := p1
  go_region_held3 (fun W => w.heap.size < w.heap.size + 1 ∧ w.heap.size + 1 ≤ W.heap.size ∧ W.cell? ⟨w.heap.size, 0, none⟩ = some (.float .f64 A) ∧ W.cell? ⟨w.heap.size, 1, none⟩ = some (.float .f64 B))
    (first | assumption | (repeat (first | exact hc | exact hc1 | exact hc2 | refine q_two_set (by omega) ?_)))
    (first
      | (go_at_call 27; have _t := LA; refine (CO2.out _).mono ?_; rintro _ _ ⟨rfl, rfl⟩)
      | (go_at_call 27; refine (CO1.out _).mono ?_; rintro _ _ ⟨rfl, rfl⟩)
      | (go_at_call 26; have _t := LA; refine (CY'.out _ LA).mono ?_; rintro _ w3 ⟨rfl, g3⟩; have hc2 := q_two_keep hc1 g3.be; have d2 := (g3.be.block _ (Array.getElem?_eq_some_iff.1 d1).1).trans d1; have d3 := q_heap_set d2 0 (.int .i64 X); have d4 := q_heap_set d3 1 (.int .i64 Y); have f0 := blkC d2 0 rfl; have z0 := blkF d2 0; have f1 := blkC d3 1 rfl; have z1 := blkF d3 1)
      | (go_at_call 26; refine (CX'.out _ L1).mono ?_; rintro _ w2 ⟨rfl, g2⟩; have LA := L1.grown g2; have hc1 := q_two_keep hc g2.be; have d1 := (g2.be.block _ (Array.getElem?_eq_some_iff.1 hd).1).trans hd))
  have e0 := blkC d4 0 rfl
  have e1 := blkC d4 1 rfl
  have hbe : Below w.heap.size w ((w3.setCell ⟨w.heap.size + 1, 0, none⟩ (.int .i64 X)).setCell ⟨w.heap.size + 1, 1, none⟩ (.int .i64 Y)) := ((bel_trans hbd (bel_trans g2.be g3.be)).setCell (p := ⟨w.heap.size + 1, 0, none⟩) (Nat.le_succ _) _).setCell (p := ⟨w.heap.size + 1, 1, none⟩) (Nat.le_succ _) _
  clear d1 d2 d3 d4 f0 f1 z0 z1 hd hc hc1 hc2
  generalize (w3.setCell ⟨w.heap.size + 1, 0, none⟩ (.int .i64 X)).setCell ⟨w.heap.size + 1, 1, none⟩ (.int .i64 Y) = wy at *
  go_wp2
  refine bodyPost_ret (v := .agg #[.int .i64 X, .int .i64 Y]) (by simp [results, Tryd.results15, go_sem, e0, e1]) rfl ⟨rfl, hbe⟩
theorem toR_nn {x : NumR} (ok : okR x = true) (way : Int) : nn (toR way x).1 := by
  by_cases h0 : x.n = 0
  · rw [to_zero ok h0]; exact ⟨by unfold rng; decide, by decide⟩
  · obtain ⟨r0, left, _, hf⟩ := to_all ok (by omega)
    rw [hf way]
    obtain ⟨h1, h2⟩ := rTo_range way x.ng r0 left
    have := patS_facts (ng := x.ng && decide (0 < rTo way x.ng r0 left)) h1 h2 (fun h => by
      cases hx : x.ng
      · rw [hx] at h; cases h
      · rw [hx, Bool.true_and] at h; exact of_decide_eq_true h)
    refine ⟨this.1, fun h4 => ?_⟩
    have h5 := (cls4_rung this.1).1 h4
    have h6 := wd_rung this.1
    have h7 := this.2.1
    unfold rg at h7
    rw [← h7] at h2
    omega
/-- The least interval around a number: by the ways down and up. -/
theorem around_of {w : World} {ng : Bool} {so : Option Addr} {sn sc : Nat} {e V : Int} (h : DNum w (.agg #[.bool ng, .slice so sn sc, .int .i64 e]) V) (ok : Dok V) (H : Hold4 w) :
    ∃ a b : Int, nn a ∧ nn b ∧ key a ≤ key b ∧ ∀ W, Below w.heap.size w W → Calls Tryd.prog 18 #[.agg #[.bool ng, .slice so sn sc, .int .i64 e]] W fun r w' => r = .returned (.tuple #[spn a b, .int .i64 0]) ∧ Below W.heap.size W w' := by
  obtain ⟨x, h1, rfl, rfl, h4⟩ := to_four h ok H
  have hB := between h1
  refine ⟨(toR 1 x).1, (toR 2 x).1, toR_nn h1 1, toR_nn h1 2, ?_, fun W hb => ?_⟩
  · by_cases ho : (toR 1 x).2 = true
    · have := (hB.up ho).2.1
      rw [← this]
      exact (key_le_next (toR_nn h1 1)).1
    · have := (hB.ex (by simpa using ho)).2.1
      rw [this]
      omega
  · have C1 : Hid (∀ W', Below W.heap.size W W' → Calls Tryd.prog 29 #[.agg #[.bool x.ng, .slice so sn sc, .int .i64 e], .int .i64 1] W' fun e w' => e = .returned (.tuple #[.int .i64 (toR 1 x).1, .bool (toR 1 x).2, .int .i64 0]) ∧ Below W'.heap.size W' w') := fun W' hb' => h4 1 W' (by omega) (bel_trans hb hb')
    have C2 : Hid (∀ W', Below W.heap.size W W' → Calls Tryd.prog 29 #[.agg #[.bool x.ng, .slice so sn sc, .int .i64 e], .int .i64 2] W' fun e w' => e = .returned (.tuple #[.int .i64 (toR 2 x).1, .bool (toR 2 x).2, .int .i64 0]) ∧ Below W'.heap.size W' w') := fun W' hb' => h4 2 W' (by omega) (bel_trans hb hb')
    unfold spn
    generalize (toR 1 x).1 = X at *
    generalize (toR 2 x).1 = Y at *
    generalize (toR 1 x).2 = o1 at *
    generalize (toR 2 x).2 = o2 at *
    generalize x.ng = ng at *
    clear hB h4 h1 h
    have hb2 := bel_alloc2 W (.cells #[.bool ng, .slice so sn sc, .int .i64 e] 26) (.cells #[.int .i64 0, .int .i64 0] 23)
    have p0 := heap_a2 W (.cells #[.bool ng, .slice so sn sc, .int .i64 e] 26) (.cells #[.int .i64 0, .int .i64 0] 23)
    have p1 := heap_b2 W (.cells #[.bool ng, .slice so sn sc, .int .i64 e] 26) (.cells #[.int .i64 0, .int .i64 0] 23)
    go_enter Tryd.func18, Tryd.ntmps18
    go_wp2_with fail
    generalize (W.alloc (.cells #[.bool ng, .slice so sn sc, .int .i64 e] 26)).alloc (.cells #[.int .i64 0, .int .i64 0] 23) = wx at *
    refine (C1.out _ hb2).mono ?_
    rintro _ w1 ⟨rfl, hb3⟩
    have p01 := (hb3.block _ (Array.getElem?_eq_some_iff.1 p0).1).trans p0
    have p11 := (hb3.block _ (Array.getElem?_eq_some_iff.1 p1).1).trans p1
    have c0 := blkC p01 0 rfl
    have c1 := blkC p01 1 rfl
    have c2 := blkC p01 2 rfl
    have hbw := bel_trans hb2 hb3
    go_wp2_with fail
    refine (C2.out _ hbw).mono ?_
    rintro _ w2 ⟨rfl, hb4⟩
    have d2 := (hb4.block _ (Array.getElem?_eq_some_iff.1 p11).1).trans p11
    have d3 := q_heap_set d2 0 (.int .i64 X)
    have d4 := q_heap_set d3 1 (.int .i64 Y)
    have f0 := blkC d2 0 rfl
    have z0 := blkF d2 0
    have f1 := blkC d3 1 rfl
    have z1 := blkF d3 1
    have e0 := blkC d4 0 rfl
    have e1 := blkC d4 1 rfl
    have hbe : Below W.heap.size W ((w2.setCell ⟨W.heap.size + 1, 0, none⟩ (.int .i64 X)).setCell ⟨W.heap.size + 1, 1, none⟩ (.int .i64 Y)) := ((bel_trans hbw hb4).setCell (p := ⟨W.heap.size + 1, 0, none⟩) (Nat.le_succ _) _).setCell (p := ⟨W.heap.size + 1, 1, none⟩) (Nat.le_succ _) _
    clear p0 p1 p01 p11 c0 c1 c2 d2 d3 d4
    go_wp2
    refine bodyPost_ret (v := .tuple #[.agg #[.int .i64 X, .int .i64 Y], .int .i64 0]) (by simp [results, Tryd.results18, go_sem, e0, e1]) rfl ⟨rfl, hbe⟩
set_option maxRecDepth 100000 in
theorem spanValid {lo hi : Int} (hl : rng lo) (hh : rng hi) (w : World) :
    Calls Tryd.prog 7 #[spn lo hi] w fun e w' => e = .returned (.bool (vld lo hi)) ∧ Below w.heap.size w w' := by
  have C1 := fun W => spanRead lo hi W
  have C2 := fun W => ivlValid hl hh W
  unfold spn ivl at *
  have hb := bel_alloc w (.cells #[.int .i64 lo, .int .i64 hi] 23)
  go_enter Tryd.func7, Tryd.ntmps7
  go_wp2_with fail
  generalize w.alloc (.cells #[.int .i64 lo, .int .i64 hi] 23) = wx at *
  refine (C1 _).mono ?_
  rintro _ w1 ⟨rfl, hb1⟩
  go_wp2_with fail
  refine (C2 _).mono ?_
  rintro _ w2 ⟨rfl, hb2⟩
  go_wp2
  go_ret
  exact ⟨rfl, bel_trans hb (bel_trans hb1 hb2)⟩
end Go.Proofs.YtmjdlcbiaglkeaaDoor

/-
  Package span: ofTwo, by its contract, for any function that is handed over.
-/
namespace Go.Proofs.YtmjdlcbiaglkeaaDoor
open Go Go.RowKit Go.Proofs.YtmjdlcbiaglkeaaDoor.M
set_option linter.unusedSimpArgs false
set_option linter.unusedVariables false

/-- an interval, or nothing and an error -/
def twoV (ok : Bool) (v : Value) : Value := if ok then v else .agg #[.int .i64 0, .int .i64 0]
def errA (ok : Bool) : Int := if ok then 0 else 1
theorem hl_last {n : Nat} (w : World) (o : Obj) (h : n = w.heap.size) : (w.alloc o).heap[n]? = some o := by
  subst h
  show (w.heap.push o)[w.heap.size]? = _
  simp
theorem hl_past {n : Nat} {w : World} {x : Obj} (o : Obj) (h : n < w.heap.size) (k : w.heap[n]? = some x) : (w.alloc o).heap[n]? = some x := by
  show (w.heap.push o)[n]? = _
  rw [Array.getElem?_push, if_neg (by omega)]
  exact k
theorem hl_dh (w : World) : w.drew.heap = w.heap := rfl
theorem hl_drew {n : Nat} {w : World} {x : Obj} (k : w.heap[n]? = some x) : w.drew.heap[n]? = some x := k
theorem hl6 (w : World) (o0 o1 o2 o3 o4 o5 : Obj) : ((((((w.alloc o0).alloc o1).alloc o2).alloc o3).alloc o4).alloc o5).drew.drew.drew.heap = (((((w.heap.push o0).push o1).push o2).push o3).push o4).push o5 := rfl
theorem hl6_0 {n m : Nat} {w : World} {o0 o1 o2 o3 o4 o5 : Obj} (hs : w.heap.size = m) (h : n = m + 0) : (((((((w.alloc o0).alloc o1).alloc o2).alloc o3).alloc o4).alloc o5).drew.drew.drew).heap[n]? = some o0 := by
  subst hs
  subst h
  rw [hl6]
  rw [Array.getElem?_push, if_neg (by first | (simp; done) | (simp; omega))]
  rw [Array.getElem?_push, if_neg (by first | (simp; done) | (simp; omega))]
  rw [Array.getElem?_push, if_neg (by first | (simp; done) | (simp; omega))]
  rw [Array.getElem?_push, if_neg (by first | (simp; done) | (simp; omega))]
  rw [Array.getElem?_push, if_neg (by first | (simp; done) | (simp; omega))]
  rw [Array.getElem?_push, if_pos (by simp)]
theorem hl6_1 {n m : Nat} {w : World} {o0 o1 o2 o3 o4 o5 : Obj} (hs : w.heap.size = m) (h : n = m + 1) : (((((((w.alloc o0).alloc o1).alloc o2).alloc o3).alloc o4).alloc o5).drew.drew.drew).heap[n]? = some o1 := by
  subst hs
  subst h
  rw [hl6]
  rw [Array.getElem?_push, if_neg (by first | (simp; done) | (simp; omega))]
  rw [Array.getElem?_push, if_neg (by first | (simp; done) | (simp; omega))]
  rw [Array.getElem?_push, if_neg (by first | (simp; done) | (simp; omega))]
  rw [Array.getElem?_push, if_neg (by first | (simp; done) | (simp; omega))]
  rw [Array.getElem?_push, if_pos (by simp)]
theorem hl6_2 {n m : Nat} {w : World} {o0 o1 o2 o3 o4 o5 : Obj} (hs : w.heap.size = m) (h : n = m + 2) : (((((((w.alloc o0).alloc o1).alloc o2).alloc o3).alloc o4).alloc o5).drew.drew.drew).heap[n]? = some o2 := by
  subst hs
  subst h
  rw [hl6]
  rw [Array.getElem?_push, if_neg (by first | (simp; done) | (simp; omega))]
  rw [Array.getElem?_push, if_neg (by first | (simp; done) | (simp; omega))]
  rw [Array.getElem?_push, if_neg (by first | (simp; done) | (simp; omega))]
  rw [Array.getElem?_push, if_pos (by simp)]
theorem hl6_3 {n m : Nat} {w : World} {o0 o1 o2 o3 o4 o5 : Obj} (hs : w.heap.size = m) (h : n = m + 3) : (((((((w.alloc o0).alloc o1).alloc o2).alloc o3).alloc o4).alloc o5).drew.drew.drew).heap[n]? = some o3 := by
  subst hs
  subst h
  rw [hl6]
  rw [Array.getElem?_push, if_neg (by first | (simp; done) | (simp; omega))]
  rw [Array.getElem?_push, if_neg (by first | (simp; done) | (simp; omega))]
  rw [Array.getElem?_push, if_pos (by simp)]
theorem hl6_4 {n m : Nat} {w : World} {o0 o1 o2 o3 o4 o5 : Obj} (hs : w.heap.size = m) (h : n = m + 4) : (((((((w.alloc o0).alloc o1).alloc o2).alloc o3).alloc o4).alloc o5).drew.drew.drew).heap[n]? = some o4 := by
  subst hs
  subst h
  rw [hl6]
  rw [Array.getElem?_push, if_neg (by first | (simp; done) | (simp; omega))]
  rw [Array.getElem?_push, if_pos (by simp)]
theorem hl6_5 {n m : Nat} {w : World} {o0 o1 o2 o3 o4 o5 : Obj} (hs : w.heap.size = m) (h : n = m + 5) : (((((((w.alloc o0).alloc o1).alloc o2).alloc o3).alloc o4).alloc o5).drew.drew.drew).heap[n]? = some o5 := by
  subst hs
  subst h
  rw [hl6]
  rw [Array.getElem?_push, if_pos (by simp)]
theorem hl6_b {w : World} {o0 o1 o2 o3 o4 o5 : Obj} : Below w.heap.size w (((((((w.alloc o0).alloc o1).alloc o2).alloc o3).alloc o4).alloc o5).drew.drew.drew) :=
  (bel_trans (bel_alloc2 w o0 o1) (bel_trans (bel_alloc2 _ o2 o3) (bel_alloc2 _ o4 o5))).drew.drew.drew
theorem s4_keep {a b B : Nat} {x0 x1 x2 x3 : Value} {W W' : World} (h : (a < B ∧ b < B ∧ B ≤ W.heap.size) ∧ W.cell? ⟨a, 0, none⟩ = some x0 ∧ W.cell? ⟨a, 1, none⟩ = some x1 ∧ W.cell? ⟨b, 0, none⟩ = some x2 ∧ W.cell? ⟨b, 1, none⟩ = some x3) (hb : Below W.heap.size W W') :
    (a < B ∧ b < B ∧ B ≤ W'.heap.size) ∧ W'.cell? ⟨a, 0, none⟩ = some x0 ∧ W'.cell? ⟨a, 1, none⟩ = some x1 ∧ W'.cell? ⟨b, 0, none⟩ = some x2 ∧ W'.cell? ⟨b, 1, none⟩ = some x3 :=
  ⟨⟨h.1.1, h.1.2.1, Nat.le_trans h.1.2.2 hb.size⟩, q_cell h.2.1 hb, q_cell h.2.2.1 hb, q_cell h.2.2.2.1 hb, q_cell h.2.2.2.2 hb⟩
theorem s4_alloc {a b B : Nat} {x0 x1 x2 x3 : Value} {W : World} (o : Obj) (h : (a < B ∧ b < B ∧ B ≤ W.heap.size) ∧ W.cell? ⟨a, 0, none⟩ = some x0 ∧ W.cell? ⟨a, 1, none⟩ = some x1 ∧ W.cell? ⟨b, 0, none⟩ = some x2 ∧ W.cell? ⟨b, 1, none⟩ = some x3) :
    (a < B ∧ b < B ∧ B ≤ (W.alloc o).heap.size) ∧ (W.alloc o).cell? ⟨a, 0, none⟩ = some x0 ∧ (W.alloc o).cell? ⟨a, 1, none⟩ = some x1 ∧ (W.alloc o).cell? ⟨b, 0, none⟩ = some x2 ∧ (W.alloc o).cell? ⟨b, 1, none⟩ = some x3 := s4_keep h (bel_alloc _ _)
theorem s4_drew {a b B : Nat} {x0 x1 x2 x3 : Value} {W : World} (h : (a < B ∧ b < B ∧ B ≤ W.heap.size) ∧ W.cell? ⟨a, 0, none⟩ = some x0 ∧ W.cell? ⟨a, 1, none⟩ = some x1 ∧ W.cell? ⟨b, 0, none⟩ = some x2 ∧ W.cell? ⟨b, 1, none⟩ = some x3) :
    (a < B ∧ b < B ∧ B ≤ W.drew.heap.size) ∧ W.drew.cell? ⟨a, 0, none⟩ = some x0 ∧ W.drew.cell? ⟨a, 1, none⟩ = some x1 ∧ W.drew.cell? ⟨b, 0, none⟩ = some x2 ∧ W.drew.cell? ⟨b, 1, none⟩ = some x3 := h
set_option maxRecDepth 100000 in
set_option maxHeartbeats 8000000 in
theorem ofTwo_any (F : Nat) {a b c d x y : Int} (ha : rng a) (hb : rng b) (hc : rng c) (hd : rng d) (w : World) (L : Lays w)
    (hE : ∀ (cap : Array Value) (w : World), (callFunc F cap).run Tryd.prog w = .ok (.enter F cap) w)
    (CF : Hid (vld a b = true → vld c d = true → nn x ∧ nn y ∧ ∀ W, Lays W → Calls Tryd.prog F #[ivl a b, ivl c d] W fun e w' => e = .returned (ivl x y) ∧ Below W.heap.size W w')) :
    Calls Tryd.prog 20 #[spn a b, spn c d, .func (.func F) #[] #[]] w fun e w' => e = .returned (.tuple #[twoV (vld a b && vld c d) (spn (canon x) (canon y)), .int .i64 (errA (vld a b && vld c d))]) ∧ Below w.heap.size w w' := by
  have R1 := fun W => spanReadX a b W
  have R2 := fun W => spanReadX c d W
  have V1 : Hid (∀ W, Calls Tryd.prog 14 #[ivl a b] W fun e w' => e = .returned (.bool (vld a b)) ∧ Below W.heap.size W w') := fun W => ivlValid ha hb W
  have V2 : Hid (∀ W, Calls Tryd.prog 14 #[ivl c d] W fun e w' => e = .returned (.bool (vld c d)) ∧ Below W.heap.size W w') := fun W => ivlValid hc hd W
  unfold spn ivl at *
  obtain ⟨q0, q1, q2, hs, hb3⟩ := heap3 w (.cells #[.int .i64 a, .int .i64 b] 23) (.cells #[.int .i64 c, .int .i64 d] 23) (.cells #[.int .i64 0, .int .i64 0] 23)
  go_enter Tryd.func20, Tryd.ntmps20
  go_wp2_with fail
  have k0 := blkC q0 0 rfl
  have k1 := blkC q0 1 rfl
  have k2 := blkC q1 0 rfl
  have k3 := blkC q1 1 rfl
  generalize ((w.alloc (.cells #[.int .i64 a, .int .i64 b] 23)).alloc (.cells #[.int .i64 c, .int .i64 d] 23)).alloc (.cells #[.int .i64 0, .int .i64 0] 23) = wx at *
  have hst : ∀ (p : Addr) (n : Nat) (m : Mode) (w : World), (store p (.float .f64 n) m).run Tryd.prog w = stored Tryd.prog w p (.float .f64 n) m := fun p n m w => run_store _ w p _ m rfl
  have hc : (w.heap.size < w.heap.size + 3 ∧ w.heap.size + 1 < w.heap.size + 3 ∧ w.heap.size + 3 ≤ wx.drew.heap.size) ∧ wx.drew.cell? ⟨w.heap.size, 0, none⟩ = some (.int .i64 a) ∧ wx.drew.cell? ⟨w.heap.size, 1, none⟩ = some (.int .i64 b) ∧ wx.drew.cell? ⟨w.heap.size + 1, 0, none⟩ = some (.int .i64 c) ∧ wx.drew.cell? ⟨w.heap.size + 1, 1, none⟩ = some (.int .i64 d) := ⟨⟨by omega, by omega, by show _ ≤ wx.heap.size; omega⟩, k0, k1, k2, k3⟩
  rename_i Q' K haK
  have H : ∀ (gi gj : Nat) (W : World), W.heap[gi]? = some (.cells #[.float .f64 (wd a), .float .f64 (wd b)] 45 (0, 0)) → W.heap[gj]? = some (.cells #[.float .f64 (wd c), .float .f64 (wd d)] 45 (0, 0)) → Below wx.heap.size wx W →
      Exit.then K Q' Exit.normal { tmps := #[.agg #[.int .i64 a, .int .i64 b], .agg #[.int .i64 c, .int .i64 d], .func (.func F) #[] #[], .pointer (some ⟨w.heap.size, 0, none⟩), .pointer (some ⟨w.heap.size + 1, 0, none⟩), undef, .pointer (some ⟨w.heap.size + 1 + 1, 0, none⟩), .int .i64 0, .pointer (some ⟨gi, 0, none⟩), .pointer (some ⟨gj, 0, none⟩), .agg #[.int .i64 a, .int .i64 b], .agg #[.float .f64 (wd a), .float .f64 (wd b)], .agg #[.int .i64 c, .int .i64 d], .agg #[.float .f64 (wd c), .float .f64 (wd d)], undef, undef, undef, undef, undef, undef, undef, undef, undef, undef, undef, undef, undef, undef], defers := [] } W := by
    intro gi gj W hgi hgj hbW
    clear hc k0 k1 k2 k3 q0 q1 R1 R2 hst
    have i0 := blkC hgi 0 rfl
    have i1 := blkC hgi 1 rfl
    have j0 := blkC hgj 0 rfl
    have j1 := blkC hgj 1 rfl
    go_wp2_with fail
    refine (V1.out _).mono ?_
    rintro _ w1 ⟨rfl, hb4⟩
    have hgi1 := (hb4.block _ (Array.getElem?_eq_some_iff.1 hgi).1).trans hgi
    have hgj1 := (hb4.block _ (Array.getElem?_eq_some_iff.1 hgj).1).trans hgj
    clear i0 i1 j0 j1
    have j0 := blkC hgj1 0 rfl
    have j1 := blkC hgj1 1 rfl
    by_cases h1 : vld a b = false
    · rw [h1]
      have hbR := bel_trans hbW hb4
      have d2 := (hbR.block _ (Array.getElem?_eq_some_iff.1 q2).1).trans q2
      have d3 := q_heap_set d2 0 (.int .i64 0)
      have d4 := q_heap_set d3 1 (.int .i64 0)
      have f0 := blkC d2 0 rfl
      have z0 := blkF d2 0
      have f1 := blkC d3 1 rfl
      have z1 := blkF d3 1
      have e0 := blkC d4 0 rfl
      have e1 := blkC d4 1 rfl
      have hbe := ((bel_trans hb3 hbR).setCell (p := ⟨w.heap.size + 1 + 1, 0, none⟩) (show w.heap.size ≤ w.heap.size + 1 + 1 by omega) (.int .i64 0)).setCell (p := ⟨w.heap.size + 1 + 1, 1, none⟩) (show w.heap.size ≤ w.heap.size + 1 + 1 by omega) (.int .i64 0)
      clear d2 d3 d4
      go_wp2
      refine bodyPost_ret (v := .tuple #[.agg #[.int .i64 0, .int .i64 0], .int .i64 1]) (by simp [results, Tryd.results20, go_sem, e0, e1]) rfl ⟨by rw [h1]; rfl, hbe⟩
    replace h1 : vld a b = true := by simpa using h1
    rw [h1]
    go_wp2_with fail
    refine (V2.out _).mono ?_
    rintro _ w2 ⟨rfl, hb5⟩
    have hgi2 := (hb5.block _ (Array.getElem?_eq_some_iff.1 hgi1).1).trans hgi1
    have hgj2 := (hb5.block _ (Array.getElem?_eq_some_iff.1 hgj1).1).trans hgj1
    clear j0 j1
    have i0 := blkC hgi2 0 rfl
    have i1 := blkC hgi2 1 rfl
    have j0 := blkC hgj2 0 rfl
    have j1 := blkC hgj2 1 rfl
    have hbR := bel_trans hbW (bel_trans hb4 hb5)
    by_cases h2 : vld c d = false
    · rw [h2]
      have d2 := (hbR.block _ (Array.getElem?_eq_some_iff.1 q2).1).trans q2
      have d3 := q_heap_set d2 0 (.int .i64 0)
      have d4 := q_heap_set d3 1 (.int .i64 0)
      have f0 := blkC d2 0 rfl
      have z0 := blkF d2 0
      have f1 := blkC d3 1 rfl
      have z1 := blkF d3 1
      have e0 := blkC d4 0 rfl
      have e1 := blkC d4 1 rfl
      have hbe := ((bel_trans hb3 hbR).setCell (p := ⟨w.heap.size + 1 + 1, 0, none⟩) (show w.heap.size ≤ w.heap.size + 1 + 1 by omega) (.int .i64 0)).setCell (p := ⟨w.heap.size + 1 + 1, 1, none⟩) (show w.heap.size ≤ w.heap.size + 1 + 1 by omega) (.int .i64 0)
      clear d2 d3 d4
      go_wp2
      refine bodyPost_ret (v := .tuple #[.agg #[.int .i64 0, .int .i64 0], .int .i64 1]) (by simp [results, Tryd.results20, go_sem, e0, e1]) rfl ⟨by rw [h2, Bool.and_false]; rfl, hbe⟩
    replace h2 : vld c d = true := by simpa using h2
    rw [h2]
    obtain ⟨nx, ny, CF'⟩ := CF.out h1 h2
    have L2 := L.below' (bel_trans hb3 hbR)
    have CT := fun W LW => spanTold nx ny W LW
    unfold ivl spn at CT
    go_wp2_with fail
    refine (CF' _ L2).mono ?_
    rintro _ w3 ⟨rfl, hb6⟩
    have L3 := L2.below' hb6
    go_wp2_with fail
    refine (CT _ L3).mono ?_
    rintro _ w4 ⟨rfl, hb7⟩
    replace hbR := bel_trans hbR (bel_trans hb6 hb7)
    have d2 := (hbR.block _ (Array.getElem?_eq_some_iff.1 q2).1).trans q2
    generalize hX : canon x = X at *
    generalize hY : canon y = Y at *
    have d3 := q_heap_set d2 0 (.int .i64 X)
    have d4 := q_heap_set d3 1 (.int .i64 Y)
    have f0 := blkC d2 0 rfl
    have z0 := blkF d2 0
    have f1 := blkC d3 1 rfl
    have z1 := blkF d3 1
    have e0 := blkC d4 0 rfl
    have e1 := blkC d4 1 rfl
    have hbe := ((bel_trans hb3 hbR).setCell (p := ⟨w.heap.size + 1 + 1, 0, none⟩) (show w.heap.size ≤ w.heap.size + 1 + 1 by omega) (.int .i64 X)).setCell (p := ⟨w.heap.size + 1 + 1, 1, none⟩) (show w.heap.size ≤ w.heap.size + 1 + 1 by omega) (.int .i64 Y)
    clear d2 d3 d4 CT CF CF'
    go_wp2
    refine bodyPost_ret (v := .tuple #[.agg #[.int .i64 X, .int .i64 Y], .int .i64 0]) (by simp [results, Tryd.results20, go_sem, e0, e1]) rfl ⟨by rw [h1, h2, hX, hY]; rfl, hbe⟩
  go_region_held3 (fun W => (w.heap.size < w.heap.size + 3 ∧ w.heap.size + 1 < w.heap.size + 3 ∧ w.heap.size + 3 ≤ W.heap.size) ∧ W.cell? ⟨w.heap.size, 0, none⟩ = some (.int .i64 a) ∧ W.cell? ⟨w.heap.size, 1, none⟩ = some (.int .i64 b) ∧ W.cell? ⟨w.heap.size + 1, 0, none⟩ = some (.int .i64 c) ∧ W.cell? ⟨w.heap.size + 1, 1, none⟩ = some (.int .i64 d))
    (first | assumption | (repeat (first | exact hc | refine s4_drew ?_ | refine s4_alloc _ ?_ | refine s4_set (by first | omega | (simp; omega)) ?_)))
    (first
      | (go_at_call 13; have _t := T1; refine (R2 _).mono ?_; rintro _ _ ⟨rfl, rfl⟩)
      | (go_at_call 13; refine (R1 _).mono ?_; rintro _ _ ⟨rfl, rfl⟩; have T1 : True := trivial))
  all_goals
    refine H _ _ _ ?_ ?_ hl6_b
    all_goals first
      | exact hl6_0 hs rfl
      | exact hl6_1 hs rfl
      | exact hl6_2 hs rfl
      | exact hl6_3 hs rfl
      | exact hl6_4 hs rfl
      | exact hl6_5 hs rfl
end Go.Proofs.YtmjdlcbiaglkeaaDoor

/-
  Package span: Meet, by its contract.
-/
namespace Go.Proofs.YtmjdlcbiaglkeaaDoor
open Go Go.RowKit Go.Proofs.YtmjdlcbiaglkeaaDoor.M
set_option linter.unusedSimpArgs false
set_option linter.unusedVariables false

set_option maxRecDepth 100000 in
set_option maxHeartbeats 4000000 in
theorem spanMeet {a b c d : Int} (ha : rng a) (hb : rng b) (hc' : rng c) (hd : rng d) (w : World) (L : Lays w) :
    Calls Tryd.prog 5 #[spn a b, spn c d] w fun e w' => ∃ X Y : Int, e = .returned (.tuple #[.agg #[.int .i64 X, .int .i64 Y], .bool ((vld a b && vld c d) && vld (maxP a c) (minP b d)), .int .i64 (errA (vld a b && vld c d))]) ∧ ((vld a b && vld c d) = true → vld (maxP a c) (minP b d) = true → X = canon (maxP a c) ∧ Y = canon (minP b d)) ∧ Below w.heap.size w w' := by
  have R1 := fun W => spanReadX a b W
  have R2 := fun W => spanReadX c d W
  have V1 : Hid (∀ W, Calls Tryd.prog 14 #[ivl a b] W fun e w' => e = .returned (.bool (vld a b)) ∧ Below W.heap.size W w') := fun W => ivlValid ha hb W
  have V2 : Hid (∀ W, Calls Tryd.prog 14 #[ivl c d] W fun e w' => e = .returned (.bool (vld c d)) ∧ Below W.heap.size W w') := fun W => ivlValid hc' hd W
  unfold spn ivl at *
  obtain ⟨q0, q1, q2, hs, hb3⟩ := heap3 w (.cells #[.int .i64 a, .int .i64 b] 23) (.cells #[.int .i64 c, .int .i64 d] 23) (.cells #[.int .i64 0, .int .i64 0] 23)
  go_enter Tryd.func5, Tryd.ntmps5
  go_wp2_with fail
  have k0 := blkC q0 0 rfl
  have k1 := blkC q0 1 rfl
  have k2 := blkC q1 0 rfl
  have k3 := blkC q1 1 rfl
  generalize ((w.alloc (.cells #[.int .i64 a, .int .i64 b] 23)).alloc (.cells #[.int .i64 c, .int .i64 d] 23)).alloc (.cells #[.int .i64 0, .int .i64 0] 23) = wx at *
  have hst : ∀ (p : Addr) (n : Nat) (m : Mode) (w : World), (store p (.float .f64 n) m).run Tryd.prog w = stored Tryd.prog w p (.float .f64 n) m := fun p n m w => run_store _ w p _ m rfl
  have hc : (w.heap.size < w.heap.size + 3 ∧ w.heap.size + 1 < w.heap.size + 3 ∧ w.heap.size + 3 ≤ wx.drew.heap.size) ∧ wx.drew.cell? ⟨w.heap.size, 0, none⟩ = some (.int .i64 a) ∧ wx.drew.cell? ⟨w.heap.size, 1, none⟩ = some (.int .i64 b) ∧ wx.drew.cell? ⟨w.heap.size + 1, 0, none⟩ = some (.int .i64 c) ∧ wx.drew.cell? ⟨w.heap.size + 1, 1, none⟩ = some (.int .i64 d) := ⟨⟨by omega, by omega, by show _ ≤ wx.heap.size; omega⟩, k0, k1, k2, k3⟩
  rename_i Q' K haK
  have H : ∀ (gi gj : Nat) (W : World), W.heap[gi]? = some (.cells #[.float .f64 (wd a), .float .f64 (wd b)] 45 (0, 0)) → W.heap[gj]? = some (.cells #[.float .f64 (wd c), .float .f64 (wd d)] 45 (0, 0)) → Below wx.heap.size wx W →
      Exit.then K Q' Exit.normal { tmps := #[.agg #[.int .i64 a, .int .i64 b], .agg #[.int .i64 c, .int .i64 d], .pointer (some ⟨w.heap.size, 0, none⟩), .pointer (some ⟨w.heap.size + 1, 0, none⟩), .pointer (some ⟨w.heap.size + 1 + 1, 0, none⟩), .bool false, .int .i64 0, .pointer (some ⟨gi, 0, none⟩), .pointer (some ⟨gj, 0, none⟩), undef, .agg #[.int .i64 a, .int .i64 b], .agg #[.float .f64 (wd a), .float .f64 (wd b)], .agg #[.int .i64 c, .int .i64 d], .agg #[.float .f64 (wd c), .float .f64 (wd d)], undef, undef, undef, undef, undef, undef, undef, undef, undef, undef, undef, undef, undef, undef, undef, undef, undef, undef, undef, undef, undef, undef, undef, undef, undef, undef], defers := [] } W := by
    intro gi gj W hgi hgj hbW
    clear hc k0 k1 k2 k3 q0 q1 R1 R2
    have i0 := blkC hgi 0 rfl
    have i1 := blkC hgi 1 rfl
    go_wp2_with fail
    refine (V1.out _).mono ?_
    rintro _ w1 ⟨rfl, hb4⟩
    have hgi1 := (hb4.block _ (Array.getElem?_eq_some_iff.1 hgi).1).trans hgi
    have hgj1 := (hb4.block _ (Array.getElem?_eq_some_iff.1 hgj).1).trans hgj
    clear i0 i1
    have j0 := blkC hgj1 0 rfl
    have j1 := blkC hgj1 1 rfl
    by_cases h1 : vld a b = false
    · rw [h1]
      have hbR := bel_trans hbW hb4
      have d2 := (hbR.block _ (Array.getElem?_eq_some_iff.1 q2).1).trans q2
      have d3 := q_heap_set d2 0 (.int .i64 0)
      have d4 := q_heap_set d3 1 (.int .i64 0)
      have f0 := blkC d2 0 rfl
      have z0 := blkF d2 0
      have f1 := blkC d3 1 rfl
      have z1 := blkF d3 1
      have e0 := blkC d4 0 rfl
      have e1 := blkC d4 1 rfl
      have hbe := ((bel_trans hb3 hbR).setCell (p := ⟨w.heap.size + 1 + 1, 0, none⟩) (show w.heap.size ≤ w.heap.size + 1 + 1 by omega) (.int .i64 0)).setCell (p := ⟨w.heap.size + 1 + 1, 1, none⟩) (show w.heap.size ≤ w.heap.size + 1 + 1 by omega) (.int .i64 0)
      clear d2 d3 d4
      go_wp2
      refine bodyPost_ret (v := .tuple #[.agg #[.int .i64 0, .int .i64 0], .bool false, .int .i64 1]) (by simp [results, Tryd.results5, go_sem, e0, e1]) rfl ⟨_, _, by rw [h1]; rfl, (fun hx => by rw [h1] at hx; cases hx), hbe⟩
    replace h1 : vld a b = true := by simpa using h1
    rw [h1]
    go_wp2_with fail
    refine (V2.out _).mono ?_
    rintro _ w2 ⟨rfl, hb5⟩
    have hgi2 := (hb5.block _ (Array.getElem?_eq_some_iff.1 hgi1).1).trans hgi1
    have hgj2 := (hb5.block _ (Array.getElem?_eq_some_iff.1 hgj1).1).trans hgj1
    clear j0 j1
    have hbR := bel_trans hbW (bel_trans hb4 hb5)
    by_cases h2 : vld c d = false
    · rw [h2]
      have d2 := (hbR.block _ (Array.getElem?_eq_some_iff.1 q2).1).trans q2
      have d3 := q_heap_set d2 0 (.int .i64 0)
      have d4 := q_heap_set d3 1 (.int .i64 0)
      have f0 := blkC d2 0 rfl
      have z0 := blkF d2 0
      have f1 := blkC d3 1 rfl
      have z1 := blkF d3 1
      have e0 := blkC d4 0 rfl
      have e1 := blkC d4 1 rfl
      have hbe := ((bel_trans hb3 hbR).setCell (p := ⟨w.heap.size + 1 + 1, 0, none⟩) (show w.heap.size ≤ w.heap.size + 1 + 1 by omega) (.int .i64 0)).setCell (p := ⟨w.heap.size + 1 + 1, 1, none⟩) (show w.heap.size ≤ w.heap.size + 1 + 1 by omega) (.int .i64 0)
      clear d2 d3 d4
      go_wp2
      refine bodyPost_ret (v := .tuple #[.agg #[.int .i64 0, .int .i64 0], .bool false, .int .i64 1]) (by simp [results, Tryd.results5, go_sem, e0, e1]) rfl ⟨_, _, by rw [h2, Bool.and_false]; rfl, (fun hx => by rw [h2, Bool.and_false] at hx; cases hx), hbe⟩
    replace h2 : vld c d = true := by simpa using h2
    rw [h2]
    obtain ⟨va, vb, _, _, _⟩ := vld_iff.1 h1
    obtain ⟨vc, vd, _, _, _⟩ := vld_iff.1 h2
    obtain ⟨nx, _, _, _⟩ := maxP_nn ⟨ha, va⟩ ⟨hc', vc⟩
    obtain ⟨ny, _, _, _⟩ := minP_nn ⟨hb, vb⟩ ⟨hd, vd⟩
    have RX := fun ts t W => run_maxF (P := Tryd.prog) ⟨ha, va⟩ ⟨hc', vc⟩ ts t W
    have RN := fun ts t W => run_minF (P := Tryd.prog) ⟨hb, vb⟩ ⟨hd, vd⟩ ts t W
    have V3 : Hid (∀ W, Calls Tryd.prog 14 #[.agg #[.float .f64 (wd (maxP a c)), .float .f64 (wd (minP b d))]] W fun e w' => e = .returned (.bool (vld (maxP a c) (minP b d))) ∧ Below W.heap.size W w') := fun W => ivlValid nx.1 ny.1 W
    have CT : Hid (∀ W, Lays W → Calls Tryd.prog 15 #[.agg #[.float .f64 (wd (maxP a c)), .float .f64 (wd (minP b d))]] W fun e w' => e = .returned (.agg #[.int .i64 (canon (maxP a c)), .int .i64 (canon (minP b d))]) ∧ Below W.heap.size W w') := fun W LW => spanTold nx ny W LW
    have L2 := L.below' (bel_trans hb3 hbR)
    have i0 := blkC hgi2 0 rfl
    have i1 := blkC hgi2 1 rfl
    have j0 := blkC hgj2 0 rfl
    have j1 := blkC hgj2 1 rfl
    go_wp2_with fail
    have hba := bel_alloc w2 (.cells #[.float .f64 (wd (maxP a c)), .float .f64 (wd (minP b d))] 45)
    have hgb : (w2.alloc (.cells #[.float .f64 (wd (maxP a c)), .float .f64 (wd (minP b d))] 45)).heap[w2.heap.size]? = some (.cells #[.float .f64 (wd (maxP a c)), .float .f64 (wd (minP b d))] 45 (0, 0)) := by show (w2.heap.push _)[w2.heap.size]? = _; simp
    generalize w2.alloc (.cells #[.float .f64 (wd (maxP a c)), .float .f64 (wd (minP b d))] 45) = w3 at *
    clear i0 i1 j0 j1 RX RN hst
    refine (V3.out _).mono ?_
    rintro _ w4 ⟨rfl, hb6⟩
    replace hbR := bel_trans hbR (bel_trans hba hb6)
    replace L2 := L.below' (bel_trans hb3 hbR)
    have hgb1 := (hb6.block _ (Array.getElem?_eq_some_iff.1 hgb).1).trans hgb
    by_cases h3 : vld (maxP a c) (minP b d) = false
    · rw [h3]
      have d2 := (hbR.block _ (Array.getElem?_eq_some_iff.1 q2).1).trans q2
      have d3 := q_heap_set d2 0 (.int .i64 0)
      have d4 := q_heap_set d3 1 (.int .i64 0)
      have f0 := blkC d2 0 rfl
      have z0 := blkF d2 0
      have f1 := blkC d3 1 rfl
      have z1 := blkF d3 1
      have e0 := blkC d4 0 rfl
      have e1 := blkC d4 1 rfl
      have hbe := ((bel_trans hb3 hbR).setCell (p := ⟨w.heap.size + 1 + 1, 0, none⟩) (show w.heap.size ≤ w.heap.size + 1 + 1 by omega) (.int .i64 0)).setCell (p := ⟨w.heap.size + 1 + 1, 1, none⟩) (show w.heap.size ≤ w.heap.size + 1 + 1 by omega) (.int .i64 0)
      clear d2 d3 d4
      go_wp2
      refine bodyPost_ret (v := .tuple #[.agg #[.int .i64 0, .int .i64 0], .bool false, .int .i64 0]) (by simp [results, Tryd.results5, go_sem, e0, e1]) rfl ⟨_, _, by rw [h1, h2, h3]; rfl, (fun _ hx => by rw [h3] at hx; cases hx), hbe⟩
    replace h3 : vld (maxP a c) (minP b d) = true := by simpa using h3
    rw [h3]
    have m0 := blkC hgb1 0 rfl
    have m1 := blkC hgb1 1 rfl
    go_wp2_with fail
    refine (CT.out _ L2).mono ?_
    rintro _ w5 ⟨rfl, hb7⟩
    replace hbR := bel_trans hbR hb7
    have d2 := (hbR.block _ (Array.getElem?_eq_some_iff.1 q2).1).trans q2
    have d3 := q_heap_set d2 0 (.int .i64 (canon (maxP a c)))
    have d4 := q_heap_set d3 1 (.int .i64 (canon (minP b d)))
    have f0 := blkC d2 0 rfl
    have z0 := blkF d2 0
    have f1 := blkC d3 1 rfl
    have z1 := blkF d3 1
    have e0 := blkC d4 0 rfl
    have e1 := blkC d4 1 rfl
    have hbe := ((bel_trans hb3 hbR).setCell (p := ⟨w.heap.size + 1 + 1, 0, none⟩) (show w.heap.size ≤ w.heap.size + 1 + 1 by omega) (.int .i64 (canon (maxP a c)))).setCell (p := ⟨w.heap.size + 1 + 1, 1, none⟩) (show w.heap.size ≤ w.heap.size + 1 + 1 by omega) (.int .i64 (canon (minP b d)))
    clear d2 d3 d4
    go_wp2
    refine bodyPost_ret (v := .tuple #[.agg #[.int .i64 (canon (maxP a c)), .int .i64 (canon (minP b d))], .bool true, .int .i64 0]) (by simp [results, Tryd.results5, go_sem, e0, e1]) rfl ⟨_, _, by rw [h1, h2, h3]; rfl, (fun _ _ => ⟨rfl, rfl⟩), hbe⟩
  go_region_held3 (fun W => (w.heap.size < w.heap.size + 3 ∧ w.heap.size + 1 < w.heap.size + 3 ∧ w.heap.size + 3 ≤ W.heap.size) ∧ W.cell? ⟨w.heap.size, 0, none⟩ = some (.int .i64 a) ∧ W.cell? ⟨w.heap.size, 1, none⟩ = some (.int .i64 b) ∧ W.cell? ⟨w.heap.size + 1, 0, none⟩ = some (.int .i64 c) ∧ W.cell? ⟨w.heap.size + 1, 1, none⟩ = some (.int .i64 d))
    (first | assumption | (repeat (first | exact hc | refine s4_drew ?_ | refine s4_alloc _ ?_ | refine s4_set (by first | omega | (simp; omega)) ?_)))
    (first
      | (go_at_call 13; have _t := T1; refine (R2 _).mono ?_; rintro _ _ ⟨rfl, rfl⟩)
      | (go_at_call 13; refine (R1 _).mono ?_; rintro _ _ ⟨rfl, rfl⟩; have T1 : True := trivial))
  all_goals
    refine H _ _ _ ?_ ?_ hl6_b
    all_goals first
      | exact hl6_0 hs rfl
      | exact hl6_1 hs rfl
      | exact hl6_2 hs rfl
      | exact hl6_3 hs rfl
      | exact hl6_4 hs rfl
      | exact hl6_5 hs rfl
end Go.Proofs.YtmjdlcbiaglkeaaDoor
