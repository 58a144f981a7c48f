/-
  Parts of the proof, one behind another.
-/
import Derived.Test.YtelnilmjhdneoaaGreatDoorPart7
import Derived.Test.YtelnilmjhdneoaaGreatDoorPart6
import Derived.Test.YtelnilmjhdneoaaGreatDoorPart1
import Derived.Laws.FloatArith
import Derived.Test.YtelnilmjhdneoaaGreatDoorPart4
/-
  Numbers at the ends of what is valid: which have a valid form, which have none; calls that are known to tell a number or ErrLong.
-/
namespace Go.Proofs.YtelnilmjhdneoaaGreatDoor
open Go Go.RowKit Go.Proofs.YtelnilmjhdneoaaGreatDoor.M
set_option linter.unusedSimpArgs false
set_option linter.unusedVariables false

theorem DFit.no {w w' : World} {V er : Int} {v : Value} (h : DFit w w' V v er) (no : ¬ Dok V) : er = 2 ∧ v = zeroV ∧ Below w.heap.size w w' := by
  rcases h.2 with ⟨ok, _⟩ | ⟨_, h1, h2⟩
  · exact absurd ok no
  · exact ⟨h1, h2, h.1⟩
end Go.Proofs.YtelnilmjhdneoaaGreatDoor

/-
  What the laws of package round share: what a row gives, numbers told by their worth, round.To at all ways.
-/
namespace Go.Proofs.YtelnilmjhdneoaaGreatDoor
open Go Go.ChangeShapes Go.WideShapes Go.ChangeAt Go.RowKit Go.Proofs.YtelnilmjhdneoaaGreatDoor.M
set_option linter.unusedSimpArgs false
set_option linter.unusedVariables false

structure Hold4 (w : World) : Prop where
  lay : Lay64 w
  tab : Tab w
  env : Env w
theorem Hold4.keeps {w w' : World} (h : Hold4 w) (hb : Below w.heap.size w w') : Hold4 w' := ⟨h.lay.keeps hb, h.tab.keeps hb, h.env.keeps hb⟩
/-- The four ways at a number. -/
def To4 (w : World) (x : Value) (f : Int → Int × Bool) : Prop := ∀ (way : Int) (W : World), 0 ≤ way ∧ way ≤ 3 → Below w.heap.size w W → Calls Tryz.prog 127 #[x, .int .i64 way] W fun e w' => e = .returned (.tuple #[.int .i64 (f way).1, .bool (f way).2, .int .i64 0]) ∧ Below W.heap.size W w'
theorem To4.keeps {w w' : World} {x : Value} {f : Int → Int × Bool} (h : To4 w x f) (hb : Below w.heap.size w w') : To4 w' x f := fun way W hw hB => h way W hw (bel_trans hb hB)
theorem To4.at {w : World} {x : Value} {f : Int → Int × Bool} (h : To4 w x f) (way : Int) (hw : 0 ≤ way ∧ way ≤ 3) : Calls Tryz.prog 127 #[x, .int .i64 way] w fun e w' => e = .returned (.tuple #[.int .i64 (f way).1, .bool (f way).2, .int .i64 0]) ∧ Below w.heap.size w w' := h way w hw (bel_refl w)
theorem rTo_range (way : Int) (ng : Bool) (r0 : Nat) (left : Int) : 0 ≤ rTo way ng r0 left ∧ rTo way ng r0 left ≤ 9218868437227405312 := by
  unfold rTo
  split
  · split <;> omega
  · unfold bRung
    repeat' split
    all_goals decide
end Go.Proofs.YtelnilmjhdneoaaGreatDoor

/-
  Plain mathematics: a number and its rung, for 0 too; which neighbour is nearer.
-/
namespace Go.Proofs.YtelnilmjhdneoaaGreatDoor
open Go Go.RowKit Go.Proofs.YtelnilmjhdneoaaGreatDoor.M
set_option linter.unusedSimpArgs false
set_option linter.unusedVariables false

/-- What the four ways answer at a number, by its rung. -/
def RdOf (V : Int) (ng : Bool) (f : Int → Int × Bool) : Prop := ∃ (A : Int) (r0 : Nat) (left : Int), V = sg ng A ∧ (ng = true → 0 < A) ∧ Rung A r0 left ∧ ∀ way, f way = (patS (ng && decide (0 < rTo way ng r0 left)) (rTo way ng r0 left), decide (left ≠ 0) || decide (9218868437227405312 ≤ (r0 : Int)))
theorem ord_neg_iff {a b : Int} : ord a b < 0 ↔ a < b := by
  rcases Int.lt_trichotomy a b with h | h | h
  · rw [ord_lt h]; exact ⟨fun _ => h, fun _ => by decide⟩
  · rw [ord_eq h]; exact ⟨fun q => absurd q (by decide), fun q => by omega⟩
  · rw [ord_gt h]; exact ⟨fun q => absurd q (by decide), fun q => by omega⟩
theorem ord_pos_iff {a b : Int} : 0 < ord a b ↔ b < a := by
  rcases Int.lt_trichotomy a b with h | h | h
  · rw [ord_lt h]; exact ⟨fun q => absurd q (by decide), fun q => by omega⟩
  · rw [ord_eq h]; exact ⟨fun q => absurd q (by decide), fun q => by omega⟩
  · rw [ord_gt h]; exact ⟨fun _ => h, fun _ => by decide⟩
theorem ord_zero_iff {a b : Int} : ord a b = 0 ↔ a = b := by
  rcases Int.lt_trichotomy a b with h | h | h
  · rw [ord_lt h]; exact ⟨fun q => absurd q (by decide), fun q => by omega⟩
  · rw [ord_eq h]; exact ⟨fun _ => h, fun _ => rfl⟩
  · rw [ord_gt h]; exact ⟨fun q => absurd q (by decide), fun q => by omega⟩
theorem near_pos {A a b left : Int} (l1 : left = 1 ↔ a < A ∧ 2 * A < a + b) (l2 : left = 2 ↔ 2 * A = a + b) (l3 : left = 3 ↔ a + b < 2 * A) (lo : a < A) :
    (ord (A - a) (b - A) < 0 → left = 1) ∧ (0 < ord (A - a) (b - A) → left = 3) ∧ (ord (A - a) (b - A) = 0 → left = 2) :=
  ⟨fun h => l1.2 ⟨lo, by have := ord_neg_iff.1 h; omega⟩, fun h => l3.2 (by have := ord_pos_iff.1 h; omega), fun h => l2.2 (by have := ord_zero_iff.1 h; omega)⟩
theorem near_neg {A a b left : Int} (l1 : left = 1 ↔ a < A ∧ 2 * A < a + b) (l2 : left = 2 ↔ 2 * A = a + b) (l3 : left = 3 ↔ a + b < 2 * A) (lo : a < A) :
    (ord (-A - -b) (-a - -A) < 0 → left = 3) ∧ (0 < ord (-A - -b) (-a - -A) → left = 1) ∧ (ord (-A - -b) (-a - -A) = 0 → left = 2) :=
  ⟨fun h => l3.2 (by have := ord_neg_iff.1 h; omega), fun h => l1.2 ⟨lo, by have := ord_pos_iff.1 h; omega⟩, fun h => l2.2 (by have := ord_zero_iff.1 h; omega)⟩
theorem near_posS {A a b left : Int} (l1 : left = 1 ↔ a < A ∧ 2 * A < a + b) (l2 : left = 2 ↔ 2 * A = a + b) (l3 : left = 3 ↔ a + b < 2 * A) (lo : a < A) :
    (ord (sg false A - sg false a) (sg false b - sg false A) < 0 → left = 1) ∧ (0 < ord (sg false A - sg false a) (sg false b - sg false A) → left = 3) ∧ (ord (sg false A - sg false a) (sg false b - sg false A) = 0 → left = 2) := near_pos l1 l2 l3 lo
theorem near_negS {A a b left : Int} (l1 : left = 1 ↔ a < A ∧ 2 * A < a + b) (l2 : left = 2 ↔ 2 * A = a + b) (l3 : left = 3 ↔ a + b < 2 * A) (lo : a < A) :
    (ord (sg true A - sg true b) (sg true a - sg true A) < 0 → left = 3) ∧ (0 < ord (sg true A - sg true b) (sg true a - sg true A) → left = 1) ∧ (ord (sg true A - sg true b) (sg true a - sg true A) = 0 → left = 2) := near_neg l1 l2 l3 lo
theorem rTo0_1 {ng : Bool} {r0 : Nat} (h : (r0 : Int) < 9218868437227405312) : rTo 0 ng r0 1 = (r0 : Int) := by
  unfold rTo
  rw [if_pos h]
  simp [rUp]
theorem rTo0_3 {ng : Bool} {r0 : Nat} (h : (r0 : Int) < 9218868437227405312) : rTo 0 ng r0 3 = ((r0 + 1 : Nat) : Int) := by
  unfold rTo
  rw [if_pos h]
  simp [rUp]
theorem rTo0_2 {ng : Bool} {r0 : Nat} (h : (r0 : Int) < 9218868437227405312) : rTo 0 ng r0 2 % 2 = 0 := by
  unfold rTo
  rw [if_pos h]
  by_cases hp : r0 % 2 = 1
  · simp [rUp, hp]; omega
  · simp [rUp, hp]; omega
theorem patS_even {b : Bool} {r : Int} (h : r % 2 = 0) : patS b r % 2 = 0 := by
  unfold patS
  cases b
  · exact h
  · show (r - 9223372036854775808) % 2 = 0; omega
theorem and_pos {ng : Bool} {r : Int} (h : (ng && decide (0 < r)) = true) : 0 < r := by
  cases ng
  · cases h
  · rw [Bool.true_and] at h; exact of_decide_eq_true h
theorem pat_fin {ng : Bool} {r : Int} (h0 : 0 ≤ r) (h1 : r ≤ 9218868437227405312) (h : pok (patS (ng && decide (0 < r)) r) = true) : r < 9218868437227405312 := by
  rw [patS_pok h0 h1 and_pos] at h
  exact of_decide_eq_true h
theorem patV_rung {ng : Bool} {r : Nat} (h : (r : Int) < 9218868437227405312) : patV (patS (ng && decide ((0 : Int) < (r : Int))) (r : Int)) = sg ng (vS r) := by
  rw [patV_patS h (fun q => by have := and_pos q; omega)]
  by_cases h0 : r = 0
  · subst h0
    rw [vS_zero]
    simp [sg]
  · have e : (ng && decide ((0 : Int) < (r : Int))) = ng := by rw [decide_eq_true (by omega), Bool.and_true]
    rw [e]
structure Nea (V : Int) (f : Int → Int × Bool) : Prop where
  lo : ord (V - patV (f 1).1) (patV (f 2).1 - V) < 0 → (f 0).1 = (f 1).1
  hi : 0 < ord (V - patV (f 1).1) (patV (f 2).1 - V) → (f 0).1 = (f 2).1
  ev : ord (V - patV (f 1).1) (patV (f 2).1 - V) = 0 → (f 0).1 % 2 = 0
theorem Nea.of {V : Int} {f : Int → Int × Bool} {d u n p q : Int} {o : Bool} (f1 : f 1 = (d, o)) (f2 : f 2 = (u, o)) (f0 : f 0 = (n, o)) (hd : patV d = p) (hu : patV u = q)
    (lo : ord (V - p) (q - V) < 0 → n = d) (hi : 0 < ord (V - p) (q - V) → n = u) (ev : ord (V - p) (q - V) = 0 → n % 2 = 0) : Nea V f := by
  subst hd hu
  exact ⟨by rw [f1, f2, f0]; exact lo, by rw [f1, f2, f0]; exact hi, by rw [f1, f2, f0]; exact ev⟩
theorem nearest {V : Int} {ng : Bool} {f : Int → Int × Bool} (h : RdOf V ng f) (o : (f 0).2 = true) (pd : pok (f 1).1 = true) (pu : pok (f 2).1 = true) : Nea V f := by
  obtain ⟨A, r0, left, hV, hA, hR, hf⟩ := h
  have f1 := hf 1
  have f2 := hf 2
  have f0 := hf 0
  rw [f1] at pd
  rw [f2] at pu
  rw [f0] at o
  have g1 := rTo_range 1 ng r0 left
  have g2 := rTo_range 2 ng r0 left
  have q1 := pat_fin g1.1 g1.2 pd
  have q2 := pat_fin g2.1 g2.2 pu
  clear pd pu hf g1 g2
  by_cases hr : (r0 : Int) < 9218868437227405312
  · obtain ⟨t1, t2, t3, t0⟩ := rTo_fin (ng := ng) (left := left) hr
    have hl : left ≠ 0 := by
      have o' : (decide (left ≠ 0) || decide (9218868437227405312 ≤ (r0 : Int))) = true := o
      rw [decide_eq_false (p := 9218868437227405312 ≤ (r0 : Int)) (Int.not_le.2 hr), Bool.or_false] at o'
      exact of_decide_eq_true o'
    have hAl : vS r0 < A := by
      rcases Int.lt_or_eq_of_le hR.lo with h | h
      · exact h
      · exact absurd (hR.l0.2 h.symm) hl
    have l1 := hR.l1
    have l2 := hR.l2
    have l3 := hR.l3
    clear hR t3 t0 hA
    have V0 := patV_rung (ng := ng) hr
    cases ng
    · have e1 : rTo 1 false r0 left = (r0 : Int) := by rw [t1, if_neg (fun h => by cases h.2)]
      have e2 : rTo 2 false r0 left = ((r0 + 1 : Nat) : Int) := by rw [t2, if_pos ⟨hl, rfl⟩]
      rw [e1] at f1
      rw [e2] at f2 q2
      have V1 := patV_rung (ng := false) q2
      obtain ⟨n1, n2, n3⟩ := near_posS l1 l2 l3 hAl
      refine Nea.of f1 f2 f0 V0 V1 ?_ ?_ ?_
      · intro h
        rw [hV] at h
        have := n1 h
        subst this
        rw [rTo0_1 hr]
      · intro h
        rw [hV] at h
        have := n2 h
        subst this
        rw [rTo0_3 hr]
      · intro h
        rw [hV] at h
        have := n3 h
        subst this
        exact patS_even (rTo0_2 hr)
    · have e1 : rTo 1 true r0 left = ((r0 + 1 : Nat) : Int) := by rw [t1, if_pos ⟨hl, rfl⟩]
      have e2 : rTo 2 true r0 left = (r0 : Int) := by rw [t2, if_neg (fun h => by cases h.2)]
      rw [e1] at f1 q1
      rw [e2] at f2
      have V1 := patV_rung (ng := true) q1
      obtain ⟨n1, n2, n3⟩ := near_negS l1 l2 l3 hAl
      refine Nea.of f1 f2 f0 V1 V0 ?_ ?_ ?_
      · intro h
        rw [hV] at h
        have := n1 h
        subst this
        rw [rTo0_3 hr]
      · intro h
        rw [hV] at h
        have := n2 h
        subst this
        rw [rTo0_1 hr]
      · intro h
        rw [hV] at h
        have := n3 h
        subst this
        exact patS_even (rTo0_2 hr)
  · exfalso
    obtain ⟨t1, t2, t3, t0⟩ := rTo_inf (ng := ng) (left := left) hr
    rw [t1] at q1
    rw [t2] at q2
    clear f1 f2 f0 o hV hA hR
    cases ng
    · rw [if_neg (by decide)] at q2; omega
    · rw [if_pos rfl] at q1; omega
end Go.Proofs.YtelnilmjhdneoaaGreatDoor

/-
  What RoundNearest asks of the calls.
-/
namespace Go.Proofs.YtelnilmjhdneoaaGreatDoor
open Go Go.RowKit Go.Proofs.YtelnilmjhdneoaaGreatDoor.M
set_option linter.unusedSimpArgs false
set_option linter.unusedVariables false

theorem patV_bd {b : Int} (h : pok b = true) : Bd 4000 (patV b) := by
  obtain ⟨i0, i1, i2, i3⟩ := pmag_in h
  have h30 : (9007199254740992 : Int) ≤ P 30 := by unfold P; decide
  exact bd_num i0 (Int.lt_of_lt_of_le (by omega) h30) (by omega) (by omega)
theorem Bd.sub {B : Nat} {V W : Int} (h : Bd B V) (k : Bd B W) (hB : B < 4194304) : Bd (B + 1) (V - W) := by
  rw [Int.sub_eq_add_neg]
  exact h.add k.neg hB
theorem of_ok {b : Int} {w : World} (h : pok b = true) (H : Hold4 w) : Calls Tryz.prog 48 #[.int .i64 b] w fun r w' => ∃ v, r = .returned (.tuple #[v, .int .i64 0]) ∧ DAns w w' (patV b) v := by
  refine (dof_any b w H.lay H.tab).mono ?_
  rintro _ w' ⟨v, er, rfl, hb, (⟨_, rfl, hD⟩ | ⟨h', _⟩)⟩
  · exact ⟨v, rfl, hD⟩
  · rw [h] at h'; cases h'
end Go.Proofs.YtelnilmjhdneoaaGreatDoor

/-
  Plain mathematics of neighbours and of the order of all patterns. No Go text in sight.
-/
namespace Go.Proofs.YtelnilmjhdneoaaGreatDoor.M
open Go
set_option linter.unusedSimpArgs false
set_option linter.unusedVariables false

/-! the order of all -/
end Go.Proofs.YtelnilmjhdneoaaGreatDoor.M

/-
  Plain mathematics: a binary32's value as a binary64: it is written there without rounding, and greater ones stay greater. No Go text in sight.
-/
namespace Go.Proofs.YtelnilmjhdneoaaGreatDoor.M
open Go Ieee
set_option linter.unusedSimpArgs false
set_option linter.unusedVariables false

end Go.Proofs.YtelnilmjhdneoaaGreatDoor.M

/-
  Plain mathematics: what the model's floats are rounded to, by rungs. No Go text in sight.
-/
namespace Go.Proofs.YtelnilmjhdneoaaGreatDoor
open Go Go.RowKit Go.Proofs.YtelnilmjhdneoaaGreatDoor.M Ieee
set_option linter.unusedSimpArgs false
set_option linter.unusedVariables false

end Go.Proofs.YtelnilmjhdneoaaGreatDoor

/-
  Plain mathematics: the nearest word is the nearest rung's. No Go text in sight.
-/
namespace Go.Proofs.YtelnilmjhdneoaaGreatDoor
open Go Go.RowKit Go.Proofs.YtelnilmjhdneoaaGreatDoor.M Ieee
set_option linter.unusedSimpArgs false
set_option linter.unusedVariables false

end Go.Proofs.YtelnilmjhdneoaaGreatDoor

/-
  Plain mathematics: rounding with the other sign, and that it keeps the order.
-/
namespace Go.Proofs.YtelnilmjhdneoaaGreatDoor
open Go Go.RowKit Go.Proofs.YtelnilmjhdneoaaGreatDoor.M
set_option linter.unusedSimpArgs false
set_option linter.unusedVariables false

theorem cls_pat {s : Bool} {r : Int} (h0 : 0 ≤ r) (h1 : r ≤ 9218868437227405312) (h : s = true → 0 < r) : cls (patS s r) ≠ 4 := by
  obtain ⟨a, b, _⟩ := patS_facts h0 h1 h
  intro q
  have := (cls_rg a).1.1 q
  omega
theorem key_pat {s : Bool} {r : Int} (h0 : 0 ≤ r) (h1 : r ≤ 9218868437227405312) (h : s = true → 0 < r) : key (patS s r) = sg s r := by
  unfold key patS sg
  cases s
  · simp only [Bool.false_eq_true, if_false]
    rw [if_neg (by omega)]
  · have := h rfl
    simp only [if_true]
    rw [if_pos (by omega)]
    omega
theorem vS_nonneg (r : Nat) : 0 ≤ vS r := by
  rcases Nat.eq_zero_or_pos r with h | h
  · subst h; rw [vS_zero]; exact Int.le_refl _
  · have := vS_lt h
    rw [vS_zero] at this
    exact Int.le_of_lt this
theorem sg_key (ng : Bool) {r : Int} (h0 : 0 ≤ r) : sg (ng && decide (0 < r)) r = sg ng r := by
  by_cases h : 0 < r
  · rw [decide_eq_true h, Bool.and_true]
  · obtain rfl : r = 0 := by omega
    cases ng <;> rfl
/-- A pattern that is answered: its place in the order, and that it is a number's. -/
theorem RdOf.key {V : Int} {ng : Bool} {f : Int → Int × Bool} {A : Int} {r0 : Nat} {left : Int} {way : Int} (hf : f way = (patS (ng && decide (0 < rTo way ng r0 left)) (rTo way ng r0 left), decide (left ≠ 0) || decide (9218868437227405312 ≤ (r0 : Int)))) :
    M.key (f way).1 = sg ng (rTo way ng r0 left) ∧ cls (f way).1 ≠ 4 ∧ rng (f way).1 := by
  obtain ⟨g1, g2⟩ := rTo_range way ng r0 left
  rw [hf]
  exact ⟨(key_pat g1 g2 and_pos).trans (sg_key ng g1), cls_pat g1 g2 and_pos, (patS_facts g1 g2 and_pos).1⟩
end Go.Proofs.YtelnilmjhdneoaaGreatDoor

/-
  Plain mathematics: what binary64 answers, by rungs, where the number is a quotient. No Go text in sight.
-/
namespace Go.Proofs.YtelnilmjhdneoaaGreatDoor
open Go Go.RowKit Go.Proofs.YtelnilmjhdneoaaGreatDoor.M
set_option linter.unusedSimpArgs false
set_option linter.unusedVariables false

end Go.Proofs.YtelnilmjhdneoaaGreatDoor

/-
  Plain mathematics: a quotient's rung, and what RoundQuots asks of it.
-/
namespace Go.Proofs.YtelnilmjhdneoaaGreatDoor
open Go Go.RowKit Go.Proofs.YtelnilmjhdneoaaGreatDoor.M
set_option linter.unusedSimpArgs false
set_option linter.unusedVariables false

end Go.Proofs.YtelnilmjhdneoaaGreatDoor

/-
  Plain mathematics: what Quot answers by Down, and its neighbour above.
-/
namespace Go.Proofs.YtelnilmjhdneoaaGreatDoor
open Go Go.RowKit Go.Proofs.YtelnilmjhdneoaaGreatDoor.M
set_option linter.unusedSimpArgs false
set_option linter.unusedVariables false

/-- What RoundQuots asks of an answer by Down: U / S is the quotient. -/
structure Quo (U S d : Int) (o : Bool) : Prop where
  rg : rng d
  fin : pok d = true → patV d * S ≤ U ∧ (patV d * S = U ↔ o = false)
  nxt : pok (next d) = true → U < patV (next d) * S
  neg : pok d = false → d < 0
theorem next_pos {r : Int} (h0 : 0 ≤ r) (h1 : r < 9218868437227405312) : next (patS false r) = patS false (r + 1) := by
  have hc := cls_pat (s := false) (r := r) h0 (by omega) (fun h => by cases h)
  unfold next
  rw [if_neg hc]
  show (if r = 9218868437227405312 then r else if r = -9223372036854775808 then 1 else if r < 0 then r - 1 else r + 1) = r + 1
  rw [if_neg (by omega), if_neg (by omega), if_neg (by omega)]
theorem pok_pos {r : Int} (h0 : 0 ≤ r) (h1 : r ≤ 9218868437227405312) (h : pok (patS false r) = true) : r < 9218868437227405312 := by
  rw [patS_pok h0 h1 (fun q => by cases q)] at h
  exact of_decide_eq_true h
/-- The cases of an answer by Down. -/
theorem Quo.pos {S A : Int} {r : Nat} {o : Bool} (hr : (r : Int) < 9218868437227405312) (lo : vS r * S ≤ A) (eq : vS r * S = A ↔ o = false) (hi : ((r + 1 : Nat) : Int) < 9218868437227405312 → A < vS (r + 1) * S) : Quo A S (patS false (r : Int)) o := by
  have hv : patV (patS false (r : Int)) = vS r := by
    have := patV_patS (ng := false) hr (fun h => by cases h)
    rw [this]
    unfold sg
    rw [if_neg (by decide)]
  have hnx : next (patS false (r : Int)) = patS false ((r + 1 : Nat) : Int) := by
    rw [next_pos (by omega) hr]; rfl
  refine ⟨(patS_facts (by omega) (by omega) (fun h => by cases h)).1, fun _ => ?_, fun h => ?_, fun h => ?_⟩
  · rw [hv]; exact ⟨lo, eq⟩
  · rw [hnx] at h ⊢
    have h1 := pok_pos (by omega) (by omega) h
    have := patV_patS (ng := false) h1 (fun h => by cases h)
    rw [this]
    unfold sg
    rw [if_neg (by decide)]
    exact hi h1
  · exfalso
    rw [patS_pok (by omega) (by omega) (fun h => by cases h)] at h
    exact absurd hr (of_decide_eq_false h)
end Go.Proofs.YtelnilmjhdneoaaGreatDoor

/-
  Plain mathematics: a square root's rung. No Go text in sight.
-/
namespace Go.Proofs.YtelnilmjhdneoaaGreatDoor
open Go Go.RowKit Go.Proofs.YtelnilmjhdneoaaGreatDoor.M
set_option linter.unusedSimpArgs false
set_option linter.unusedVariables false

/-- X's square root among the rungs. -/
structure RungR (X : Int) (r0 : Nat) (left : Int) : Prop where
  lo : vS r0 * vS r0 ≤ X
  hi : X < vS (r0 + 1) * vS (r0 + 1)
  l0 : left = 0 ↔ X = vS r0 * vS r0
theorem sq_le {a b : Int} (h0 : 0 ≤ a) (h : a ≤ b) : a * a ≤ b * b := Int.mul_le_mul h h h0 (Int.le_trans h0 h)
theorem RungR.unique {X : Int} {r s : Nat} {l k : Int} (h : RungR X r l) (g : RungR X s k) : r = s := by
  have key : ∀ {r s : Nat} {l k : Int}, RungR X r l → RungR X s k → ¬ r < s := fun {r s l k} h g q => by
    have e : vS (r + 1) ≤ vS s := by
      rcases Nat.lt_or_eq_of_le (show r + 1 ≤ s from q) with q2 | q2
      · exact Int.le_of_lt (vS_lt q2)
      · rw [q2]; exact Int.le_refl _
    exact absurd (Int.lt_of_lt_of_le h.hi (Int.le_trans (sq_le (vS_nonneg _) e) g.lo)) (Int.lt_irrefl _)
  rcases Nat.lt_trichotomy r s with q | q | q
  · exact absurd q (key h g)
  · exact q
  · exact absurd q (key g h)
end Go.Proofs.YtelnilmjhdneoaaGreatDoor

/-
  Plain mathematics: what Root answers, by the root's rung. No Go text in sight.
-/
namespace Go.Proofs.YtelnilmjhdneoaaGreatDoor
open Go Go.RowKit Go.Proofs.YtelnilmjhdneoaaGreatDoor.M
set_option linter.unusedSimpArgs false
set_option linter.unusedVariables false

end Go.Proofs.YtelnilmjhdneoaaGreatDoor

/-
  Package round: Quot by 0.
-/
namespace Go.Proofs.YtelnilmjhdneoaaGreatDoor
open Go Go.RowKit Go.Proofs.YtelnilmjhdneoaaGreatDoor.M
set_option linter.unusedSimpArgs false
set_option linter.unusedVariables false

end Go.Proofs.YtelnilmjhdneoaaGreatDoor

/-
  Package round: Quot by 0: rounded and Quot.
-/
namespace Go.Proofs.YtelnilmjhdneoaaGreatDoor
open Go Go.RowKit Go.Proofs.YtelnilmjhdneoaaGreatDoor.M
set_option linter.unusedSimpArgs false
set_option linter.unusedVariables false

end Go.Proofs.YtelnilmjhdneoaaGreatDoor

/-
  What RoundQuots asks of the calls: Quot on numbers told by their worth.
-/
namespace Go.Proofs.YtelnilmjhdneoaaGreatDoor
open Go Go.RowKit Go.Proofs.YtelnilmjhdneoaaGreatDoor.M
set_option linter.unusedSimpArgs false
set_option linter.unusedVariables false

theorem Bd.sg {B : Nat} {V : Int} (g : Bool) (h : Bd B V) : Bd B (M.sg g V) := by
  cases g
  · exact h
  · exact h.neg
end Go.Proofs.YtelnilmjhdneoaaGreatDoor

/-
  Plain mathematics: what RoundRoots asks of Root's answers.
-/
namespace Go.Proofs.YtelnilmjhdneoaaGreatDoor
open Go Go.RowKit Go.Proofs.YtelnilmjhdneoaaGreatDoor.M
set_option linter.unusedSimpArgs false
set_option linter.unusedVariables false

end Go.Proofs.YtelnilmjhdneoaaGreatDoor

/-
  Plain mathematics: the sum of two floats is the exact sum, rounded to the nearest. No Go text in sight.
-/
namespace Go.Proofs.YtelnilmjhdneoaaGreatDoor
open Go Go.RowKit Go.Proofs.YtelnilmjhdneoaaGreatDoor.M Ieee
set_option linter.unusedSimpArgs false
set_option linter.unusedVariables false

end Go.Proofs.YtelnilmjhdneoaaGreatDoor

/-
  Plain mathematics: the product of two floats is the exact product, rounded to the nearest; what is no number, what is infinite. No Go text in sight.
-/
namespace Go.Proofs.YtelnilmjhdneoaaGreatDoor
open Go Go.RowKit Go.Proofs.YtelnilmjhdneoaaGreatDoor.M Ieee
set_option linter.unusedSimpArgs false
set_option linter.unusedVariables false

end Go.Proofs.YtelnilmjhdneoaaGreatDoor

/-
  The model's operations on floats, by a law each: a float that is told, or one of the words of no number.
-/
namespace Go.Proofs.YtelnilmjhdneoaaGreatDoor
open Go Go.RowKit Go.Proofs.YtelnilmjhdneoaaGreatDoor.M Ieee
set_option linter.unusedSimpArgs false
set_option linter.unusedVariables false

/-- A word of no number. -/
def NanW (z : Nat) : Prop := z < 18446744073709551616 ∧ 9218868437227405312 < z % 9223372036854775808
end Go.Proofs.YtelnilmjhdneoaaGreatDoor

/-
  Sums of floats on patterns: a relation between patterns and the model's words that each sum keeps.
-/
namespace Go.Proofs.YtelnilmjhdneoaaGreatDoor
open Go Go.RowKit Go.Proofs.YtelnilmjhdneoaaGreatDoor.M Ieee
set_option linter.unusedSimpArgs false
set_option linter.unusedVariables false

/-- A word that stands for a pattern: of no number any of its words. -/
def FW (p : Int) (x : Nat) : Prop := (cls p ≠ 4 ∧ rng p ∧ x = wd p) ∨ (p = 9221120237041090561 ∧ NanW x)
/-- The pattern of a word. -/
def patW (x : Nat) : Int := if x < 9223372036854775808 then (x : Int) else (x : Int) - 18446744073709551616
/-- The pattern nearest to a number that is not 0. -/
def nearP (S : Int) : Int := patW (Ieee.double.nearest (decide (S < 0)) S.natAbs (-4194304))
/-- A sum, on patterns: to the nearest. -/
def fsum (p q : Int) : Int :=
  if cls p = 4 ∨ cls q = 4 then 9221120237041090561
  else if rg p = 9218868437227405312 then (if rg q = 9218868437227405312 ∧ decide (p < 0) ≠ decide (q < 0) then 9221120237041090561 else p)
  else if rg q = 9218868437227405312 then q
  else if patV p + patV q = 0 then patS (decide (p < 0) && decide (q < 0)) 0 else nearP (patV p + patV q)
end Go.Proofs.YtelnilmjhdneoaaGreatDoor

/-
  The model's sum of two words, on patterns.
-/
namespace Go.Proofs.YtelnilmjhdneoaaGreatDoor
open Go Go.RowKit Go.Proofs.YtelnilmjhdneoaaGreatDoor.M Ieee
set_option linter.unusedSimpArgs false
set_option linter.unusedVariables false

theorem nan_canon : cls 9221120237041090561 = 4 := by decide
theorem FW.nan {x : Nat} (h : NanW x) : FW 9221120237041090561 x := .inr ⟨rfl, h⟩
theorem FW.read_nan {p : Int} {x : Nat} (h : FW p x) (h4 : cls p = 4) : ∃ s t, Ieee.double.read x = .nan s t := by
  rcases h with ⟨h, _⟩ | ⟨_, h⟩
  · exact absurd h4 h
  · exact M.read_nan Ieee.double dOk x (by rw [dSign, dInf]; exact h.2)
theorem FW.of {p : Int} {x : Nat} (h : FW p x) (h4 : cls p ≠ 4) : rng p ∧ x = wd p ∧ 0 ≤ rg p ∧ rg p ≤ 9218868437227405312 := by
  rcases h with ⟨_, h1, h2⟩ | ⟨h, _⟩
  · obtain ⟨r0, _⟩ := rg_parts h1
    refine ⟨h1, h2, r0, ?_⟩
    rcases Int.lt_or_le 9218868437227405312 (rg p) with g | g
    · exact absurd ((cls_rg h1).1.2 g) h4
    · exact g
  · rw [h] at h4; exact absurd nan_canon h4
end Go.Proofs.YtelnilmjhdneoaaGreatDoor

/-
  The model's difference and product of two words, on patterns.
-/
namespace Go.Proofs.YtelnilmjhdneoaaGreatDoor
open Go Go.RowKit Go.Proofs.YtelnilmjhdneoaaGreatDoor.M Ieee
set_option linter.unusedSimpArgs false
set_option linter.unusedVariables false

end Go.Proofs.YtelnilmjhdneoaaGreatDoor

/-
  The model's product of two words, on patterns; bits.Float and bits.Of, between patterns and words.
-/
namespace Go.Proofs.YtelnilmjhdneoaaGreatDoor
open Go Go.RowKit Go.Proofs.YtelnilmjhdneoaaGreatDoor.M Ieee
set_option linter.unusedSimpArgs false
set_option linter.unusedVariables false

end Go.Proofs.YtelnilmjhdneoaaGreatDoor

/-
  Mathematics of single operations and what they lose, over whole numbers: floats without an upper end (in units of the least one), the nearest one, Sterbenz, the error of a sum, TwoSum, FastTwoSum. No Go text in sight.
-/
namespace Go.Proofs.YtelnilmjhdneoaaGreatDoor.M
set_option linter.unusedVariables false

/-- A float, in units of the least one, with no upper end: 53 bits at most. -/
def Fl (n : Int) : Prop := ∃ k : Nat, (2 ^ k : Int) ∣ n ∧ (n.natAbs : Int) < 9007199254740992 * 2 ^ k
/-- A nearest float. -/
def Nr (S h : Int) : Prop := Fl h ∧ ∀ f, Fl f → (h - S).natAbs ≤ (f - S).natAbs
theorem p2 (k : Nat) : (0 : Int) < 2 ^ k := Int.pow_pos (by decide)
theorem p2s (k : Nat) : (2 : Int) ^ (k + 1) = 2 * 2 ^ k := by rw [Int.pow_succ, Int.mul_comm]
theorem p2dvd {j k : Nat} (h : j ≤ k) : (2 ^ j : Int) ∣ 2 ^ k := ⟨2 ^ (k - j), by rw [← Int.pow_add, Nat.add_sub_cancel' h]⟩
theorem p2le {j k : Nat} (h : j ≤ k) : (2 : Int) ^ j ≤ 2 ^ k := Int.le_of_dvd (p2 k) (p2dvd h)
theorem Fl.neg {n : Int} (h : Fl n) : Fl (-n) := by
  obtain ⟨k, d, b⟩ := h
  exact ⟨k, (Int.dvd_neg).2 d, by rw [Int.natAbs_neg]; exact b⟩
theorem fl_zero : Fl 0 := ⟨0, ⟨0, by simp⟩, by simp⟩
theorem Fl.dbl {n : Int} (h : Fl n) : Fl (2 * n) := by
  obtain ⟨k, ⟨c, rfl⟩, b⟩ := h
  refine ⟨k + 1, ⟨c, by rw [p2s, Int.mul_assoc]⟩, ?_⟩
  rw [p2s]
  omega
theorem Nr.neg {S h : Int} (n : Nr S h) : Nr (-S) (-h) := by
  refine ⟨n.1.neg, fun f hf => ?_⟩
  have := n.2 (-f) hf.neg
  omega
theorem nr_self {S h : Int} (hS : Fl S) (n : Nr S h) : h = S := by
  have := n.2 S hS
  omega
/-- What is no more than either of two floats, is their difference a float. -/
theorem fl_sub {x y : Int} (hx : Fl x) (hy : Fl y) (h1 : (x - y).natAbs ≤ x.natAbs) (h2 : (x - y).natAbs ≤ y.natAbs) : Fl (x - y) := by
  obtain ⟨j, dx, bx⟩ := hx
  obtain ⟨k, dy, by1⟩ := hy
  rcases Nat.le_total j k with c | c
  · exact ⟨j, Int.dvd_sub dx (Int.dvd_trans (p2dvd c) dy), by omega⟩
  · exact ⟨k, Int.dvd_sub (Int.dvd_trans (p2dvd c) dx) dy, by omega⟩
theorem fl_add {x y : Int} (hx : Fl x) (hy : Fl y) (h1 : (x + y).natAbs ≤ x.natAbs) (h2 : (x + y).natAbs ≤ y.natAbs) : Fl (x + y) := by
  have e : x + y = x - -y := by omega
  rw [e]
  exact fl_sub hx hy.neg (by omega) (by omega)
/-- The step back of FastTwoSum is exact. -/
theorem back_pos {a b h : Int} (ha : Fl a) (hb : Fl b) (h0 : 0 ≤ a) (hab : b.natAbs ≤ a.natAbs) (n : Nr (a + b) h) : Fl (h - a) := by
  have ea := n.2 a ha
  have e2 := n.2 (2 * a) ha.dbl
  have ez := n.2 0 fl_zero
  by_cases hs : a ≤ 2 * h
  · exact fl_sub n.1 ha (by omega) (by omega)
  · have hS : Fl (a + b) := by
      obtain ⟨k, ⟨c, hc⟩, ba⟩ := ha
      cases k with
      | zero => exact ⟨0, ⟨a + b, by simp⟩, by simp at ba ⊢; omega⟩
      | succ k =>
        have hf : Fl (2 ^ k * c) := ⟨k, ⟨c, rfl⟩, by rw [p2s] at ba hc; rw [Int.mul_assoc] at hc; omega⟩
        have e3 := n.2 _ hf
        rw [p2s, Int.mul_assoc] at hc
        exact fl_add ⟨k + 1, ⟨c, by rw [p2s, Int.mul_assoc]; exact hc⟩, ba⟩ hb (by omega) (by omega)
    rw [nr_self hS n, show a + b - a = b by omega]
    exact hb
theorem back {a b h : Int} (ha : Fl a) (hb : Fl b) (hab : b.natAbs ≤ a.natAbs) (n : Nr (a + b) h) : Fl (h - a) := by
  rcases Int.le_total 0 a with c | c
  · exact back_pos ha hb c hab n
  · have n2 := n.neg
    rw [show -(a + b) = -a + -b by omega] at n2
    have := (back_pos ha.neg hb.neg (by omega) (by omega) n2).neg
    rwa [show -(-h - -a) = h - a by omega] at this
/-- Where a number lies. -/
theorem binade (S : Int) (h0 : 0 ≤ S) : ∃ k : Nat, S < 9007199254740992 * 2 ^ k ∧ (k = 0 ∨ 4503599627370496 * 2 ^ k ≤ S) := by
  have ex : ∀ n : Nat, S < 9007199254740992 * 2 ^ n → ∃ k : Nat, S < 9007199254740992 * 2 ^ k ∧ (k = 0 ∨ 4503599627370496 * 2 ^ k ≤ S) := by
    intro n
    induction n with
    | zero => intro h; exact ⟨0, h, .inl rfl⟩
    | succ n ih =>
      intro h
      by_cases c : S < 9007199254740992 * 2 ^ n
      · exact ih c
      · exact ⟨n + 1, h, .inr (by rw [p2s]; omega)⟩
  refine ex S.natAbs ?_
  have h1 : S.natAbs < 2 ^ S.natAbs := Nat.lt_two_pow_self
  have h2 : ((2 ^ S.natAbs : Nat) : Int) = 2 ^ S.natAbs := by simp
  have h3 := p2 S.natAbs
  omega
end Go.Proofs.YtelnilmjhdneoaaGreatDoor.M

/-
  Mathematics of Split and TwoProd, over whole numbers. No Go text in sight.
-/
namespace Go.Proofs.YtelnilmjhdneoaaGreatDoor.M
set_option linter.unusedVariables false

/-- Split's steps on a float of 53 bits in units of 2^j, the sign aside. -/
structure Spl (a h : Int) (j : Nat) : Prop where
  up : (134217728 * 2 ^ j : Int) ∣ h
  lo : (2 ^ j : Int) ∣ a - h
  top : (h.natAbs : Int) ≤ 9007199254740992 * 2 ^ j
  low : ((a - h).natAbs : Int) ≤ 67108864 * 2 ^ j
theorem Spl.neg {a h : Int} {j : Nat} (s : Spl a h j) : Spl (-a) (-h) j :=
  ⟨(Int.dvd_neg).2 s.up, by rw [show -a - -h = -(a - h) by omega]; exact (Int.dvd_neg).2 s.lo, by rw [Int.natAbs_neg]; exact s.top, by rw [show -a - -h = -(a - h) by omega, Int.natAbs_neg]; exact s.low⟩
end Go.Proofs.YtelnilmjhdneoaaGreatDoor.M

/-
  Mathematics of TwoProd, over whole numbers: scaling, Dekker's steps. No Go text in sight.
-/
namespace Go.Proofs.YtelnilmjhdneoaaGreatDoor.M
set_option linter.unusedVariables false

theorem natAbs_p2 (i : Nat) (t : Int) : ((2 ^ i * t).natAbs : Int) = 2 ^ i * (t.natAbs : Int) := by
  have hi := p2 i
  rw [Int.natAbs_mul, Int.natCast_mul, show ((2 ^ i : Int).natAbs : Int) = 2 ^ i by omega]
theorem Fl.down {i : Nat} {t : Int} (h : Fl (2 ^ i * t)) : Fl t := by
  obtain ⟨k, d, b⟩ := h
  rw [natAbs_p2] at b
  rcases Nat.le_total i k with c | c
  · obtain ⟨e, rfl⟩ : ∃ e, k = i + e := ⟨k - i, by omega⟩
    rw [Int.pow_add] at d b
    refine ⟨e, Int.dvd_of_mul_dvd_mul_left (by have := p2 i; omega) d, ?_⟩
    have e2 : (9007199254740992 : Int) * (2 ^ i * 2 ^ e) = 2 ^ i * (9007199254740992 * 2 ^ e) := by rw [← Int.mul_assoc, ← Int.mul_assoc, Int.mul_comm _ (2 ^ i)]
    rw [e2] at b
    exact Int.lt_of_mul_lt_mul_left b (Int.le_of_lt (p2 i))
  · refine ⟨0, ⟨t, by simp⟩, ?_⟩
    have h1 : (9007199254740992 : Int) * 2 ^ k ≤ 2 ^ i * 9007199254740992 := by rw [Int.mul_comm]; exact Int.mul_le_mul_of_nonneg_right (p2le c) (by decide)
    have h2 := Int.lt_of_mul_lt_mul_left (Int.lt_of_lt_of_le b h1) (Int.le_of_lt (p2 i))
    simpa using h2
theorem Fl.up {t : Int} (h : Fl t) (i : Nat) : Fl (2 ^ i * t) := by
  obtain ⟨k, ⟨c, rfl⟩, b⟩ := h
  refine ⟨i + k, ⟨c, by rw [Int.pow_add, Int.mul_assoc]⟩, ?_⟩
  rw [natAbs_p2, Int.pow_add]
  have e2 : (9007199254740992 : Int) * (2 ^ i * 2 ^ k) = 2 ^ i * (9007199254740992 * 2 ^ k) := by rw [← Int.mul_assoc, ← Int.mul_assoc, Int.mul_comm _ (2 ^ i)]
  rw [e2]
  exact Int.mul_lt_mul_of_pos_left b (p2 i)
end Go.Proofs.YtelnilmjhdneoaaGreatDoor.M

/-
  Patterns and whole numbers: a finite float in units of the least one; the float that a sum, a product is rounded to is a nearest one.
-/
namespace Go.Proofs.YtelnilmjhdneoaaGreatDoor
open Go Go.RowKit Go.Proofs.YtelnilmjhdneoaaGreatDoor.M Ieee
set_option linter.unusedSimpArgs false
set_option linter.unusedVariables false

end Go.Proofs.YtelnilmjhdneoaaGreatDoor

/-
  Sums and products of patterns, as whole numbers of the least float: the nearest ones; finite where the exact one is not too great; finite only where both operands are.
-/
namespace Go.Proofs.YtelnilmjhdneoaaGreatDoor
open Go Go.RowKit Go.Proofs.YtelnilmjhdneoaaGreatDoor.M Ieee
set_option linter.unusedSimpArgs false
set_option linter.unusedVariables false

theorem nan_rng : rng 9221120237041090561 := by unfold rng; decide
theorem nan_no : pok 9221120237041090561 = false := by decide
end Go.Proofs.YtelnilmjhdneoaaGreatDoor

/-
  Package eft: the steps on floats, by their contracts: what they tell is told by patterns.
-/
namespace Go.Proofs.YtelnilmjhdneoaaGreatDoor
open Go Go.RowKit Go.Proofs.YtelnilmjhdneoaaGreatDoor.M Ieee
set_option linter.unusedSimpArgs false
set_option linter.unusedVariables false

/-- The patterns of TwoSum's, FastTwoSum's, Split's, TwoProd's second answers. -/
def sV (p q : Int) : Int := fsum (fsum p q) (neg p)
theorem cv64 (x : Nat) (w : World) : (convert 47 47 (.float .f64 x)).run Tryz.prog w = .ok (.float .f64 x) w := run_convert_float_float w _ _ _ _ _ _ (by rw [Tryz.underlying47]; rfl) Tryz.underlying47 rfl
end Go.Proofs.YtelnilmjhdneoaaGreatDoor

/-
  Mathematics of whole numbers: a float's whole units, ints as floats, the order of floats in the model.
-/
namespace Go.Proofs.YtelnilmjhdneoaaGreatDoor.M
open Go Ieee
set_option linter.unusedSimpArgs false
set_option linter.unusedVariables false

theorem left_u {A q : Int} {u v : Nat} {l k : Int} (h : Left A u q l) (g : Left A v q k) : ¬ u < v := fun c => by
  have h1 := h.hi
  have h2 := g.lo
  have hq : 0 < q := by have := h.lo; omega
  have h3 : ((u : Int) + 1) * q ≤ (v : Int) * q := Int.mul_le_mul_of_nonneg_right (by omega) (by omega)
  rw [Int.add_mul, Int.one_mul] at h3
  omega
theorem Left.unique {A q : Int} {u v : Nat} {l k : Int} (h : Left A u q l) (g : Left A v q k) : u = v ∧ l = k := by
  have e : u = v := by
    have h1 := left_u h g
    have h2 := left_u g h
    omega
  subst e
  refine ⟨rfl, ?_⟩
  have lo := h.lo
  have hi := h.hi
  obtain ⟨T, hT⟩ : ∃ T, (u : Int) * q = T := ⟨_, rfl⟩
  rw [hT] at lo hi
  have a0 := h.l0
  have a1 := h.l1
  have a2 := h.l2
  have a3 := h.l3
  have b0 := g.l0
  have b1 := g.l1
  have b2 := g.l2
  have b3 := g.l3
  rw [hT] at a0 a1 a2 a3 b0 b1 b2 b3
  by_cases c0 : A = T
  · rw [a0.2 c0, b0.2 c0]
  · by_cases c1 : 2 * A < 2 * T + q
    · rw [a1.2 ⟨by omega, c1⟩, b1.2 ⟨by omega, c1⟩]
    · by_cases c2 : 2 * A = 2 * T + q
      · rw [a2.2 c2, b2.2 c2]
      · rw [a3.2 (by omega), b3.2 (by omega)]
end Go.Proofs.YtelnilmjhdneoaaGreatDoor.M
namespace Go.Proofs.YtelnilmjhdneoaaGreatDoor
open Go Go.RowKit Go.Proofs.YtelnilmjhdneoaaGreatDoor.M Ieee
set_option linter.unusedSimpArgs false
set_option linter.unusedVariables false
end Go.Proofs.YtelnilmjhdneoaaGreatDoor

/-
  Package eft: told, TwoSum, TwoDiff, Split, math.Abs, by their contracts.
-/
namespace Go.Proofs.YtelnilmjhdneoaaGreatDoor
open Go Go.RowKit Go.Proofs.YtelnilmjhdneoaaGreatDoor.M Ieee
set_option linter.unusedSimpArgs false
set_option linter.unusedVariables false

theorem FW.rng {p : Int} {x : Nat} (h : FW p x) : M.rng p := by
  rcases h with ⟨_, h, _⟩ | ⟨rfl, _⟩
  · exact h
  · exact nan_rng
end Go.Proofs.YtelnilmjhdneoaaGreatDoor

/-
  TwoSum, FastTwoSum, Split, TwoProd on patterns: where the second answer is finite nothing gets lost.
-/
namespace Go.Proofs.YtelnilmjhdneoaaGreatDoor
open Go Go.RowKit Go.Proofs.YtelnilmjhdneoaaGreatDoor.M Ieee
set_option linter.unusedSimpArgs false
set_option linter.unusedVariables false

end Go.Proofs.YtelnilmjhdneoaaGreatDoor

/-
  Package eft: math.Abs, FastTwoSum, reachable, TwoProd, by their contracts.
-/
namespace Go.Proofs.YtelnilmjhdneoaaGreatDoor
open Go Go.RowKit Go.Proofs.YtelnilmjhdneoaaGreatDoor.M Ieee
set_option linter.unusedSimpArgs false
set_option linter.unusedVariables false

theorem FW.fin {p : Int} {x : Nat} (h : FW p x) (g : pok p = true) : x = wd p := by
  rcases h with ⟨_, _, h⟩ | ⟨rfl, _⟩
  · exact h
  · rw [nan_no] at g; cases g
end Go.Proofs.YtelnilmjhdneoaaGreatDoor
namespace Go.Proofs.YtelnilmjhdneoaaGreatDoor
open Go Go.RowKit Go.Proofs.YtelnilmjhdneoaaGreatDoor.M Ieee
set_option linter.unusedSimpArgs false
set_option linter.unusedVariables false
/-- Is no bit of the product below the least float? -/
def reach (a b : Int) : Bool := decide (pmag a = 0) || decide (pmag b = 0) || decide (-1074 ≤ pexp a + jz (pmag a) + pexp b + jz (pmag b))
end Go.Proofs.YtelnilmjhdneoaaGreatDoor

/-
  Package eft: reachable, TwoProd, by their contracts; what reachable tells.
-/
namespace Go.Proofs.YtelnilmjhdneoaaGreatDoor
open Go Go.RowKit Go.Proofs.YtelnilmjhdneoaaGreatDoor.M Ieee
set_option linter.unusedSimpArgs false
set_option linter.unusedVariables false

end Go.Proofs.YtelnilmjhdneoaaGreatDoor

/-
  Less of package bits by a contract.
-/
namespace Go.Proofs.YtelnilmjhdneoaaGreatDoor
open Go Go.RowKit Go.Proofs.YtelnilmjhdneoaaGreatDoor.M
set_option linter.unusedSimpArgs false
set_option linter.unusedVariables false

end Go.Proofs.YtelnilmjhdneoaaGreatDoor

/-
  plumblaw6: together, size, alive, by their contracts.
-/
namespace Go.Proofs.YtelnilmjhdneoaaGreatDoor
open Go Go.RowKit Go.Proofs.YtelnilmjhdneoaaGreatDoor.M Ieee
set_option linter.unusedSimpArgs false
set_option linter.unusedVariables false

theorem hold6_of {W : World} (h : laidMetH Tryz.prog [("math/bits.deBruijn32tab", Rows.laid_math_bits_deBruijn32tab), ("math/bits.deBruijn64tab", Rows.laid_math_bits_deBruijn64tab), ("plumb/bits.binary64", Rows.laid_plumb_bits_binary64)] W) : Hold4 W := by
  have k := hold_of h
  exact ⟨k.lay, k.tab, ⟨⟨k.lay.a0, k.lay.a1, k.lay.a2, trivial, trivial, trivial⟩, k.tab⟩⟩
end Go.Proofs.YtelnilmjhdneoaaGreatDoor

/-
  Package orient: apart, by its contract: the exact difference of two coordinates.
-/
namespace Go.Proofs.YtelnilmjhdneoaaGreatDoor
open Go Go.RowKit Go.Proofs.YtelnilmjhdneoaaGreatDoor.M
set_option linter.unusedSimpArgs false
set_option linter.unusedVariables false

theorem dans_past {w w' : World} {V : Int} {v : Value} (h : DAns w w' V v) (o : Obj) : DAns w (w'.alloc o) V v := h.stays (bel_alloc _ _)
set_option maxRecDepth 100000 in
set_option maxHeartbeats 2000000 in
theorem oapart_any {p q : Int} (pp : pok p = true) (pq : pok q = true) (w : World) (H : Hold4 w) :
    Calls Tryz.prog 22 #[.int .i64 p, .int .i64 q] w fun r w' => ∃ v, r = .returned v ∧ DAns w w' (patV p - patV q) v := by
  have r_k := heap_a1 w (.cells #[.bool false, .slice none 0 0, .int .i64 0] 27)
  have hb0 := bel_alloc w (.cells #[.bool false, .slice none 0 0, .int .i64 0] 27)
  have B1 := patV_bd pp
  have B2 := patV_bd pq
  go_enter Tryz.func22, Tryz.ntmps22
  go_wp2_with fail
  generalize w.alloc (.cells #[.bool false, .slice none 0 0, .int .i64 0] 27) = x0 at r_k hb0 ⊢
  have H := H.keeps hb0
  refine (of_ok pp H).mono ?_
  rintro _ y1 ⟨v, rfl, h1⟩
  obtain ⟨x_g, x_o, x_n, x_c, x_e, rfl⟩ := dans_shape h1
  have hw1 := h1.below
  have x_D := h1.num
  have H := H.keeps hw1
  have r_k := (hw1.block _ (Array.getElem?_eq_some_iff.1 r_k).1).trans r_k
  have hb1 := bel_trans hb0 hw1
  have r_k := heap_past (.cells #[.bool x_g, .slice x_o x_n x_c, .int .i64 x_e] 27) r_k
  have x_k := heap_a1 y1 (.cells #[.bool x_g, .slice x_o x_n x_c, .int .i64 x_e] 27)
  have x_D := x_D.keeps (bel_alloc y1 (.cells #[.bool x_g, .slice x_o x_n x_c, .int .i64 x_e] 27))
  have H := H.keeps (bel_alloc y1 (.cells #[.bool x_g, .slice x_o x_n x_c, .int .i64 x_e] 27))
  have hb2' := bel_trans hb1 (bel_alloc y1 (.cells #[.bool x_g, .slice x_o x_n x_c, .int .i64 x_e] 27))
  go_wp2_with fail
  generalize y1.alloc (.cells #[.bool x_g, .slice x_o x_n x_c, .int .i64 x_e] 27) = x2 at r_k x_k x_D H hb2' ⊢
  refine (of_ok pq H).mono ?_
  rintro _ y2 ⟨v, rfl, h2⟩
  obtain ⟨y_g, y_o, y_n, y_c, y_e, rfl⟩ := dans_shape h2
  have hw2 := h2.below
  have y_D := h2.num
  have H := H.keeps hw2
  have r_k := (hw2.block _ (Array.getElem?_eq_some_iff.1 r_k).1).trans r_k
  have x_k := (hw2.block _ (Array.getElem?_eq_some_iff.1 x_k).1).trans x_k
  have x_D := x_D.keeps hw2
  have hb2 := bel_trans hb2' hw2
  have r_k := heap_past (.cells #[.bool y_g, .slice y_o y_n y_c, .int .i64 y_e] 27) r_k
  have x_k := heap_past (.cells #[.bool y_g, .slice y_o y_n y_c, .int .i64 y_e] 27) x_k
  have y_k := heap_a1 y2 (.cells #[.bool y_g, .slice y_o y_n y_c, .int .i64 y_e] 27)
  have x_D := x_D.keeps (bel_alloc y2 (.cells #[.bool y_g, .slice y_o y_n y_c, .int .i64 y_e] 27))
  have y_D := y_D.keeps (bel_alloc y2 (.cells #[.bool y_g, .slice y_o y_n y_c, .int .i64 y_e] 27))
  have H := H.keeps (bel_alloc y2 (.cells #[.bool y_g, .slice y_o y_n y_c, .int .i64 y_e] 27))
  have hb3' := bel_trans hb2 (bel_alloc y2 (.cells #[.bool y_g, .slice y_o y_n y_c, .int .i64 y_e] 27))
  have f_x0 := blkC x_k 0 rfl
  have f_x1 := blkC x_k 1 rfl
  have f_x2 := blkC x_k 2 rfl
  go_wp2_with fail
  clear f_x0 f_x1 f_x2
  generalize y2.alloc (.cells #[.bool y_g, .slice y_o y_n y_c, .int .i64 y_e] 27) = x3 at r_k x_k y_k x_D y_D H hb3' ⊢
  have hs0 := (Array.getElem?_eq_some_iff.1 r_k).1
  refine (sub_B x_D y_D B1 B2 (by omega) H.tab).mono ?_
  rintro _ y3 ⟨v, rfl, h3⟩
  obtain ⟨n_g, n_o, n_n, n_c, n_e, rfl⟩ := dans_shape h3
  have hw3 := h3.below
  have n_D := h3.num
  have H := H.keeps hw3
  have r_k := (hw3.block _ (Array.getElem?_eq_some_iff.1 r_k).1).trans r_k
  have x_k := (hw3.block _ (Array.getElem?_eq_some_iff.1 x_k).1).trans x_k
  have x_D := x_D.keeps hw3
  have y_k := (hw3.block _ (Array.getElem?_eq_some_iff.1 y_k).1).trans y_k
  have y_D := y_D.keeps hw3
  have hb3 := bel_trans hb3' hw3
  have r_k := heap_past (.cells #[.bool n_g, .slice n_o n_n n_c, .int .i64 n_e] 27) r_k
  have k0 := blkC r_k 0 rfl
  have k1 := blkC r_k 1 rfl
  have k2 := blkC r_k 2 rfl
  have z0 := blkF r_k 0
  have z1 := blkF r_k 1
  have z2 := blkF r_k 2
  go_wp2
  refine bodyPost_ret (v := .agg #[.bool n_g, .slice n_o n_n n_c, .int .i64 n_e]) (by simp [results, Tryz.results22, go_sem, k0, k1, k2]) rfl ⟨_, rfl, ?_⟩
  exact dans_res3 (g := w.heap.size) (dans_past h3 _) (by assumption) (Nat.le_refl _) hs0 _ _ _
end Go.Proofs.YtelnilmjhdneoaaGreatDoor

/-
  Points: plain mathematics of coordinates: finite ones, their order, tame ones. No Go text in sight.
-/
namespace Go.Proofs.YtelnilmjhdneoaaGreatDoor.M
open Go Ieee
set_option linter.unusedSimpArgs false
set_option linter.unusedVariables false

theorem q_rg {b : Int} (h : rng b) : rng (rg b) ∧ 0 ≤ rg b := by unfold rng rg at *; split <;> omega
theorem q_cls {b : Int} (h : rng b) : cls (rg b) = cls b := by
  unfold rng at h; unfold cls rg fld frc
  by_cases h0 : b < 0
  · rw [if_pos h0, show (b + 9223372036854775808) / 4503599627370496 % 2048 = b / 4503599627370496 % 2048 from by omega, show (b + 9223372036854775808) % 4503599627370496 = b % 4503599627370496 from by omega]
  · rw [if_neg h0]
theorem q_wd {b : Int} (h : rng b) : wd b % 9223372036854775808 = wd (rg b) := by unfold rng rg wd at *; split <;> omega
theorem q_key {b : Int} (h : 0 ≤ b) : key b = b := by unfold key; rw [if_neg (by omega)]
theorem q_wdlt (b : Int) : wd b < 18446744073709551616 := by unfold wd; omega
/-- the sign bit left away, of an unsigned word -/
theorem q_abs {b : Int} (h : rng b) : (bits .andNot .u64 (wd b) 9223372036854775808).toNat = wd (rg b) := by
  have e := q_wd h
  have l := q_wdlt b
  rw [← e]
  show (IntKind.u64.wrap (((BitVec.ofInt 64 (wd b : Int) &&& ~~~ BitVec.ofInt 64 9223372036854775808).toNat : Nat) : Int)).toNat = _
  rw [BitVec.toNat_and, BitVec.toNat_not, ofInt64_toNat, ofInt64_toNat, show (2 ^ 64 - 1 - ((9223372036854775808 : Int) % 18446744073709551616).toNat) = 2 ^ 63 - 1 from by decide, Nat.and_two_pow_sub_one_eq_mod, IntKind.wrap_u64]
  omega
theorem q_fin {b : Int} (h : pok b = true) : ¬ cls b = 4 := by
  have := pparts h
  unfold cls; rw [if_neg this]; split
  · split <;> omega
  · omega
theorem q_lt {a b : Int} (ha : rng a) (hb : rng b) (h1 : ¬ cls a = 4) (h2 : ¬ cls b = 4) (h : key a < key b) : FloatKind.f64.format.order (wd a) (wd b) = some .lt := by rw [order64 ha hb h1 h2, compare_lt h]
theorem q_gt {a b : Int} (ha : rng a) (hb : rng b) (h1 : ¬ cls a = 4) (h2 : ¬ cls b = 4) (h : key b < key a) : FloatKind.f64.format.order (wd a) (wd b) = some .gt := by rw [order64 ha hb h1 h2, compare_gt h]
theorem q_eq {a b : Int} (ha : rng a) (hb : rng b) (h1 : ¬ cls a = 4) (h2 : ¬ cls b = 4) (h : key a = key b) : FloatKind.f64.format.order (wd a) (wd b) = some .eq := by rw [order64 ha hb h1 h2, compare_eq h]
/-- tame coordinates -/
def tame (b : Int) : Bool := decide (rg b = 0) || (decide (3931642474694443008 ≤ rg b) && decide (rg b < 5282722362905591808))
theorem tame_fld {b : Int} (h : rng b) : tame b = (decide (rg b = 0) || (decide (873 ≤ fld b) && decide (fld b < 1173))) := by
  obtain ⟨h0, h1⟩ := rg_parts h
  have h2 : 0 ≤ frc b ∧ frc b < 4503599627370496 := by unfold frc; omega
  unfold tame
  congr 1
  congr 1
  · apply decide_eq_decide.2; omega
  · apply decide_eq_decide.2; omega
theorem pok_rg' {b : Int} (h : rng b) : pok b = decide (rg b ≤ 9218868437227405311) := by
  obtain ⟨h0, h1⟩ := rg_parts h
  have h2 : 0 ≤ frc b ∧ frc b < 4503599627370496 := by unfold frc; omega
  have h3 : 0 ≤ fld b ∧ fld b < 2048 := by unfold fld; omega
  unfold pok
  by_cases e : fld b = 2047
  · simp [e]; omega
  · simp [e]; omega
end Go.Proofs.YtelnilmjhdneoaaGreatDoor.M
