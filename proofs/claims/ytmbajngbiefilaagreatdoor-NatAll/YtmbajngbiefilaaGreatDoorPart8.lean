/-
  Parts of the proof, one behind another.
-/
import Derived.Test.YtmbajngbiefilaaGreatDoorPart7
import Derived.Test.YtmbajngbiefilaaGreatDoorPart6
import Derived.Test.YtmbajngbiefilaaGreatDoorPart2
import Derived.Deep.LoopGhost
import Derived.Deep.RegionHeld3
import Derived.Test.YtmbajngbiefilaaGreatDoorPart5
import Derived.Test.YtmbajngbiefilaaGreatDoorPart4
/-
  Package nat: apply, divisor (Lehmer's way), Gcd, by contracts.
-/
namespace Go.Proofs.YtmbajngbiefilaaGreatDoor
open Go Go.RowKit Go.Proofs.YtmbajngbiefilaaGreatDoor.M
set_option linter.unusedSimpArgs false
set_option linter.unusedVariables false

/-- Both numbers, as the steps leave them. -/
theorem Sure.whole {x0 y0 x y fA fB nA nB : Int} {odd : Bool} (h : Sure x0 y0 x y fA fB nA nB odd) {A B S : Int} (hS : 0 < S) (hx : x0 = A / S) (hy : y0 = B / S) (hA0 : 0 ≤ A) (hlt : A < 1152921504606846976 * S) :
    0 < sgn odd * (nB * B - nA * A) ∧ sgn odd * (nB * B - nA * A) < sgn odd * (fA * A - fB * B) ∧ sgn odd * (fA * A - fB * B) ≤ A ∧ sgn odd * (nB * B - nA * A) < B ∧
      Int.gcd (sgn odd * (fA * A - fB * B)) (sgn odd * (nB * B - nA * A)) = Int.gcd A B ∧ fA < 1073741824 ∧ fB < 1073741824 ∧ nA < 1073741824 ∧ nB < 1073741824 := by
  obtain ⟨s, h1, h2, h3, h4, h5, h6, h7⟩ := h
  have eA : A = x0 * S + A % S := by rw [hx]; have := Int.mul_ediv_add_emod A S; rw [Int.mul_comm]; omega
  have eB : B = y0 * S + B % S := by rw [hy]; have := Int.mul_ediv_add_emod B S; rw [Int.mul_comm]; omega
  have w := s.whole hS (Int.emod_nonneg A (by omega)) (Int.emod_lt_of_pos A hS) (Int.emod_nonneg B (by omega)) (Int.emod_lt_of_pos B hS) h1 h2 h6 h7
  rw [← eA, ← eB] at w
  obtain ⟨w1, w2⟩ := w
  have hb := s.back_x
  have n1 := s.nB1
  have f0 := s.fB0
  have d := s.det
  have hsg := s.sgn
  -- the numbers before, by those behind
  have bA : A = nB * (sgn odd * (fA * A - fB * B)) + fB * (sgn odd * (nB * B - nA * A)) := by
    rcases hsg with e | e <;> rw [e] at d ⊢ <;> grind
  have bB : B = nA * (sgn odd * (fA * A - fB * B)) + fA * (sgn odd * (nB * B - nA * A)) := by
    rcases hsg with e | e <;> rw [e] at d ⊢ <;> grind
  generalize hP : sgn odd * (fA * A - fB * B) = X at *
  generalize hQ : sgn odd * (nB * B - nA * A) = Y at *
  have p1 : 1 * X ≤ nB * X := mul_le_r n1 (by omega)
  have p2 : 0 ≤ fB * Y := Int.mul_nonneg f0 (by omega)
  have p3 : 1 * X ≤ nA * X := mul_le_r h5 (by omega)
  have p4 : 0 ≤ fA * Y := Int.mul_nonneg s.fA0 (by omega)
  have x0lt : x0 < 1152921504606846976 := by rw [hx]; exact (Int.ediv_lt_iff_lt_mul hS).2 hlt
  have q1 : nB * nB ≤ nB * x := mul_le_l (by omega) (by omega)
  have q2 : 0 ≤ fB * y := Int.mul_nonneg f0 (by omega)
  have nlt : nB < 1073741824 := by
    rcases Int.lt_or_le nB 1073741824 with q | q
    · exact q
    · have : 1073741824 * 1073741824 ≤ nB * nB := Int.mul_le_mul q q (by omega) (by omega)
      omega
  refine ⟨w1, w2, by omega, by omega, ?_, by omega, by omega, by omega, nlt⟩
  refine gcd_comb (p := sgn odd * fA) (q := - (sgn odd * fB)) (r := - (sgn odd * nA)) (s := sgn odd * nB) (t := nB) (u := fB) (v := nA) (w := fA) ?_ ?_ bA bB
  · rw [← hP]; grind
  · rw [← hQ]; grind
/-- Two answers of apply. -/
def App (w w' : World) (X Y : Int) (v1 v2 : Value) : Prop := Ans w w' X v1 ∧ Ans w w' Y v2
theorem keep5 {w1 W W' : World} {g : Nat} {fA fB nA nB : Int} (h : W.cell? ⟨g, 0, none⟩ = some (.int .i64 fA) ∧ W.cell? ⟨g, 1, none⟩ = some (.int .i64 fB) ∧ W.cell? ⟨g, 2, none⟩ = some (.int .i64 nA) ∧ W.cell? ⟨g, 3, none⟩ = some (.int .i64 nB) ∧ Below w1.heap.size w1 W)
    (hb : Below W.heap.size W W') : W'.cell? ⟨g, 0, none⟩ = some (.int .i64 fA) ∧ W'.cell? ⟨g, 1, none⟩ = some (.int .i64 fB) ∧ W'.cell? ⟨g, 2, none⟩ = some (.int .i64 nA) ∧ W'.cell? ⟨g, 3, none⟩ = some (.int .i64 nB) ∧ Below w1.heap.size w1 W' := by
  obtain ⟨h0, h1, h2, h3, h4⟩ := h
  have hg := World.block_lt_of_cell? W _ h0
  exact ⟨(hb.cell (p := ⟨g, 0, none⟩) hg).trans h0, (hb.cell (p := ⟨g, 1, none⟩) hg).trans h1, (hb.cell (p := ⟨g, 2, none⟩) hg).trans h2, (hb.cell (p := ⟨g, 3, none⟩) hg).trans h3, bel_trans h4 hb⟩
/-- combine, told with what it leaves of the world. -/
theorem combine_b {W : World} {ao bo : Option Addr} {n m ca cb : Nat} {a b : Nat → Int} {x y V : Int} (ha : Row W ao n ca a) (hb : Row W bo m cb b) (da : Dig a n) (db : Dig b m) (hn : n ≤ 100000) (hm : m ≤ n)
    (hx : -1073741824 < x ∧ x < 1073741824) (hy : -1073741824 < y ∧ y < 1073741824) (hV : V = x * val a n + y * val b m) (h0 : 0 ≤ V) (h1 : V < P n) :
    Calls Tryz.prog 109 #[.slice ao n ca, .slice bo m cb, .int .i64 x, .int .i64 y] W fun e w' => ∃ v, e = .returned v ∧ Ans W w' V v ∧ Below W.heap.size W w' := by
  subst hV
  refine (combine_any ao bo n m ca cb a b x y W ha hb da db hn hm hx hy h0 h1).mono ?_
  rintro e w' ⟨v, rfl, h⟩
  exact ⟨v, rfl, h, h.below⟩
set_option maxHeartbeats 600000 in
theorem apply_false (ao bo : Option Addr) (n m ca cb : Nat) (a b : Nat → Int) (fA fB nA nB X Y : Int) (w : World) (ha : Row w ao n ca a) (hb : Row w bo m cb b) (da : Dig a n) (db : Dig b m) (hn : n ≤ 5000) (hm : m ≤ n)
    (h1 : 0 ≤ fA ∧ fA < 1073741824) (h2 : 0 ≤ fB ∧ fB < 1073741824) (h3 : 0 ≤ nA ∧ nA < 1073741824) (h4 : 0 ≤ nB ∧ nB < 1073741824)
    (eX : X = (fA) * val a n + (-fB) * val b m) (eY : Y = (-nA) * val a n + (nB) * val b m) (hX0 : 0 ≤ X) (hX1 : X < P n) (hY0 : 0 ≤ Y) (hY1 : Y < P n) :
    Calls Tryz.prog 96 #[.agg #[.int .i64 fA, .int .i64 fB, .int .i64 nA, .int .i64 nB, .bool false], .slice ao n ca, .slice bo m cb] w fun e w' => ∃ v1 v2, e = .returned (.tuple #[v1, v2]) ∧ App w w' X Y v1 v2 := by
  have EX : Hid (X = (fA) * val a n + (-fB) * val b m) := eX
  have EY : Hid (Y = (-nA) * val a n + (nB) * val b m) := eY
  have HX0 : Hid (0 ≤ X) := hX0
  have HX1 : Hid (X < P n) := hX1
  have HY0 : Hid (0 ≤ Y) := hY0
  have HY1 : Hid (Y < P n) := hY1
  clear eX eY hX0 hX1 hY0 hY1
  have hA1 := ha.alloc (.cells #[.int .i64 fA, .int .i64 fB, .int .i64 nA, .int .i64 nB, .bool false] 95)
  have hB1 := hb.alloc (.cells #[.int .i64 fA, .int .i64 fB, .int .i64 nA, .int .i64 nB, .bool false] 95)
  have hst := (StB.new (w := w) (fA := fA) (fB := fB) (nA := nA) (nB := nB) (odd := false)).cells
  have hbe := bel_alloc w (.cells #[.int .i64 fA, .int .i64 fB, .int .i64 nA, .int .i64 nB, .bool false] 95)
  have k1 : IntKind.i64.wrap 1 = 1 := by decide
  have k2 : IntKind.i64.wrap (-1) = -1 := by decide
  have q1 : IntKind.i64.wrap fA = fA := by rw [wrap_i64_eq]; omega
  have q2 : IntKind.i64.wrap fB = fB := by rw [wrap_i64_eq]; omega
  have q3 : IntKind.i64.wrap nA = nA := by rw [wrap_i64_eq]; omega
  have q4 : IntKind.i64.wrap nB = nB := by rw [wrap_i64_eq]; omega
  have r1 : IntKind.i64.wrap (-1 * fA) = -fA := by rw [wrap_i64_eq]; omega
  have r2 : IntKind.i64.wrap (-1 * fB) = -fB := by rw [wrap_i64_eq]; omega
  have r3 : IntKind.i64.wrap (-1 * nA) = -nA := by rw [wrap_i64_eq]; omega
  have r4 : IntKind.i64.wrap (-1 * nB) = -nB := by rw [wrap_i64_eq]; omega
  have s1 : IntKind.i64.wrap (-fA) = -fA := by rw [wrap_i64_eq]; omega
  have s2 : IntKind.i64.wrap (-fB) = -fB := by rw [wrap_i64_eq]; omega
  have s3 : IntKind.i64.wrap (-nA) = -nA := by rw [wrap_i64_eq]; omega
  have s4 : IntKind.i64.wrap (-nB) = -nB := by rw [wrap_i64_eq]; omega
  go_enter Tryz.func96, Tryz.ntmps96
  go_wp2_with fail
  generalize w.alloc (.cells #[.int .i64 fA, .int .i64 fB, .int .i64 nA, .int .i64 nB, .bool false] 95) = w1 at hA1 hB1 hst hbe ⊢
  obtain ⟨c0, c1, c2, c3, c4⟩ := hst
  have RA : ∀ W, Below w1.heap.size w1 W → Row W ao n ca a := fun W h => hA1.keeps h
  have RB : ∀ W, Below w1.heap.size w1 W → Row W bo m cb b := fun W h => hB1.keeps h
  have hb1 := bel_refl w1
  have C1 : ∀ W, Below w1.heap.size w1 W → Calls Tryz.prog 109 #[.slice ao n ca, .slice bo m cb, .int .i64 (fA), .int .i64 (-fB)] W fun e w' => ∃ v, e = .returned v ∧ Ans W w' X v ∧ Below W.heap.size W w' := fun W h => combine_b (RA W h) (RB W h) da db (by omega) hm (by omega) (by omega) EX.out HX0.out HX1.out
  have C2 : ∀ W, Below w1.heap.size w1 W → Calls Tryz.prog 109 #[.slice ao n ca, .slice bo m cb, .int .i64 (-nA), .int .i64 (nB)] W fun e w' => ∃ v, e = .returned v ∧ Ans W w' Y v ∧ Below W.heap.size W w' := fun W h => combine_b (RA W h) (RB W h) da db (by omega) hm (by omega) (by omega) EY.out HY0.out HY1.out
  go_region_held3 (fun W => W.cell? ⟨w.heap.size, 0, none⟩ = some (.int .i64 fA) ∧ W.cell? ⟨w.heap.size, 1, none⟩ = some (.int .i64 fB) ∧ W.cell? ⟨w.heap.size, 2, none⟩ = some (.int .i64 nA) ∧ W.cell? ⟨w.heap.size, 3, none⟩ = some (.int .i64 nB) ∧ Below w1.heap.size w1 W)
    (first | exact ⟨c0, c1, c2, c3, hb1.drew⟩ | exact keep5 (by assumption) (by assumption))
    (first | (go_at_call 109; have _t := hbv1; refine (C2 _ (bel_trans hb1.drew hbv1)).mono ?_; rintro e w3 ⟨v2, rfl, hv2, hbv2⟩) | (go_at_call 109; refine (C1 _ hb1.drew).mono ?_; rintro e w2 ⟨v1, rfl, hv1, hbv1⟩))
  go_wp2
  go_ret2
  have f1 := (hv1.from hb1.drew).from hbe
  exact ⟨_, _, rfl, f1.stays hbv2, hv2.from f1.below⟩
set_option maxHeartbeats 600000 in
theorem apply_true (ao bo : Option Addr) (n m ca cb : Nat) (a b : Nat → Int) (fA fB nA nB X Y : Int) (w : World) (ha : Row w ao n ca a) (hb : Row w bo m cb b) (da : Dig a n) (db : Dig b m) (hn : n ≤ 5000) (hm : m ≤ n)
    (h1 : 0 ≤ fA ∧ fA < 1073741824) (h2 : 0 ≤ fB ∧ fB < 1073741824) (h3 : 0 ≤ nA ∧ nA < 1073741824) (h4 : 0 ≤ nB ∧ nB < 1073741824)
    (eX : X = (-fA) * val a n + (fB) * val b m) (eY : Y = (nA) * val a n + (-nB) * val b m) (hX0 : 0 ≤ X) (hX1 : X < P n) (hY0 : 0 ≤ Y) (hY1 : Y < P n) :
    Calls Tryz.prog 96 #[.agg #[.int .i64 fA, .int .i64 fB, .int .i64 nA, .int .i64 nB, .bool true], .slice ao n ca, .slice bo m cb] w fun e w' => ∃ v1 v2, e = .returned (.tuple #[v1, v2]) ∧ App w w' X Y v1 v2 := by
  have EX : Hid (X = (-fA) * val a n + (fB) * val b m) := eX
  have EY : Hid (Y = (nA) * val a n + (-nB) * val b m) := eY
  have HX0 : Hid (0 ≤ X) := hX0
  have HX1 : Hid (X < P n) := hX1
  have HY0 : Hid (0 ≤ Y) := hY0
  have HY1 : Hid (Y < P n) := hY1
  clear eX eY hX0 hX1 hY0 hY1
  have hA1 := ha.alloc (.cells #[.int .i64 fA, .int .i64 fB, .int .i64 nA, .int .i64 nB, .bool true] 95)
  have hB1 := hb.alloc (.cells #[.int .i64 fA, .int .i64 fB, .int .i64 nA, .int .i64 nB, .bool true] 95)
  have hst := (StB.new (w := w) (fA := fA) (fB := fB) (nA := nA) (nB := nB) (odd := true)).cells
  have hbe := bel_alloc w (.cells #[.int .i64 fA, .int .i64 fB, .int .i64 nA, .int .i64 nB, .bool true] 95)
  have k1 : IntKind.i64.wrap 1 = 1 := by decide
  have k2 : IntKind.i64.wrap (-1) = -1 := by decide
  have q1 : IntKind.i64.wrap fA = fA := by rw [wrap_i64_eq]; omega
  have q2 : IntKind.i64.wrap fB = fB := by rw [wrap_i64_eq]; omega
  have q3 : IntKind.i64.wrap nA = nA := by rw [wrap_i64_eq]; omega
  have q4 : IntKind.i64.wrap nB = nB := by rw [wrap_i64_eq]; omega
  have r1 : IntKind.i64.wrap (-1 * fA) = -fA := by rw [wrap_i64_eq]; omega
  have r2 : IntKind.i64.wrap (-1 * fB) = -fB := by rw [wrap_i64_eq]; omega
  have r3 : IntKind.i64.wrap (-1 * nA) = -nA := by rw [wrap_i64_eq]; omega
  have r4 : IntKind.i64.wrap (-1 * nB) = -nB := by rw [wrap_i64_eq]; omega
  have s1 : IntKind.i64.wrap (-fA) = -fA := by rw [wrap_i64_eq]; omega
  have s2 : IntKind.i64.wrap (-fB) = -fB := by rw [wrap_i64_eq]; omega
  have s3 : IntKind.i64.wrap (-nA) = -nA := by rw [wrap_i64_eq]; omega
  have s4 : IntKind.i64.wrap (-nB) = -nB := by rw [wrap_i64_eq]; omega
  go_enter Tryz.func96, Tryz.ntmps96
  go_wp2_with fail
  generalize w.alloc (.cells #[.int .i64 fA, .int .i64 fB, .int .i64 nA, .int .i64 nB, .bool true] 95) = w1 at hA1 hB1 hst hbe ⊢
  obtain ⟨c0, c1, c2, c3, c4⟩ := hst
  have RA : ∀ W, Below w1.heap.size w1 W → Row W ao n ca a := fun W h => hA1.keeps h
  have RB : ∀ W, Below w1.heap.size w1 W → Row W bo m cb b := fun W h => hB1.keeps h
  have hb1 := bel_refl w1
  have C1 : ∀ W, Below w1.heap.size w1 W → Calls Tryz.prog 109 #[.slice ao n ca, .slice bo m cb, .int .i64 (-fA), .int .i64 (fB)] W fun e w' => ∃ v, e = .returned v ∧ Ans W w' X v ∧ Below W.heap.size W w' := fun W h => combine_b (RA W h) (RB W h) da db (by omega) hm (by omega) (by omega) EX.out HX0.out HX1.out
  have C2 : ∀ W, Below w1.heap.size w1 W → Calls Tryz.prog 109 #[.slice ao n ca, .slice bo m cb, .int .i64 (nA), .int .i64 (-nB)] W fun e w' => ∃ v, e = .returned v ∧ Ans W w' Y v ∧ Below W.heap.size W w' := fun W h => combine_b (RA W h) (RB W h) da db (by omega) hm (by omega) (by omega) EY.out HY0.out HY1.out
  go_region_held3 (fun W => W.cell? ⟨w.heap.size, 0, none⟩ = some (.int .i64 fA) ∧ W.cell? ⟨w.heap.size, 1, none⟩ = some (.int .i64 fB) ∧ W.cell? ⟨w.heap.size, 2, none⟩ = some (.int .i64 nA) ∧ W.cell? ⟨w.heap.size, 3, none⟩ = some (.int .i64 nB) ∧ Below w1.heap.size w1 W)
    (first | exact ⟨c0, c1, c2, c3, hb1.drew⟩ | exact keep5 (by assumption) (by assumption))
    (first | (go_at_call 109; have _t := hbv1; refine (C2 _ (bel_trans hb1.drew hbv1)).mono ?_; rintro e w3 ⟨v2, rfl, hv2, hbv2⟩) | (go_at_call 109; refine (C1 _ hb1.drew).mono ?_; rintro e w2 ⟨v1, rfl, hv1, hbv1⟩))
  go_wp2
  go_ret2
  have f1 := (hv1.from hb1.drew).from hbe
  exact ⟨_, _, rfl, f1.stays hbv2, hv2.from f1.below⟩
theorem apply_any (ao bo : Option Addr) (n m ca cb : Nat) (a b : Nat → Int) (fA fB nA nB : Int) (odd : Bool) (w : World) (ha : Row w ao n ca a) (hb : Row w bo m cb b) (da : Dig a n) (db : Dig b m) (hn : n ≤ 5000) (hm : m ≤ n)
    (h1 : 0 ≤ fA ∧ fA < 1073741824) (h2 : 0 ≤ fB ∧ fB < 1073741824) (h3 : 0 ≤ nA ∧ nA < 1073741824) (h4 : 0 ≤ nB ∧ nB < 1073741824)
    (hX0 : 0 ≤ sgn odd * (fA * val a n - fB * val b m)) (hX1 : sgn odd * (fA * val a n - fB * val b m) < P n) (hY0 : 0 ≤ sgn odd * (nB * val b m - nA * val a n)) (hY1 : sgn odd * (nB * val b m - nA * val a n) < P n) :
    Calls Tryz.prog 96 #[.agg #[.int .i64 fA, .int .i64 fB, .int .i64 nA, .int .i64 nB, .bool odd], .slice ao n ca, .slice bo m cb] w fun e w' => ∃ v1 v2, e = .returned (.tuple #[v1, v2]) ∧ App w w' (sgn odd * (fA * val a n - fB * val b m)) (sgn odd * (nB * val b m - nA * val a n)) v1 v2 := by
  cases odd with
  | false => exact apply_false ao bo n m ca cb a b fA fB nA nB _ _ w ha hb da db hn hm h1 h2 h3 h4 (by show 1 * _ = _; grind) (by show 1 * _ = _; grind) hX0 hX1 hY0 hY1
  | true => exact apply_true ao bo n m ca cb a b fA fB nA nB _ _ w ha hb da db hn hm h1 h2 h3 h4 (by show -1 * _ = _; grind) (by show -1 * _ = _; grind) hX0 hX1 hY0 hY1
end Go.Proofs.YtmbajngbiefilaaGreatDoor

/-
  Package nat: divisor (Lehmer's way), Gcd, by contracts.
-/
namespace Go.Proofs.YtmbajngbiefilaaGreatDoor
open Go Go.RowKit Go.Proofs.YtmbajngbiefilaaGreatDoor.M
set_option linter.unusedSimpArgs false
set_option linter.unusedVariables false

/-- Where Lehmer's rounds stand. -/
def GcdR (w0 : World) (G : Nat) (va vb : Value) (A B : Int) (wr : World) : Prop := Num wr va A ∧ Num wr vb B ∧ B ≤ A ∧ A < P 2000 ∧ Int.gcd A B = G ∧ Below w0.heap.size w0 wr
theorem gcd_mod {A B : Int} : Int.gcd B (A % B) = Int.gcd A B := by
  rw [Int.gcd_comm B, Int.emod_def, Int.mul_comm B, Int.gcd_sub_mul_right_left]
theorem GcdR.divided {w0 wr w' : World} {G : Nat} {va vb v1 v2 : Value} {A B : Int} (h : GcdR w0 G va vb A B wr) (hB : 0 < B) (hd : Ans2 wr w' (A / B) v1 (A % B) v2) : GcdR w0 G vb v2 B (A % B) w' ∧ A % B < B := by
  obtain ⟨h1, h2, h3, h4, h5, h6⟩ := h
  have hb := hd.1.below
  have m1 := Int.emod_lt_of_pos A hB
  exact ⟨⟨h2.keeps hb, hd.2.1.num, by omega, Int.lt_of_le_of_lt h3 h4, by rw [gcd_mod]; exact h5, bel_trans h6 hb⟩, m1⟩
theorem GcdR.stepped {w0 wr w' : World} {G : Nat} {va vb v1 v2 : Value} {A B X Y : Int} (h : GcdR w0 G va vb A B wr) (hd : App wr w' X Y v1 v2) (hY : Y < X) (hX : X ≤ A) (hG : Int.gcd X Y = Int.gcd A B) : GcdR w0 G v1 v2 X Y w' := by
  obtain ⟨h1, h2, h3, h4, h5, h6⟩ := h
  exact ⟨hd.1.num, hd.2.num, by omega, Int.lt_of_le_of_lt hX h4, by rw [hG]; exact h5, bel_trans h6 hd.1.below⟩
theorem GcdR.grow {w0 wr w' : World} {G : Nat} {va vb : Value} {A B : Int} (h : GcdR w0 G va vb A B wr) (hb : Below wr.heap.size wr w') : GcdR w0 G va vb A B w' := by
  obtain ⟨h1, h2, h3, h4, h5, h6⟩ := h
  exact ⟨h1.keeps hb, h2.keeps hb, h3, h4, h5, bel_trans h6 hb⟩
theorem GcdR.parts {w0 wr : World} {G : Nat} {va vb : Value} {A B : Int} (h : GcdR w0 G va vb A B wr) :
    ∃ ao n ca a bo m cb b, va = .slice ao n ca ∧ vb = .slice bo m cb ∧ Row wr ao n ca a ∧ Row wr bo m cb b ∧ Nrm a n ∧ Nrm b m ∧ val a n = A ∧ val b m = B ∧ n ≤ 2000 ∧ m ≤ n := by
  obtain ⟨h1, h2, h3, h4, h5, h6⟩ := h
  obtain ⟨ao, n, ca, rfl⟩ := h1.shape
  have hl := h1.len h4
  obtain ⟨ao', n', ca', a, e1, hR, h2', h3'⟩ := h1
  obtain ⟨bo, m, cb, b, rfl, kR, k2, k3⟩ := h2
  simp only [Value.slice.injEq] at e1
  obtain ⟨rfl, rfl, rfl⟩ := e1
  exact ⟨ao, n, ca, a, bo, m, cb, b, rfl, rfl, hR, kR, h2', k2, h3', k3, hl, nrm_le_len k2 h2'.1 (by omega)⟩
theorem small_num {w : World} {v : Value} {V : Int} (hn : Num w v V) (hV : V < P 2) :
    Calls Tryz.prog 51 #[v] w fun e w'' => e = .returned (.int .i64 V) ∧ w'' = w := by
  obtain ⟨ao, n, cap, rfl⟩ := hn.shape
  have hl := hn.len hV
  obtain ⟨ao', n', cap', d, e, hR, h2, rfl⟩ := hn
  simp only [Value.slice.injEq] at e
  obtain ⟨rfl, rfl, rfl⟩ := e
  have h3 : val d n < 1152921504606846976 := hV
  exact small_any _ _ _ _ _ hR h2.1 (by omega) (by omega)
set_option maxRecDepth 100000 in
set_option maxHeartbeats 2000000 in
/-- From the rounds' head on. -/
theorem divisor_ge (va vb : Value) (A B : Int) (G : Nat) (w : World) (hG : GcdR w G va vb A B w) (sh : ∃ ao n ca bo m cb, va = .slice ao n ca ∧ vb = .slice bo m cb) :
    Calls Tryz.prog 72 #[va, vb] w fun e w' => ∃ v, e = .returned v ∧ Ans w w' (G : Int) v := by
  obtain ⟨ao, n, ca, bo, m, cb, rfl, rfl⟩ := sh
  have ho : decide (ord A B < 0) = false := decide_eq_false (ord_ge hG.2.2.1)
  obtain ⟨ao', n', ca', a, bo', m', cb', b, e1, e2, hRa, hRb, na, nb, eA, eB, hl, hm⟩ := hG.parts
  simp only [Value.slice.injEq] at e1 e2
  obtain ⟨rfl, rfl, rfl⟩ := e1
  obtain ⟨rfl, rfl, rfl⟩ := e2
  have EA : Hid (val a n = A) := eA
  have EB : Hid (val b m = B) := eB
  clear eA eB
  go_enter Tryz.func72, Tryz.ntmps72
  go_wp2_with fail
  refine (compare_any _ _ _ _ _ _ _ _ _ hRa hRb na nb).mono ?_
  rintro e w1 ⟨rfl, b1⟩
  rw [EA.out, EB.out]
  have hG1 := hG.grow b1
  clear EA EB hRa hRb na nb hG hl hm b1
  go_wp2
  go_loopg [0, 1] (B.toNat) (fun g s0 s1 wr => ∃ A' B' : Int, GcdR w G s0 s1 A' B' wr ∧ g = B'.toNat)
  case atStart => exact ⟨A, B, hG1, rfl⟩
  case round =>
    clear hG1 ho
    obtain ⟨A', B', hR, hgk⟩ := hrel
    have HGK : Hid (gk = B'.toNat) := hgk
    clear hgk
    obtain ⟨ao', n', ca', a', bo', m', cb', b', rfl, rfl, hRa, hRb, na, nb, rfl, rfl, hl, hm⟩ := hR.parts
    by_cases h3 : 2 < m'
    · have HLE : Hid (val b' m' ≤ val a' n') := hR.2.2.1
      have hBp : 0 < val b' m' := val_pos nb (by omega)
      have hA0 : 0 ≤ val a' n' := val_nonneg na.1
      have HAn : Hid (val a' n' < P n') := val_lt na.1
      go_wp2_with fail
      refine (heads_any _ _ _ _ _ _ _ _ _ hRa hRb na nb (by omega) (by omega) (by omega) HLE.out).mono ?_
      rintro e w2 ⟨s, rfl, hlt, b2⟩
      have HLT : Hid (val a' n' < 1152921504606846976 * 2 ^ s) := hlt
      clear hlt
      have hy0 : 0 ≤ val b' m' / 2 ^ s := Int.ediv_nonneg (by omega) (Int.le_of_lt (two_pos s))
      have hyx : val b' m' / 2 ^ s ≤ val a' n' / 2 ^ s := Int.ediv_le_ediv (two_pos s) HLE.out
      have hx60 : val a' n' / 2 ^ s < 1152921504606846976 := (Int.ediv_lt_iff_lt_mul (two_pos s)).2 HLT.out
      go_wp2_with fail
      refine (simulate_any _ _ _ hy0 hyx hx60).mono ?_
      rintro e w3 ⟨v, rfl, ⟨x, y, fA, fB, nA, nB, odd, rfl, hS⟩, b3⟩
      have b23 := bel_trans b2 b3
      have hb4 := bel_trans b23 (bel_alloc w3 (.cells #[.int .i64 fA, .int .i64 fB, .int .i64 nA, .int .i64 nB, .bool odd] 95))
      rcases hS with ⟨rfl, rfl, rfl, rfl, rfl, rfl, rfl⟩ | hS
      · go_wp2_with fail
        refine (divide_any _ _ _ _ _ _ _ _ _ (hRa.keeps hb4) (hRb.keeps hb4) na nb (by omega) (by omega)).mono ?_
        rintro e w5 ⟨v1, v2, rfl, hd⟩
        obtain ⟨hG', hlt'⟩ := (hR.grow hb4).divided hBp hd
        have m0 := Int.emod_nonneg (val a' n') (show val b' m' ≠ 0 by omega)
        have HM : Hid ((val a' n' % val b' m').toNat < (val b' m').toNat) := by show _ < _; omega
        clear hlt' m0
        go_wp2
        go_roundg ((val a' n' % val b' m').toNat)
        case measure => rw [HGK.out]; exact HM.out
        case rel => exact ⟨_, _, hG', rfl⟩
      · have hfB : 1 ≤ fB := hS.2.2.2.2.1
        obtain ⟨y1, y2, y3, y4, y5, y6, y7, y8, y9⟩ := hS.whole (A := val a' n') (B := val b' m') (two_pos s) rfl rfl hA0 HLT.out
        have st := hS.1
        have f0 := st.fA0
        have n0 := st.nA0
        have n1 := st.nB1
        have hfz : (fB == 0) = false := by simp; omega
        have HX1 : Hid (sgn odd * (fA * val a' n' - fB * val b' m') < P n') := by show _ < _; have := HAn.out; omega
        have HY1 : Hid (sgn odd * (nB * val b' m' - nA * val a' n') < P n') := by show _ < _; have := HAn.out; omega
        have HG5 : Hid (Int.gcd (sgn odd * (fA * val a' n' - fB * val b' m')) (sgn odd * (nB * val b' m' - nA * val a' n')) = Int.gcd (val a' n') (val b' m')) := y5
        have HM : Hid ((sgn odd * (nB * val b' m' - nA * val a' n')).toNat < (val b' m').toNat) := by show _ < _; omega
        have HY : Hid (0 ≤ sgn odd * (nB * val b' m' - nA * val a' n') ∧ sgn odd * (nB * val b' m' - nA * val a' n') < sgn odd * (fA * val a' n' - fB * val b' m') ∧ sgn odd * (fA * val a' n' - fB * val b' m') ≤ val a' n') := ⟨by omega, y2, y3⟩
        clear y1 y2 y3 y4 y5 hS st
        go_wp2_with fail
        refine (apply_any _ _ _ _ _ _ a' b' fA fB nA nB odd _ (hRa.keeps hb4) (hRb.keeps hb4) na.1 nb.1 (by omega) hm ⟨f0, y6⟩ ⟨by omega, y7⟩ ⟨n0, y8⟩ ⟨by omega, y9⟩ (by have := HY.out; omega) HX1.out HY.out.1 HY1.out).mono ?_
        rintro e w5 ⟨v1, v2, rfl, hd⟩
        have hG' := (hR.grow hb4).stepped hd HY.out.2.1 HY.out.2.2 HG5.out
        go_wp2
        go_roundg ((sgn odd * (nB * val b' m' - nA * val a' n')).toNat)
        case measure => rw [HGK.out]; exact HM.out
        case rel => exact ⟨_, _, hG', rfl⟩
    · obtain ⟨_, _, HLE, _, HG, hbw⟩ := hR
      have HGG : Hid (Int.gcd (val a' n') (val b' m') = G) := HG
      clear HG
      by_cases h0 : m' = 0
      · subst h0
        have HV : Hid (val a' n' = (G : Int)) := by
          show _ = _
          rw [← HGG.out, show val b' 0 = 0 from rfl, Int.gcd_zero_right]
          have := val_nonneg na.1
          omega
        go_wp2_with fail
        refine (clone_any _ _ _ _ _ hRa (by omega)).mono ?_
        rintro e w2 ⟨v, rfl, hO, b2⟩
        go_wp2
        go_ret
        exact ⟨_, rfl, n', a', hO.lower hbw.size, na, HV.out, bel_trans hbw b2⟩
      · have e0 : ((m' : Int) == 0) = false := by simp; omega
        have hBp : 0 < val b' m' := val_pos nb (by omega)
        have HB2 : Hid (val b' m' < P 2) := by
          have h1 := val_lt nb.1
          have h2 := P_le (show m' ≤ 2 by omega)
          exact Int.lt_of_lt_of_le h1 h2
        have HB60 : Hid (val b' m' < 1152921504606846976) := HB2
        go_wp2_with fail
        refine (divide_any _ _ _ _ _ _ _ _ _ hRa hRb na nb (by omega) (by omega)).mono ?_
        rintro e w2 ⟨v1, v2, rfl, hd1, hd2, _⟩
        have b2 := hd1.below
        have m1 := Int.emod_lt_of_pos (val a' n') hBp
        have m0 := Int.emod_nonneg (val a' n') (show val b' m' ≠ 0 by omega)
        have HR2 : Hid (val a' n' % val b' m' < P 2) := Int.lt_trans m1 HB2.out
        have nbb : Num w2 (.slice bo' m' cb') (val b' m') := ⟨_, _, _, _, rfl, hRb.keeps b2, nb, rfl⟩
        go_wp2_with fail
        refine (small_num nbb HB2.out).mono ?_
        rintro e w3 ⟨rfl, rfl⟩
        go_wp2_with fail
        refine (small_num hd2.num HR2.out).mono ?_
        rintro e w4 ⟨rfl, rfl⟩
        have hbw2 := bel_trans hbw b2
        have HG0 : Hid (Int.gcd (val b' m') (val a' n' % val b' m') = G) := by show _ = _; rw [gcd_mod]; exact HGG.out
        clear hd1 hd2 nbb
        go_wp2
        go_loopw [10, 11] (fun s0 s1 wr => ∃ x y : Int, s0 = .int .i64 x ∧ s1 = .int .i64 y ∧ 0 ≤ x ∧ 0 ≤ y ∧ x < 1152921504606846976 ∧ y < 1152921504606846976 ∧ Hid (Int.gcd x y = G) ∧ Below w.heap.size w wr) (fun _ s1 _ => (intOf s1).toNat)
        case atStart => exact ⟨_, _, rfl, rfl, by omega, m0, HB60.out, Int.lt_trans m1 HB60.out, HG0, hbw2⟩
        case round =>
          obtain ⟨x, y, rfl, rfl, hx, hy, hx1, hy1, HXY, hbx⟩ := hrel
          by_cases hy0 : y = 0
          · subst hy0
            have HX : Hid (x = (G : Int)) := by show _ = _; rw [← HXY.out, Int.gcd_zero_right]; omega
            go_wp2_with fail
            refine (digits_nat x _ hx (by omega)).mono ?_
            rintro e w5 ⟨v, rfl, hv⟩
            go_wp2
            go_ret
            exact ⟨_, rfl, by rw [← HX.out]; exact hv.from hbx⟩
          · have hyz : (y == 0) = false := by simp; omega
            have r1 := Int.emod_lt_of_pos x (show 0 < y by omega)
            have r0 := Int.emod_nonneg x (show y ≠ 0 by omega)
            go_wp2
            go_quiet (fail)
            go_wp2
            go_roundw
            case rel => exact ⟨y, x % y, rfl, rfl, hy, r0, hy1, by omega, by show _ = _; rw [gcd_mod]; exact HXY.out, bDrewN hbx _⟩
            case measure => simp [intOf]; omega
set_option maxRecDepth 100000 in
set_option maxHeartbeats 2000000 in
/-- The same, the two exchanged first. -/
theorem divisor_lt (va vb : Value) (A B : Int) (G : Nat) (w : World) (hG : GcdR w G va vb A B w) (hlt : B < A) (sh : ∃ ao n ca bo m cb, va = .slice ao n ca ∧ vb = .slice bo m cb) :
    Calls Tryz.prog 72 #[vb, va] w fun e w' => ∃ v, e = .returned v ∧ Ans w w' (G : Int) v := by
  obtain ⟨ao, n, ca, bo, m, cb, rfl, rfl⟩ := sh
  have ho : decide (ord B A < 0) = true := decide_eq_true (by rw [ord_lt hlt]; decide)
  obtain ⟨ao', n', ca', a, bo', m', cb', b, e1, e2, hRa, hRb, na, nb, eA, eB, hl, hm⟩ := hG.parts
  simp only [Value.slice.injEq] at e1 e2
  obtain ⟨rfl, rfl, rfl⟩ := e1
  obtain ⟨rfl, rfl, rfl⟩ := e2
  have EA : Hid (val a n = A) := eA
  have EB : Hid (val b m = B) := eB
  clear eA eB hlt
  go_enter Tryz.func72, Tryz.ntmps72
  go_wp2_with fail
  refine (compare_any _ _ _ _ _ _ _ _ _ hRb hRa nb na).mono ?_
  rintro e w1 ⟨rfl, b1⟩
  rw [EA.out, EB.out]
  have hG1 := hG.grow b1
  clear EA EB hRa hRb na nb hG hl hm b1
  go_wp2
  go_loopg [0, 1] (B.toNat) (fun g s0 s1 wr => ∃ A' B' : Int, GcdR w G s0 s1 A' B' wr ∧ g = B'.toNat)
  case atStart => exact ⟨A, B, hG1, rfl⟩
  case round =>
    clear hG1 ho
    obtain ⟨A', B', hR, hgk⟩ := hrel
    have HGK : Hid (gk = B'.toNat) := hgk
    clear hgk
    obtain ⟨ao', n', ca', a', bo', m', cb', b', rfl, rfl, hRa, hRb, na, nb, rfl, rfl, hl, hm⟩ := hR.parts
    by_cases h3 : 2 < m'
    · have HLE : Hid (val b' m' ≤ val a' n') := hR.2.2.1
      have hBp : 0 < val b' m' := val_pos nb (by omega)
      have hA0 : 0 ≤ val a' n' := val_nonneg na.1
      have HAn : Hid (val a' n' < P n') := val_lt na.1
      go_wp2_with fail
      refine (heads_any _ _ _ _ _ _ _ _ _ hRa hRb na nb (by omega) (by omega) (by omega) HLE.out).mono ?_
      rintro e w2 ⟨s, rfl, hlt, b2⟩
      have HLT : Hid (val a' n' < 1152921504606846976 * 2 ^ s) := hlt
      clear hlt
      have hy0 : 0 ≤ val b' m' / 2 ^ s := Int.ediv_nonneg (by omega) (Int.le_of_lt (two_pos s))
      have hyx : val b' m' / 2 ^ s ≤ val a' n' / 2 ^ s := Int.ediv_le_ediv (two_pos s) HLE.out
      have hx60 : val a' n' / 2 ^ s < 1152921504606846976 := (Int.ediv_lt_iff_lt_mul (two_pos s)).2 HLT.out
      go_wp2_with fail
      refine (simulate_any _ _ _ hy0 hyx hx60).mono ?_
      rintro e w3 ⟨v, rfl, ⟨x, y, fA, fB, nA, nB, odd, rfl, hS⟩, b3⟩
      have b23 := bel_trans b2 b3
      have hb4 := bel_trans b23 (bel_alloc w3 (.cells #[.int .i64 fA, .int .i64 fB, .int .i64 nA, .int .i64 nB, .bool odd] 95))
      rcases hS with ⟨rfl, rfl, rfl, rfl, rfl, rfl, rfl⟩ | hS
      · go_wp2_with fail
        refine (divide_any _ _ _ _ _ _ _ _ _ (hRa.keeps hb4) (hRb.keeps hb4) na nb (by omega) (by omega)).mono ?_
        rintro e w5 ⟨v1, v2, rfl, hd⟩
        obtain ⟨hG', hlt'⟩ := (hR.grow hb4).divided hBp hd
        have m0 := Int.emod_nonneg (val a' n') (show val b' m' ≠ 0 by omega)
        have HM : Hid ((val a' n' % val b' m').toNat < (val b' m').toNat) := by show _ < _; omega
        clear hlt' m0
        go_wp2
        go_roundg ((val a' n' % val b' m').toNat)
        case measure => rw [HGK.out]; exact HM.out
        case rel => exact ⟨_, _, hG', rfl⟩
      · have hfB : 1 ≤ fB := hS.2.2.2.2.1
        obtain ⟨y1, y2, y3, y4, y5, y6, y7, y8, y9⟩ := hS.whole (A := val a' n') (B := val b' m') (two_pos s) rfl rfl hA0 HLT.out
        have st := hS.1
        have f0 := st.fA0
        have n0 := st.nA0
        have n1 := st.nB1
        have hfz : (fB == 0) = false := by simp; omega
        have HX1 : Hid (sgn odd * (fA * val a' n' - fB * val b' m') < P n') := by show _ < _; have := HAn.out; omega
        have HY1 : Hid (sgn odd * (nB * val b' m' - nA * val a' n') < P n') := by show _ < _; have := HAn.out; omega
        have HG5 : Hid (Int.gcd (sgn odd * (fA * val a' n' - fB * val b' m')) (sgn odd * (nB * val b' m' - nA * val a' n')) = Int.gcd (val a' n') (val b' m')) := y5
        have HM : Hid ((sgn odd * (nB * val b' m' - nA * val a' n')).toNat < (val b' m').toNat) := by show _ < _; omega
        have HY : Hid (0 ≤ sgn odd * (nB * val b' m' - nA * val a' n') ∧ sgn odd * (nB * val b' m' - nA * val a' n') < sgn odd * (fA * val a' n' - fB * val b' m') ∧ sgn odd * (fA * val a' n' - fB * val b' m') ≤ val a' n') := ⟨by omega, y2, y3⟩
        clear y1 y2 y3 y4 y5 hS st
        go_wp2_with fail
        refine (apply_any _ _ _ _ _ _ a' b' fA fB nA nB odd _ (hRa.keeps hb4) (hRb.keeps hb4) na.1 nb.1 (by omega) hm ⟨f0, y6⟩ ⟨by omega, y7⟩ ⟨n0, y8⟩ ⟨by omega, y9⟩ (by have := HY.out; omega) HX1.out HY.out.1 HY1.out).mono ?_
        rintro e w5 ⟨v1, v2, rfl, hd⟩
        have hG' := (hR.grow hb4).stepped hd HY.out.2.1 HY.out.2.2 HG5.out
        go_wp2
        go_roundg ((sgn odd * (nB * val b' m' - nA * val a' n')).toNat)
        case measure => rw [HGK.out]; exact HM.out
        case rel => exact ⟨_, _, hG', rfl⟩
    · obtain ⟨_, _, HLE, _, HG, hbw⟩ := hR
      have HGG : Hid (Int.gcd (val a' n') (val b' m') = G) := HG
      clear HG
      by_cases h0 : m' = 0
      · subst h0
        have HV : Hid (val a' n' = (G : Int)) := by
          show _ = _
          rw [← HGG.out, show val b' 0 = 0 from rfl, Int.gcd_zero_right]
          have := val_nonneg na.1
          omega
        go_wp2_with fail
        refine (clone_any _ _ _ _ _ hRa (by omega)).mono ?_
        rintro e w2 ⟨v, rfl, hO, b2⟩
        go_wp2
        go_ret
        exact ⟨_, rfl, n', a', hO.lower hbw.size, na, HV.out, bel_trans hbw b2⟩
      · have e0 : ((m' : Int) == 0) = false := by simp; omega
        have hBp : 0 < val b' m' := val_pos nb (by omega)
        have HB2 : Hid (val b' m' < P 2) := by
          have h1 := val_lt nb.1
          have h2 := P_le (show m' ≤ 2 by omega)
          exact Int.lt_of_lt_of_le h1 h2
        have HB60 : Hid (val b' m' < 1152921504606846976) := HB2
        go_wp2_with fail
        refine (divide_any _ _ _ _ _ _ _ _ _ hRa hRb na nb (by omega) (by omega)).mono ?_
        rintro e w2 ⟨v1, v2, rfl, hd1, hd2, _⟩
        have b2 := hd1.below
        have m1 := Int.emod_lt_of_pos (val a' n') hBp
        have m0 := Int.emod_nonneg (val a' n') (show val b' m' ≠ 0 by omega)
        have HR2 : Hid (val a' n' % val b' m' < P 2) := Int.lt_trans m1 HB2.out
        have nbb : Num w2 (.slice bo' m' cb') (val b' m') := ⟨_, _, _, _, rfl, hRb.keeps b2, nb, rfl⟩
        go_wp2_with fail
        refine (small_num nbb HB2.out).mono ?_
        rintro e w3 ⟨rfl, rfl⟩
        go_wp2_with fail
        refine (small_num hd2.num HR2.out).mono ?_
        rintro e w4 ⟨rfl, rfl⟩
        have hbw2 := bel_trans hbw b2
        have HG0 : Hid (Int.gcd (val b' m') (val a' n' % val b' m') = G) := by show _ = _; rw [gcd_mod]; exact HGG.out
        clear hd1 hd2 nbb
        go_wp2
        go_loopw [10, 11] (fun s0 s1 wr => ∃ x y : Int, s0 = .int .i64 x ∧ s1 = .int .i64 y ∧ 0 ≤ x ∧ 0 ≤ y ∧ x < 1152921504606846976 ∧ y < 1152921504606846976 ∧ Hid (Int.gcd x y = G) ∧ Below w.heap.size w wr) (fun _ s1 _ => (intOf s1).toNat)
        case atStart => exact ⟨_, _, rfl, rfl, by omega, m0, HB60.out, Int.lt_trans m1 HB60.out, HG0, hbw2⟩
        case round =>
          obtain ⟨x, y, rfl, rfl, hx, hy, hx1, hy1, HXY, hbx⟩ := hrel
          by_cases hy0 : y = 0
          · subst hy0
            have HX : Hid (x = (G : Int)) := by show _ = _; rw [← HXY.out, Int.gcd_zero_right]; omega
            go_wp2_with fail
            refine (digits_nat x _ hx (by omega)).mono ?_
            rintro e w5 ⟨v, rfl, hv⟩
            go_wp2
            go_ret
            exact ⟨_, rfl, by rw [← HX.out]; exact hv.from hbx⟩
          · have hyz : (y == 0) = false := by simp; omega
            have r1 := Int.emod_lt_of_pos x (show 0 < y by omega)
            have r0 := Int.emod_nonneg x (show y ≠ 0 by omega)
            go_wp2
            go_quiet (fail)
            go_wp2
            go_roundw
            case rel => exact ⟨y, x % y, rfl, rfl, hy, r0, hy1, by omega, by show _ = _; rw [gcd_mod]; exact HXY.out, bDrewN hbx _⟩
            case measure => simp [intOf]; omega
theorem divisor_num {w : World} {x y : Value} {A B : Int} (hx : Num w x A) (hy : Num w y B) (hA : A < P 2000) (hB : B < P 2000) :
    Calls Tryz.prog 72 #[x, y] w fun e w' => ∃ v, e = .returned v ∧ Ans w w' (Int.gcd A B : Int) v := by
  obtain ⟨ao, n, ca, e1⟩ := hx.shape
  obtain ⟨bo, m, cb, e2⟩ := hy.shape
  by_cases h : B ≤ A
  · exact divisor_ge x y A B (Int.gcd A B) w ⟨hx, hy, h, hA, rfl, bel_refl _⟩ ⟨ao, n, ca, bo, m, cb, e1, e2⟩
  · exact divisor_lt y x B A (Int.gcd A B) w ⟨hy, hx, by omega, hB, Int.gcd_comm _ _, bel_refl _⟩ (by omega) ⟨bo, m, cb, ao, n, ca, e2, e1⟩
set_option maxRecDepth 100000 in
set_option maxHeartbeats 400000 in
theorem gcd_num {w : World} {x y : Value} {A B : Int} (hx : Num w x A) (hy : Num w y B) (hA : A < P 2000) (hB : B < P 2000) :
    Calls Tryz.prog 35 #[x, y] w fun e w' => ∃ v, e = .returned (.tuple #[v, .int .i64 0]) ∧ Ans w w' (Int.gcd A B : Int) v := by
  have hD := fun (W : World) (h1 : Num W x A) (h2 : Num W y B) => divisor_num h1 h2 hA hB
  have hV1 := fun (W : World) (h1 : Num W x A) => valid_num h1 hA
  have hV2 := fun (W : World) (h1 : Num W y B) => valid_num h1 hB
  clear hA hB
  obtain ⟨ao, n, ca, rfl⟩ := hx.shape
  obtain ⟨bo, m, cb, rfl⟩ := hy.shape
  go_enter Tryz.func35, Tryz.ntmps35
  go_wp2_with fail
  refine (hV1 _ hx).mono ?_
  rintro e w' ⟨rfl, rfl⟩
  go_wp2_with fail
  refine (hV2 _ hy).mono ?_
  rintro e w' ⟨rfl, rfl⟩
  go_wp2_with fail
  refine (hD _ hx hy).mono ?_
  rintro e w1 ⟨v, rfl, hv⟩
  go_wp2
  go_ret2
  exact ⟨_, rfl, hv⟩
end Go.Proofs.YtmbajngbiefilaaGreatDoor

/-
  The document's own Div (bit by bit) and Gcd, by contracts over the same values.
-/
namespace Go.Proofs.YtmbajngbiefilaaGreatDoor
open Go Go.RowKit Go.Proofs.YtmbajngbiefilaaGreatDoor.M
set_option linter.unusedSimpArgs false
set_option linter.unusedVariables false

/-- A copy. -/
theorem cat0 (d e : Nat → Int) : ∀ i, cat d 0 e i = e i := fun i => by simp [cat]
theorem blen_two {A B : Int} (hA : 0 < A) (hB : 0 < B) (h : blen B ≤ blen A) : A / 2 ^ (blen A - blen B) < 2 * B := by
  have h1 := blen_lt A
  obtain ⟨h2, h3⟩ := blen_pos hB
  refine (Int.ediv_lt_iff_lt_mul (two_pos _)).2 (Int.lt_of_lt_of_le h1 ?_)
  obtain ⟨j, hj⟩ : ∃ j, blen B = j + 1 := ⟨blen B - 1, by omega⟩
  have e : blen A = (blen A - blen B) + (j + 1) := by omega
  rw [hj, Nat.add_sub_cancel] at h3
  calc (2 : Int) ^ blen A = 2 ^ (j + 1) * 2 ^ (blen A - blen B) := by rw [← Int.pow_add]; congr 1; omega
    _ ≤ 2 * B * 2 ^ (blen A - blen B) := Int.mul_le_mul_of_nonneg_right (by rw [Int.pow_succ]; omega) (Int.le_of_lt (two_pos _))
set_option maxRecDepth 100000 in
set_option maxHeartbeats 1000000 in
theorem rdiv_any (ao bo : Option Addr) (n m ca cb : Nat) (a b : Nat → Int) (w : World) (ha : Row w ao n ca a) (hb : Row w bo m cb b) (na : Nrm a n) (nb : Nrm b m) (hn : n ≤ 5000) (hm : m ≤ 5000) (hm0 : 0 < m) :
    Calls Tryz.prog 43 #[.slice ao n ca, .slice bo m cb] w fun e w' => ∃ v1 v2, e = .returned (.tuple #[v1, v2]) ∧ Ans2 w w' (val a n / val b m) v1 (val a n % val b m) v2 := by
  have hla := ha.le
  have hma := ha.max
  have hlb := hb.le
  have hmb := hb.max
  have HNA : Hid (Nrm a n) := na
  have HNB : Hid (Nrm b m) := nb
  have HA0 : Hid (0 ≤ val a n) := val_nonneg na.1
  have HBP : Hid (0 < val b m) := val_pos nb hm0
  have HRA : Hid (Row w ao n ca a) := ha
  have HRB : Hid (Row w bo m cb b) := hb
  have hA1 : blen (val a n) ≤ 30 * n := blen_le (by rw [← P_two]; exact val_lt na.1)
  have hB1 : blen (val b m) ≤ 30 * m := blen_le (by rw [← P_two]; exact val_lt nb.1)
  have hB2 : 1 ≤ blen (val b m) := (blen_pos HBP.out).1
  obtain ⟨LA, hLA⟩ : ∃ LA, LA = blen (val a n) := ⟨_, rfl⟩
  obtain ⟨LB, hLB⟩ : ∃ LB, LB = blen (val b m) := ⟨_, rfl⟩
  have HLA : Hid (LA = blen (val a n)) := hLA
  have HLB : Hid (LB = blen (val b m)) := hLB
  have HBA : ∀ W : World, Row W ao n ca a → Calls Tryz.prog 26 #[.slice ao n ca] W fun e w' => e = .returned (.int .i64 LA) ∧ w' = W := fun W hW => by rw [hLA]; exact rbits_any _ _ _ _ _ hW na (by omega)
  have HBB : ∀ W : World, Row W bo m cb b → Calls Tryz.prog 26 #[.slice bo m cb] W fun e w' => e = .returned (.int .i64 LB) ∧ w' = W := fun W hW => by rw [hLB]; exact rbits_any _ _ _ _ _ hW nb (by omega)
  rw [← hLA] at hA1
  rw [← hLB] at hB1 hB2
  clear hLA hLB na nb ha hb
  by_cases hlt : LA < LB
  · have HLT : Hid (val a n < val b m) := by
      show _ < _
      have h1 := blen_lt (val a n)
      have h2 := (blen_pos HBP.out).2
      rw [← HLA.out] at h1
      rw [← HLB.out] at h2
      exact Int.lt_of_lt_of_le (Int.lt_of_lt_of_le h1 (two_le (by omega))) h2
    go_enter Tryz.func43, Tryz.ntmps43
    go_wp2_with fail
    refine (HBA _ HRA.out).mono ?_
    rintro e w' ⟨rfl, hw⟩
    replace hw := hw.symm
    subst hw
    go_wp2_with fail
    refine (HBB _ HRB.out).mono ?_
    rintro e w' ⟨rfl, hw⟩
    replace hw := hw.symm
    subst hw
    go_wp2_with (at_builtin; refine wpList_app rfl _ _ rfl w.heap.size _ 0 a rfl (Out.nil _ _ _) _ n ca a rfl HRA.out (by omega) (Nat.le_refl _) ?_; intro v1 w1 hO1 hg1)
    go_ret2
    have hb1 : Below w.heap.size w w1 := grown_below hg1
    rw [Nat.zero_add] at hO1
    refine ⟨_, _, rfl, ?_, ?_, fun k hk => ?_⟩
    · rw [Int.ediv_eq_zero_of_lt HA0.out HLT.out]; exact Ans.nil hb1
    · rw [Int.emod_eq_of_lt HA0.out HLT.out]
      exact ⟨n, a, hO1.congr fun i hi => cat0 _ _ i, HNA.out, rfl, hb1⟩
    · simp [Value.ownBlock] at hk
  · obtain ⟨K, hK⟩ : ∃ K, LA = LB + K := ⟨LA - LB, by omega⟩
    have eK : (LA : Int) - LB = K := by omega
    have hK1 : LA ≤ LB + K := by omega
    have hK3 : LB + K ≤ LA := by omega
    clear hK
    have HK2 : Hid (val a n / 2 ^ K < 2 * val b m) := by
      show _ < _
      have hp : 0 < val a n := by
        rcases Int.lt_or_eq_of_le HA0.out with h | h
        · exact h
        · have e1 := HLA.out
          rw [← h, blen_zero] at e1
          omega
      have h1 := blen_two hp HBP.out (by rw [← HLA.out, ← HLB.out]; omega)
      rw [← HLA.out, ← HLB.out, show LA - LB = K by omega] at h1
      exact h1
    have hKn : K < 30 * n := by omega
    have hK2 : K ≤ 200000 := by omega
    clear hlt
    go_enter Tryz.func43, Tryz.ntmps43
    go_wp2_with fail
    refine (HBA _ HRA.out).mono ?_
    rintro e w' ⟨rfl, hw⟩
    replace hw := hw.symm
    subst hw
    go_wp2_with fail
    refine (HBB _ HRB.out).mono ?_
    rintro e w' ⟨rfl, hw⟩
    replace hw := hw.symm
    subst hw
    go_wp2_with (at_make; refine wpList_mk rfl _ _ rfl _ _ n rfl rfl (by omega) (by omega) (by omega) ?_; intro w1 hB1 hb1)
    have HB1 : Hid (Below w.heap.size w w1) := hb1
    have HBk : Hid (Blk w1 w.heap.size n (fun _ => 0)) := hB1
    clear hb1 hB1
    refine (rshr_any _ _ _ K _ _ (HRA.out.keeps HB1.out) HNA.out.1 (by omega) (by omega)).mono ?_
    rintro e w2 ⟨v0, rfl, hA0⟩
    have HS0 : Hid (∃ t d, DivS w w2 n (val a n) (val b m) K v0 (fun _ => 0) t d 0 (val a n / 2 ^ K) 2) := by
      obtain ⟨t, d, hO, hN, hv, hb⟩ := hA0
      have hsz := HBk.out.lt
      exact ⟨t, d, HBk.out.keeps hb, zero_dig _, hO.lower (by omega), hN, hv, by omega, HK2.out, by rw [val_zeros (Nat.zero_le n) (fun _ _ _ => rfl)]; simp [val], HB1.out.trans (hb.mono HB1.out.size)⟩
    obtain ⟨o0, n0, c0, rfl⟩ := hA0.num.shape
    clear hA0
    go_wp2
    go_loopw [8, 9] (fun r i wr => ∃ (I : Nat) (qd : Nat → Int) (t : Nat) (d : Nat → Int) (Q R : Int), i = .int .i64 I ∧ I ≤ K ∧ Hid (DivS w wr n (val a n) (val b m) I r qd t d Q R 2)) (fun _ i _ => (intOf i).toNat)
    case atStart =>
      obtain ⟨t, d, h⟩ := HS0.out
      exact ⟨K, _, t, d, _, _, rfl, Nat.le_refl _, h⟩
    case round =>
      obtain ⟨I, qd, t, d, Q, R, rfl, hIK, HS⟩ := hrel
      clear HS0
      obtain ⟨q, p, hI, hp⟩ : ∃ q p : Nat, I = 30 * q + p ∧ p < 30 := ⟨I / 30, I % 30, by omega, by omega⟩
      have hqn : q < n := by omega
      have e1 : (I : Int) / 30 = q := by omega
      have e2 : (I : Int) % 30 = p := by omega
      have HI : Hid (I = 30 * q + p) := hI
      clear hI
      obtain ⟨ro, rc, rfl, hRr⟩ := HS.out.out.row
      have HBw : Hid (Below w.heap.size w wr) := HS.out.below
      have HT : Hid (t ≤ 5001) := by
        have h1 := hRr.num0 HS.out.nrm
        have h2 := HS.out.vr
        have h3 := HS.out.lt
        have h4 := val_lt HNB.out.1
        have h5 : (2 : Int) * P m ≤ P (m + 1) := by rw [P_succ]; have := P_pos m; omega
        refine Nat.le_trans (h1.len (k := m + 1) (by rw [h2]; omega)) (by omega)
      have htt := HT.out
      have hrl := hRr.le
      have hrm := hRr.max
      by_cases hR : val b m ≤ R
      · have ho : decide (0 ≤ ord (val d t) (val b m)) = true := decide_eq_true (by rw [HS.out.vr]; have := ord_ge hR; omega)
        have HR : Hid (val b m ≤ val d t) := by show _ ≤ _; rw [HS.out.vr]; exact hR
        clear hR
        go_wp2_with fail
        refine (rcmp_any _ _ _ _ _ _ _ _ _ hRr (HRB.out.keeps HBw.out) HS.out.nrm HNB.out).mono ?_
        rintro e w3 ⟨rfl, hb3⟩
        have HS3 : Hid (DivS w w3 n (val a n) (val b m) I (.slice ro t rc) qd t d Q R 2) := HS.out.keeps hb3
        replace hRr := hRr.keeps hb3
        replace HBw : Hid (Below w.heap.size w w3) := HS3.out.below
        clear HS hb3
        go_wp2_with fail
        refine (rsub_any _ _ _ _ _ _ _ _ _ hRr (HRB.out.keeps HBw.out) HS3.out.nrm HNB.out (by omega) HR.out).mono ?_
        rintro e w4 ⟨v4, rfl, hA4⟩
        have hb4 := hA4.below
        have HA4 : Hid (Ans w3 w4 (R - val b m) v4) := by rw [HS3.out.vr] at hA4; exact hA4
        have HBk4 : Hid (Blk w4 w.heap.size n qd) := HS3.out.blk.keeps hb4
        have cq := HBk4.out.cell hqn
        have fq := HBk4.out.frozen q
        obtain ⟨rm0, rm1⟩ := HS3.out.room HI.out hp hqn
        obtain ⟨t4, d4, hS4⟩ := HS3.out.sub HI.out hp hqn HA4.out
        have HS4 : Hid (DivS w (w4.setCell ⟨w.heap.size, q, none⟩ (.int .i64 (qd q + 2 ^ p))) n (val a n) (val b m) I v4 (upd qd q (qd q + 2 ^ p)) t4 d4 (2 * Q + 1) (R - val b m) 1) := hS4
        obtain ⟨so, sc, rfl, hR4⟩ := hS4.out.row
        have h2p := two_pos p
        have h2q : (2 : Int) ^ p ≤ 2 ^ 29 := two_le (by omega)
        clear hS4 hA4 hb4 hRr
        have HS5 : Hid (DivS w ((w4.setCell ⟨w.heap.size, q, none⟩ (.int .i64 (qd q + 2 ^ p))).drew) n (val a n) (val b m) I (.slice so t4 sc) (upd qd q (qd q + 2 ^ p)) t4 d4 (2 * Q + 1) (R - val b m) 1) := HS4.out.keeps (bel_refl _).drew
        clear HS4 HS3 HA4 hR4 HR
        go_wp2
        go_region
        clear HBk4 cq fq
        generalize (w4.setCell ⟨w.heap.size, q, none⟩ (.int .i64 (qd q + 2 ^ p))).drew = w5 at HS5 ⊢
        obtain ⟨t5, ht45⟩ : ∃ t5, t5 = t4 := ⟨_, rfl⟩
        subst ht45
        have HR0 := rm0
        clear HR0
        have HBk5 : Hid (Blk w5 w.heap.size n (upd qd q (qd q + 2 ^ p))) := HS5.out.blk
        obtain ⟨_, _, e5, hR5⟩ := HS5.out.out.row
        simp only [Value.slice.injEq] at e5
        obtain ⟨rfl, _, rfl⟩ := e5
        have hl5 := hR5.le
        have hm5 := hR5.max
        have HT5 : Hid (t5 ≤ 5001) := by
          have h1 := hR5.num0 HS5.out.nrm
          have h2 := HS5.out.vr
          have h3 := HS5.out.lt
          have h4 := val_lt HNB.out.1
          have h5 : (2 : Int) * P m ≤ P (m + 1) := by rw [P_succ]; have := P_pos m; omega
          have h6 := HBP.out
          refine Nat.le_trans (h1.len (k := m + 1) (by rw [h2]; omega)) (by omega)
        have ht5 := HT5.out
        by_cases hI0 : I = 0
        · subst hI0
          go_wp2_with fail
          refine (rtrim_any _ _ _ _ _ (HBk5.out.row0 (Nat.le_refl _) (by omega))).mono ?_
          rintro e w6 ⟨t1, ht1, htop, hz, rfl, hw⟩
          replace hw := hw.symm
          subst hw
          go_wp2
          go_ret2
          exact ⟨_, _, rfl, HS5.out.ans HBP.out (HBk5.out.out (Nat.le_refl _) ht1 (by omega)) (nrm_of_top HS5.out.dig ht1 htop hz) (fun k hk => by simpa [Value.ownBlock] using hk.symm)⟩
        · obtain ⟨J, rfl⟩ : ∃ J, I = J + 1 := ⟨I - 1, by omega⟩
          have eJ : ((J + 1 : Nat) : Int) - 1 = J := by omega
          have eJ0 : (((J + 1 : Nat) : Int) == 0) = false := by simp; omega
          go_wp2_with fail
          refine (rshl_qp _ _ _ 0 1 _ _ hR5 HS5.out.nrm.1 (by omega) (by omega) (by omega) 1 (by omega)).mono ?_
          rintro e w6 ⟨v6, rfl, hA6⟩
          have HA6 : Hid (Ans w5 w6 (2 * (R - val b m)) v6) := by
            rw [HS5.out.vr] at hA6
            rw [show P 0 * (2 ^ 1 * (R - val b m)) = 2 * (R - val b m) by show 1 * (2 * (R - val b m)) = _; omega] at hA6
            exact hA6
          have HB6 : Hid (Below w5.heap.size w5 w6) := hA6.below
          clear hA6
          have HBw6 : Hid (Below w.heap.size w w6) := HS5.out.below.trans (HB6.out.mono HS5.out.below.size)
          obtain ⟨o6, n6, c6, rfl⟩ := HA6.out.num.shape
          have HV6 : Hid (n6 ≤ 5002) := by
            have h3 := HS5.out.lt
            have h4 := val_lt HNB.out.1
            have h5 : (2 : Int) * P m ≤ P (m + 1) := by rw [P_succ]; have := P_pos m; omega
            have h6 := HBP.out
            refine Nat.le_trans (HA6.out.num.len (k := m + 1) (by omega)) (by omega)
          go_wp2_with fail
          refine (rbit_any _ _ _ _ _ (HRA.out.keeps HBw6.out) HNA.out (by omega) J (by omega)).mono ?_
          rintro e w7 ⟨rfl, hw⟩
          replace hw := hw.symm
          subst hw
          cases hbit : bitB (val a n) J with
          | true =>
            obtain ⟨t6, d6, hO6, hN6, hv6, hb6⟩ := HA6.out
            obtain ⟨_, _, e6, hR6⟩ := hO6.row
            simp only [Value.slice.injEq] at e6
            obtain ⟨rfl, rfl, rfl⟩ := e6
            have HN6 : Hid (Nrm d6 n6 ∧ val d6 n6 = 2 * (R - val b m)) := ⟨hN6, hv6⟩
            have hl6 := hR6.le
            have hm6 := hR6.max
            have hv66 := HV6.out
            have HR6 : Hid (Row w6 o6 n6 c6 d6) := hR6
            clear hO6 hN6 hv6 hb6 hR6
            go_wp2_with fail
            refine (radd_any _ _ _ _ _ _ _ _ _ (HR6.out.alloc _) (row1 _ 1 rfl) HN6.out.1 ⟨fun i _ => by show (0 : Int) ≤ 1 ∧ (1 : Int) < 1073741824; omega, .inr (by show (1 : Int) ≠ 0; omega)⟩ (by omega) (by omega)).mono ?_
            rintro e w8 ⟨v8, rfl, hA8⟩
            have hA9 := hA8
            rw [HN6.out.2] at hA9
            have hn8 := HS5.out.next (bel_trans HB6.out (bel_alloc _ _)) hA9 (by rw [hbit]; rfl)
            have HN8 : Hid _ := hn8
            obtain ⟨o8, n8, c8, rfl⟩ := hA8.num.shape
            clear hA8 hn8 hA9
            go_wp2
            go_roundw
            case rel =>
              obtain ⟨t8, d8, h8⟩ := HN8.out
              exact ⟨J, (upd qd q (qd q + 2 ^ p)), t8, d8, _, _, by go_num, by omega, h8⟩
            case measure => simp [intOf]; try omega
          | false =>
            have hn8 := HS5.out.next (bel_refl _) HA6.out (show 2 * (R - val b m) = 2 * (R - val b m) + (if bitB (val a n) J then 1 else 0) by rw [hbit]; simp)
            have HN8 : Hid _ := hn8
            clear hn8
            go_wp2
            go_roundw
            case rel =>
              obtain ⟨t8, d8, h8⟩ := HN8.out
              exact ⟨J, (upd qd q (qd q + 2 ^ p)), t8, d8, _, _, by go_num, by omega, h8⟩
            case measure => simp [intOf]; try omega
      · have ho : decide (0 ≤ ord (val d t) (val b m)) = false := decide_eq_false (by rw [HS.out.vr, ord_lt (by omega)]; decide)
        have HR0 := hR
        have HLT : Hid (R < val b m) := by show _ < _; omega
        clear hR
        go_wp2_with fail
        refine (rcmp_any _ _ _ _ _ _ _ _ _ hRr (HRB.out.keeps HBw.out) HS.out.nrm HNB.out).mono ?_
        rintro e w5 ⟨rfl, hb3⟩
        have HS5 : Hid (DivS w w5 n (val a n) (val b m) I (.slice ro t rc) qd t d (2 * Q) R 1) := (HS.out.keeps hb3).skip HLT.out
        clear HS hb3 HBw hRr HT hrl hrm htt
        obtain ⟨t5, ht45⟩ : ∃ t5, t5 = t := ⟨_, rfl⟩
        subst ht45
        clear HR0
        have HBk5 : Hid (Blk w5 w.heap.size n qd) := HS5.out.blk
        obtain ⟨_, _, e5, hR5⟩ := HS5.out.out.row
        simp only [Value.slice.injEq] at e5
        obtain ⟨rfl, _, rfl⟩ := e5
        have hl5 := hR5.le
        have hm5 := hR5.max
        have HT5 : Hid (t5 ≤ 5001) := by
          have h1 := hR5.num0 HS5.out.nrm
          have h2 := HS5.out.vr
          have h3 := HS5.out.lt
          have h4 := val_lt HNB.out.1
          have h5 : (2 : Int) * P m ≤ P (m + 1) := by rw [P_succ]; have := P_pos m; omega
          have h6 := HBP.out
          refine Nat.le_trans (h1.len (k := m + 1) (by rw [h2]; omega)) (by omega)
        have ht5 := HT5.out
        by_cases hI0 : I = 0
        · subst hI0
          go_wp2_with fail
          refine (rtrim_any _ _ _ _ _ (HBk5.out.row0 (Nat.le_refl _) (by omega))).mono ?_
          rintro e w6 ⟨t1, ht1, htop, hz, rfl, hw⟩
          replace hw := hw.symm
          subst hw
          go_wp2
          go_ret2
          exact ⟨_, _, rfl, HS5.out.ans HBP.out (HBk5.out.out (Nat.le_refl _) ht1 (by omega)) (nrm_of_top HS5.out.dig ht1 htop hz) (fun k hk => by simpa [Value.ownBlock] using hk.symm)⟩
        · obtain ⟨J, rfl⟩ : ∃ J, I = J + 1 := ⟨I - 1, by omega⟩
          have eJ : ((J + 1 : Nat) : Int) - 1 = J := by omega
          have eJ0 : (((J + 1 : Nat) : Int) == 0) = false := by simp; omega
          go_wp2_with fail
          refine (rshl_qp _ _ _ 0 1 _ _ hR5 HS5.out.nrm.1 (by omega) (by omega) (by omega) 1 (by omega)).mono ?_
          rintro e w6 ⟨v6, rfl, hA6⟩
          have HA6 : Hid (Ans w5 w6 (2 * (R)) v6) := by
            rw [HS5.out.vr] at hA6
            rw [show P 0 * (2 ^ 1 * (R)) = 2 * (R) by show 1 * (2 * (R)) = _; omega] at hA6
            exact hA6
          have HB6 : Hid (Below w5.heap.size w5 w6) := hA6.below
          clear hA6
          have HBw6 : Hid (Below w.heap.size w w6) := HS5.out.below.trans (HB6.out.mono HS5.out.below.size)
          obtain ⟨o6, n6, c6, rfl⟩ := HA6.out.num.shape
          have HV6 : Hid (n6 ≤ 5002) := by
            have h3 := HS5.out.lt
            have h4 := val_lt HNB.out.1
            have h5 : (2 : Int) * P m ≤ P (m + 1) := by rw [P_succ]; have := P_pos m; omega
            have h6 := HBP.out
            refine Nat.le_trans (HA6.out.num.len (k := m + 1) (by omega)) (by omega)
          go_wp2_with fail
          refine (rbit_any _ _ _ _ _ (HRA.out.keeps HBw6.out) HNA.out (by omega) J (by omega)).mono ?_
          rintro e w7 ⟨rfl, hw⟩
          replace hw := hw.symm
          subst hw
          cases hbit : bitB (val a n) J with
          | true =>
            obtain ⟨t6, d6, hO6, hN6, hv6, hb6⟩ := HA6.out
            obtain ⟨_, _, e6, hR6⟩ := hO6.row
            simp only [Value.slice.injEq] at e6
            obtain ⟨rfl, rfl, rfl⟩ := e6
            have HN6 : Hid (Nrm d6 n6 ∧ val d6 n6 = 2 * (R)) := ⟨hN6, hv6⟩
            have hl6 := hR6.le
            have hm6 := hR6.max
            have hv66 := HV6.out
            have HR6 : Hid (Row w6 o6 n6 c6 d6) := hR6
            clear hO6 hN6 hv6 hb6 hR6
            go_wp2_with fail
            refine (radd_any _ _ _ _ _ _ _ _ _ (HR6.out.alloc _) (row1 _ 1 rfl) HN6.out.1 ⟨fun i _ => by show (0 : Int) ≤ 1 ∧ (1 : Int) < 1073741824; omega, .inr (by show (1 : Int) ≠ 0; omega)⟩ (by omega) (by omega)).mono ?_
            rintro e w8 ⟨v8, rfl, hA8⟩
            have hA9 := hA8
            rw [HN6.out.2] at hA9
            have hn8 := HS5.out.next (bel_trans HB6.out (bel_alloc _ _)) hA9 (by rw [hbit]; rfl)
            have HN8 : Hid _ := hn8
            obtain ⟨o8, n8, c8, rfl⟩ := hA8.num.shape
            clear hA8 hn8 hA9
            go_wp2
            go_roundw
            case rel =>
              obtain ⟨t8, d8, h8⟩ := HN8.out
              exact ⟨J, qd, t8, d8, _, _, by go_num, by omega, h8⟩
            case measure => simp [intOf]; try omega
          | false =>
            have hn8 := HS5.out.next (bel_refl _) HA6.out (show 2 * (R) = 2 * (R) + (if bitB (val a n) J then 1 else 0) by rw [hbit]; simp)
            have HN8 : Hid _ := hn8
            clear hn8
            go_wp2
            go_roundw
            case rel =>
              obtain ⟨t8, d8, h8⟩ := HN8.out
              exact ⟨J, qd, t8, d8, _, _, by go_num, by omega, h8⟩
            case measure => simp [intOf]; try omega
/-- What is left of the document's Gcd. -/
def GcdS (w0 : World) (G : Nat) (va vb : Value) (A B : Int) (wr : World) : Prop := Num wr va A ∧ Num wr vb B ∧ A < P 2000 ∧ B < P 2000 ∧ 0 ≤ B ∧ Int.gcd A B = G ∧ Below w0.heap.size w0 wr
theorem GcdS.step {w0 wr w' : World} {G : Nat} {va vb v1 v2 : Value} {A B : Int} (h : GcdS w0 G va vb A B wr) (hB : 0 < B) (hd : Ans2 wr w' (A / B) v1 (A % B) v2) : GcdS w0 G vb v2 B (A % B) w' ∧ A % B < B ∧ 0 ≤ A % B := by
  obtain ⟨h1, h2, h3, h4, h0, h5, h6⟩ := h
  have hb := hd.1.below
  have m1 := Int.emod_lt_of_pos A hB
  have m0 := Int.emod_nonneg A (show B ≠ 0 by omega)
  exact ⟨⟨h2.keeps hb, hd.2.1.num, h4, Int.lt_trans m1 h4, m0, by rw [gcd_mod]; exact h5, bel_trans h6 hb⟩, m1, m0⟩
set_option maxRecDepth 100000 in
set_option maxHeartbeats 1000000 in
theorem rgcd_any {w : World} {x y : Value} {A B : Int} (hx : Num w x A) (hy : Num w y B) (hA : A < P 2000) (hB : B < P 2000) :
    Calls Tryz.prog 44 #[x, y] w fun e w' => ∃ v, e = .returned v ∧ Ans w w' (Int.gcd A B : Int) v := by
  have HG : Hid (GcdS w (Int.gcd A B) x y A B w) := ⟨hx, hy, hA, hB, hy.nonneg, rfl, bel_refl _⟩
  obtain ⟨ao, n, ca, rfl⟩ := hx.shape
  obtain ⟨bo, m, cb, rfl⟩ := hy.shape
  clear hx hy hA hB
  generalize Int.gcd A B = G at HG ⊢
  go_enter Tryz.func44, Tryz.ntmps44
  go_wp2
  go_loopg [0, 1] (B.toNat) (fun g s0 s1 wr => ∃ X Y : Int, Hid (GcdS w G s0 s1 X Y wr) ∧ Hid (g = Y.toNat))
  case atStart => exact ⟨A, B, HG.out, rfl⟩
  case round =>
    clear HG
    obtain ⟨X, Y, HR, HGK⟩ := hrel
    obtain ⟨xo, xn, xc, xd, rfl, hRx, nx, ex⟩ := HR.out.1
    obtain ⟨yo, yn, yc, yd, rfl, hRy, ny, ey⟩ := HR.out.2.1
    have hxl : xn ≤ 2000 := HR.out.1.len HR.out.2.2.1
    have hyl : yn ≤ 2000 := HR.out.2.1.len HR.out.2.2.2.1
    have hl1 := hRx.le
    have hl2 := hRy.le
    have hm1 := hRx.max
    have hm2 := hRy.max
    have HX : Hid (Row wr xo xn xc xd ∧ Nrm xd xn ∧ val xd xn = X) := ⟨hRx, nx, ex⟩
    have HY : Hid (Row wr yo yn yc yd ∧ Nrm yd yn ∧ val yd yn = Y) := ⟨hRy, ny, ey⟩
    clear hRx nx ex hRy ny ey
    by_cases h0 : 0 < yn
    · have HYP : Hid (0 < Y) := by show _ < _; rw [← HY.out.2.2]; exact val_pos HY.out.2.1 h0
      go_wp2_with fail
      refine (rdiv_any _ _ _ _ _ _ _ _ _ HX.out.1 HY.out.1 HX.out.2.1 HY.out.2.1 (by omega) (by omega) h0).mono ?_
      rintro e w2 ⟨v1, v2, rfl, hd⟩
      have hd2 := hd
      rw [HX.out.2.2, HY.out.2.2] at hd2
      obtain ⟨h1, h2, h3⟩ := HR.out.step HYP.out hd2
      have HN : Hid (GcdS w G (.slice yo yn yc) v2 Y (X % Y) w2) := h1
      have HM : Hid ((X % Y).toNat < Y.toNat) := by show _ < _; omega
      obtain ⟨o1, n1, c1, rfl⟩ := hd.1.num.shape
      obtain ⟨o2, n2, c2, rfl⟩ := hd.2.1.num.shape
      clear h1 h2 h3 hd hd2
      go_wp2
      go_roundg ((X % Y).toNat)
      case measure => rw [HGK.out]; exact HM.out
      case rel => exact ⟨_, _, HN.out, rfl⟩
    · obtain rfl : yn = 0 := by omega
      have HB : Hid (Below w.heap.size w wr) := HR.out.2.2.2.2.2.2
      have HE : Hid (val xd xn = (G : Int)) := by
        show _ = _
        rw [HX.out.2.2]
        have e := HR.out.2.2.2.2.2.1
        have ey := HY.out.2.2
        have h0 := HR.out.1.nonneg
        rw [← ey, show val yd 0 = 0 from rfl, Int.gcd_zero_right] at e
        omega
      go_wp2_with (at_builtin; refine wpList_app rfl _ _ rfl w.heap.size _ 0 xd rfl (Out.nil _ _ _) _ xn xc xd rfl HX.out.1 (by omega) HB.out.size ?_; intro v1 w1 hO1 hg1)
      go_ret
      have hb1 : Below w.heap.size w w1 := HB.out.trans ((grown_below hg1).mono HB.out.size)
      rw [Nat.zero_add] at hO1
      exact ⟨_, rfl, xn, xd, hO1.congr fun i hi => cat0 _ _ i, HX.out.2.1, HE.out, hb1⟩
end Go.Proofs.YtmbajngbiefilaaGreatDoor
