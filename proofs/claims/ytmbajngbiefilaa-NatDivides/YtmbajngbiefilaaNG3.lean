/-
  Package nat: apply, divisor (Lehmer's way), Gcd, by contracts.
-/
import Derived.Test.YtmbajngbiefilaaNG2
import Derived.Test.YtmbajngbiefilaaND1
import Derived.Test.YtmbajngbiefilaaNLaw
import Derived.Deep.LoopGhost
import Derived.Deep.RegionHeld3
namespace Go.Proofs.Ytmbajngbiefilaa
open Go Go.RowKit Go.Proofs.Ytmbajngbiefilaa.M
set_option linter.unusedSimpArgs false
set_option linter.unusedVariables false

/-- Both numbers, as the steps leave them. -/
theorem Sure.whole {x0 y0 x y fA fB nA nB : Int} {odd : Bool} (h : Sure x0 y0 x y fA fB nA nB odd) {A B S : Int} (hS : 0 < S) (hx : x0 = A / S) (hy : y0 = B / S) (hA0 : 0 ≤ A) (hlt : A < 1152921504606846976 * S) :
    0 < sgn odd * (nB * B - nA * A) ∧ sgn odd * (nB * B - nA * A) < sgn odd * (fA * A - fB * B) ∧ sgn odd * (fA * A - fB * B) ≤ A ∧ sgn odd * (nB * B - nA * A) < B ∧
      Int.gcd (sgn odd * (fA * A - fB * B)) (sgn odd * (nB * B - nA * A)) = Int.gcd A B ∧ fA < 1073741824 ∧ fB < 1073741824 ∧ nA < 1073741824 ∧ nB < 1073741824 := by
  obtain ⟨s, h1, h2, h3, h4, h5, h6, h7⟩ := h
  have eA : A = x0 * S + A % S := by rw [hx]; have := Int.mul_ediv_add_emod A S; rw [Int.mul_comm]; omega
  have eB : B = y0 * S + B % S := by rw [hy]; have := Int.mul_ediv_add_emod B S; rw [Int.mul_comm]; omega
  have w := s.whole hS (Int.emod_nonneg A (by omega)) (Int.emod_lt_of_pos A hS) (Int.emod_nonneg B (by omega)) (Int.emod_lt_of_pos B hS) h1 h2 h6 h7
  rw [← eA, ← eB] at w
  obtain ⟨w1, w2⟩ := w
  have hb := s.back_x
  have n1 := s.nB1
  have f0 := s.fB0
  have d := s.det
  have hsg := s.sgn
  -- the numbers before, by those behind
  have bA : A = nB * (sgn odd * (fA * A - fB * B)) + fB * (sgn odd * (nB * B - nA * A)) := by
    rcases hsg with e | e <;> rw [e] at d ⊢ <;> grind
  have bB : B = nA * (sgn odd * (fA * A - fB * B)) + fA * (sgn odd * (nB * B - nA * A)) := by
    rcases hsg with e | e <;> rw [e] at d ⊢ <;> grind
  generalize hP : sgn odd * (fA * A - fB * B) = X at *
  generalize hQ : sgn odd * (nB * B - nA * A) = Y at *
  have p1 : 1 * X ≤ nB * X := mul_le_r n1 (by omega)
  have p2 : 0 ≤ fB * Y := Int.mul_nonneg f0 (by omega)
  have p3 : 1 * X ≤ nA * X := mul_le_r h5 (by omega)
  have p4 : 0 ≤ fA * Y := Int.mul_nonneg s.fA0 (by omega)
  have x0lt : x0 < 1152921504606846976 := by rw [hx]; exact (Int.ediv_lt_iff_lt_mul hS).2 hlt
  have q1 : nB * nB ≤ nB * x := mul_le_l (by omega) (by omega)
  have q2 : 0 ≤ fB * y := Int.mul_nonneg f0 (by omega)
  have nlt : nB < 1073741824 := by
    rcases Int.lt_or_le nB 1073741824 with q | q
    · exact q
    · have : 1073741824 * 1073741824 ≤ nB * nB := Int.mul_le_mul q q (by omega) (by omega)
      omega
  refine ⟨w1, w2, by omega, by omega, ?_, by omega, by omega, by omega, nlt⟩
  refine gcd_comb (p := sgn odd * fA) (q := - (sgn odd * fB)) (r := - (sgn odd * nA)) (s := sgn odd * nB) (t := nB) (u := fB) (v := nA) (w := fA) ?_ ?_ bA bB
  · rw [← hP]; grind
  · rw [← hQ]; grind
/-- Two answers of apply. -/
def App (w w' : World) (X Y : Int) (v1 v2 : Value) : Prop := Ans w w' X v1 ∧ Ans w w' Y v2
theorem keep5 {w1 W W' : World} {g : Nat} {fA fB nA nB : Int} (h : W.cell? ⟨g, 0, none⟩ = some (.int .i64 fA) ∧ W.cell? ⟨g, 1, none⟩ = some (.int .i64 fB) ∧ W.cell? ⟨g, 2, none⟩ = some (.int .i64 nA) ∧ W.cell? ⟨g, 3, none⟩ = some (.int .i64 nB) ∧ Below w1.heap.size w1 W)
    (hb : Below W.heap.size W W') : W'.cell? ⟨g, 0, none⟩ = some (.int .i64 fA) ∧ W'.cell? ⟨g, 1, none⟩ = some (.int .i64 fB) ∧ W'.cell? ⟨g, 2, none⟩ = some (.int .i64 nA) ∧ W'.cell? ⟨g, 3, none⟩ = some (.int .i64 nB) ∧ Below w1.heap.size w1 W' := by
  obtain ⟨h0, h1, h2, h3, h4⟩ := h
  have hg := World.block_lt_of_cell? W _ h0
  exact ⟨(hb.cell (p := ⟨g, 0, none⟩) hg).trans h0, (hb.cell (p := ⟨g, 1, none⟩) hg).trans h1, (hb.cell (p := ⟨g, 2, none⟩) hg).trans h2, (hb.cell (p := ⟨g, 3, none⟩) hg).trans h3, bel_trans h4 hb⟩
/-- combine, told with what it leaves of the world. -/
theorem combine_b {W : World} {ao bo : Option Addr} {n m ca cb : Nat} {a b : Nat → Int} {x y V : Int} (ha : Row W ao n ca a) (hb : Row W bo m cb b) (da : Dig a n) (db : Dig b m) (hn : n ≤ 100000) (hm : m ≤ n)
    (hx : -1073741824 < x ∧ x < 1073741824) (hy : -1073741824 < y ∧ y < 1073741824) (hV : V = x * val a n + y * val b m) (h0 : 0 ≤ V) (h1 : V < P n) :
    Calls Try.prog 73 #[.slice ao n ca, .slice bo m cb, .int .i64 x, .int .i64 y] W fun e w' => ∃ v, e = .returned v ∧ Ans W w' V v ∧ Below W.heap.size W w' := by
  subst hV
  refine (combine_any ao bo n m ca cb a b x y W ha hb da db hn hm hx hy h0 h1).mono ?_
  rintro e w' ⟨v, rfl, h⟩
  exact ⟨v, rfl, h, h.below⟩
set_option maxHeartbeats 600000 in
theorem apply_false (ao bo : Option Addr) (n m ca cb : Nat) (a b : Nat → Int) (fA fB nA nB X Y : Int) (w : World) (ha : Row w ao n ca a) (hb : Row w bo m cb b) (da : Dig a n) (db : Dig b m) (hn : n ≤ 5000) (hm : m ≤ n)
    (h1 : 0 ≤ fA ∧ fA < 1073741824) (h2 : 0 ≤ fB ∧ fB < 1073741824) (h3 : 0 ≤ nA ∧ nA < 1073741824) (h4 : 0 ≤ nB ∧ nB < 1073741824)
    (eX : X = (fA) * val a n + (-fB) * val b m) (eY : Y = (-nA) * val a n + (nB) * val b m) (hX0 : 0 ≤ X) (hX1 : X < P n) (hY0 : 0 ≤ Y) (hY1 : Y < P n) :
    Calls Try.prog 67 #[.agg #[.int .i64 fA, .int .i64 fB, .int .i64 nA, .int .i64 nB, .bool false], .slice ao n ca, .slice bo m cb] w fun e w' => ∃ v1 v2, e = .returned (.tuple #[v1, v2]) ∧ App w w' X Y v1 v2 := by
  have EX : Hid (X = (fA) * val a n + (-fB) * val b m) := eX
  have EY : Hid (Y = (-nA) * val a n + (nB) * val b m) := eY
  have HX0 : Hid (0 ≤ X) := hX0
  have HX1 : Hid (X < P n) := hX1
  have HY0 : Hid (0 ≤ Y) := hY0
  have HY1 : Hid (Y < P n) := hY1
  clear eX eY hX0 hX1 hY0 hY1
  have hA1 := ha.alloc (.cells #[.int .i64 fA, .int .i64 fB, .int .i64 nA, .int .i64 nB, .bool false] 65)
  have hB1 := hb.alloc (.cells #[.int .i64 fA, .int .i64 fB, .int .i64 nA, .int .i64 nB, .bool false] 65)
  have hst := (StB.new (w := w) (fA := fA) (fB := fB) (nA := nA) (nB := nB) (odd := false)).cells
  have hbe := bel_alloc w (.cells #[.int .i64 fA, .int .i64 fB, .int .i64 nA, .int .i64 nB, .bool false] 65)
  have k1 : IntKind.i64.wrap 1 = 1 := by decide
  have k2 : IntKind.i64.wrap (-1) = -1 := by decide
  have q1 : IntKind.i64.wrap fA = fA := by rw [wrap_i64_eq]; omega
  have q2 : IntKind.i64.wrap fB = fB := by rw [wrap_i64_eq]; omega
  have q3 : IntKind.i64.wrap nA = nA := by rw [wrap_i64_eq]; omega
  have q4 : IntKind.i64.wrap nB = nB := by rw [wrap_i64_eq]; omega
  have r1 : IntKind.i64.wrap (-1 * fA) = -fA := by rw [wrap_i64_eq]; omega
  have r2 : IntKind.i64.wrap (-1 * fB) = -fB := by rw [wrap_i64_eq]; omega
  have r3 : IntKind.i64.wrap (-1 * nA) = -nA := by rw [wrap_i64_eq]; omega
  have r4 : IntKind.i64.wrap (-1 * nB) = -nB := by rw [wrap_i64_eq]; omega
  have s1 : IntKind.i64.wrap (-fA) = -fA := by rw [wrap_i64_eq]; omega
  have s2 : IntKind.i64.wrap (-fB) = -fB := by rw [wrap_i64_eq]; omega
  have s3 : IntKind.i64.wrap (-nA) = -nA := by rw [wrap_i64_eq]; omega
  have s4 : IntKind.i64.wrap (-nB) = -nB := by rw [wrap_i64_eq]; omega
  go_enter Try.func67, Try.ntmps67
  go_wp2_with fail
  generalize w.alloc (.cells #[.int .i64 fA, .int .i64 fB, .int .i64 nA, .int .i64 nB, .bool false] 65) = w1 at hA1 hB1 hst hbe ⊢
  obtain ⟨c0, c1, c2, c3, c4⟩ := hst
  have RA : ∀ W, Below w1.heap.size w1 W → Row W ao n ca a := fun W h => hA1.keeps h
  have RB : ∀ W, Below w1.heap.size w1 W → Row W bo m cb b := fun W h => hB1.keeps h
  have hb1 := bel_refl w1
  have C1 : ∀ W, Below w1.heap.size w1 W → Calls Try.prog 73 #[.slice ao n ca, .slice bo m cb, .int .i64 (fA), .int .i64 (-fB)] W fun e w' => ∃ v, e = .returned v ∧ Ans W w' X v ∧ Below W.heap.size W w' := fun W h => combine_b (RA W h) (RB W h) da db (by omega) hm (by omega) (by omega) EX.out HX0.out HX1.out
  have C2 : ∀ W, Below w1.heap.size w1 W → Calls Try.prog 73 #[.slice ao n ca, .slice bo m cb, .int .i64 (-nA), .int .i64 (nB)] W fun e w' => ∃ v, e = .returned v ∧ Ans W w' Y v ∧ Below W.heap.size W w' := fun W h => combine_b (RA W h) (RB W h) da db (by omega) hm (by omega) (by omega) EY.out HY0.out HY1.out
  go_region_held3 (fun W => W.cell? ⟨w.heap.size, 0, none⟩ = some (.int .i64 fA) ∧ W.cell? ⟨w.heap.size, 1, none⟩ = some (.int .i64 fB) ∧ W.cell? ⟨w.heap.size, 2, none⟩ = some (.int .i64 nA) ∧ W.cell? ⟨w.heap.size, 3, none⟩ = some (.int .i64 nB) ∧ Below w1.heap.size w1 W)
    (first | exact ⟨c0, c1, c2, c3, hb1.drew⟩ | exact keep5 (by assumption) (by assumption))
    (first | (go_at_call 73; have _t := hbv1; refine (C2 _ (bel_trans hb1.drew hbv1)).mono ?_; rintro e w3 ⟨v2, rfl, hv2, hbv2⟩) | (go_at_call 73; refine (C1 _ hb1.drew).mono ?_; rintro e w2 ⟨v1, rfl, hv1, hbv1⟩))
  go_wp2
  go_ret2
  have f1 := (hv1.from hb1.drew).from hbe
  exact ⟨_, _, rfl, f1.stays hbv2, hv2.from f1.below⟩
set_option maxHeartbeats 600000 in
theorem apply_true (ao bo : Option Addr) (n m ca cb : Nat) (a b : Nat → Int) (fA fB nA nB X Y : Int) (w : World) (ha : Row w ao n ca a) (hb : Row w bo m cb b) (da : Dig a n) (db : Dig b m) (hn : n ≤ 5000) (hm : m ≤ n)
    (h1 : 0 ≤ fA ∧ fA < 1073741824) (h2 : 0 ≤ fB ∧ fB < 1073741824) (h3 : 0 ≤ nA ∧ nA < 1073741824) (h4 : 0 ≤ nB ∧ nB < 1073741824)
    (eX : X = (-fA) * val a n + (fB) * val b m) (eY : Y = (nA) * val a n + (-nB) * val b m) (hX0 : 0 ≤ X) (hX1 : X < P n) (hY0 : 0 ≤ Y) (hY1 : Y < P n) :
    Calls Try.prog 67 #[.agg #[.int .i64 fA, .int .i64 fB, .int .i64 nA, .int .i64 nB, .bool true], .slice ao n ca, .slice bo m cb] w fun e w' => ∃ v1 v2, e = .returned (.tuple #[v1, v2]) ∧ App w w' X Y v1 v2 := by
  have EX : Hid (X = (-fA) * val a n + (fB) * val b m) := eX
  have EY : Hid (Y = (nA) * val a n + (-nB) * val b m) := eY
  have HX0 : Hid (0 ≤ X) := hX0
  have HX1 : Hid (X < P n) := hX1
  have HY0 : Hid (0 ≤ Y) := hY0
  have HY1 : Hid (Y < P n) := hY1
  clear eX eY hX0 hX1 hY0 hY1
  have hA1 := ha.alloc (.cells #[.int .i64 fA, .int .i64 fB, .int .i64 nA, .int .i64 nB, .bool true] 65)
  have hB1 := hb.alloc (.cells #[.int .i64 fA, .int .i64 fB, .int .i64 nA, .int .i64 nB, .bool true] 65)
  have hst := (StB.new (w := w) (fA := fA) (fB := fB) (nA := nA) (nB := nB) (odd := true)).cells
  have hbe := bel_alloc w (.cells #[.int .i64 fA, .int .i64 fB, .int .i64 nA, .int .i64 nB, .bool true] 65)
  have k1 : IntKind.i64.wrap 1 = 1 := by decide
  have k2 : IntKind.i64.wrap (-1) = -1 := by decide
  have q1 : IntKind.i64.wrap fA = fA := by rw [wrap_i64_eq]; omega
  have q2 : IntKind.i64.wrap fB = fB := by rw [wrap_i64_eq]; omega
  have q3 : IntKind.i64.wrap nA = nA := by rw [wrap_i64_eq]; omega
  have q4 : IntKind.i64.wrap nB = nB := by rw [wrap_i64_eq]; omega
  have r1 : IntKind.i64.wrap (-1 * fA) = -fA := by rw [wrap_i64_eq]; omega
  have r2 : IntKind.i64.wrap (-1 * fB) = -fB := by rw [wrap_i64_eq]; omega
  have r3 : IntKind.i64.wrap (-1 * nA) = -nA := by rw [wrap_i64_eq]; omega
  have r4 : IntKind.i64.wrap (-1 * nB) = -nB := by rw [wrap_i64_eq]; omega
  have s1 : IntKind.i64.wrap (-fA) = -fA := by rw [wrap_i64_eq]; omega
  have s2 : IntKind.i64.wrap (-fB) = -fB := by rw [wrap_i64_eq]; omega
  have s3 : IntKind.i64.wrap (-nA) = -nA := by rw [wrap_i64_eq]; omega
  have s4 : IntKind.i64.wrap (-nB) = -nB := by rw [wrap_i64_eq]; omega
  go_enter Try.func67, Try.ntmps67
  go_wp2_with fail
  generalize w.alloc (.cells #[.int .i64 fA, .int .i64 fB, .int .i64 nA, .int .i64 nB, .bool true] 65) = w1 at hA1 hB1 hst hbe ⊢
  obtain ⟨c0, c1, c2, c3, c4⟩ := hst
  have RA : ∀ W, Below w1.heap.size w1 W → Row W ao n ca a := fun W h => hA1.keeps h
  have RB : ∀ W, Below w1.heap.size w1 W → Row W bo m cb b := fun W h => hB1.keeps h
  have hb1 := bel_refl w1
  have C1 : ∀ W, Below w1.heap.size w1 W → Calls Try.prog 73 #[.slice ao n ca, .slice bo m cb, .int .i64 (-fA), .int .i64 (fB)] W fun e w' => ∃ v, e = .returned v ∧ Ans W w' X v ∧ Below W.heap.size W w' := fun W h => combine_b (RA W h) (RB W h) da db (by omega) hm (by omega) (by omega) EX.out HX0.out HX1.out
  have C2 : ∀ W, Below w1.heap.size w1 W → Calls Try.prog 73 #[.slice ao n ca, .slice bo m cb, .int .i64 (nA), .int .i64 (-nB)] W fun e w' => ∃ v, e = .returned v ∧ Ans W w' Y v ∧ Below W.heap.size W w' := fun W h => combine_b (RA W h) (RB W h) da db (by omega) hm (by omega) (by omega) EY.out HY0.out HY1.out
  go_region_held3 (fun W => W.cell? ⟨w.heap.size, 0, none⟩ = some (.int .i64 fA) ∧ W.cell? ⟨w.heap.size, 1, none⟩ = some (.int .i64 fB) ∧ W.cell? ⟨w.heap.size, 2, none⟩ = some (.int .i64 nA) ∧ W.cell? ⟨w.heap.size, 3, none⟩ = some (.int .i64 nB) ∧ Below w1.heap.size w1 W)
    (first | exact ⟨c0, c1, c2, c3, hb1.drew⟩ | exact keep5 (by assumption) (by assumption))
    (first | (go_at_call 73; have _t := hbv1; refine (C2 _ (bel_trans hb1.drew hbv1)).mono ?_; rintro e w3 ⟨v2, rfl, hv2, hbv2⟩) | (go_at_call 73; refine (C1 _ hb1.drew).mono ?_; rintro e w2 ⟨v1, rfl, hv1, hbv1⟩))
  go_wp2
  go_ret2
  have f1 := (hv1.from hb1.drew).from hbe
  exact ⟨_, _, rfl, f1.stays hbv2, hv2.from f1.below⟩
theorem apply_any (ao bo : Option Addr) (n m ca cb : Nat) (a b : Nat → Int) (fA fB nA nB : Int) (odd : Bool) (w : World) (ha : Row w ao n ca a) (hb : Row w bo m cb b) (da : Dig a n) (db : Dig b m) (hn : n ≤ 5000) (hm : m ≤ n)
    (h1 : 0 ≤ fA ∧ fA < 1073741824) (h2 : 0 ≤ fB ∧ fB < 1073741824) (h3 : 0 ≤ nA ∧ nA < 1073741824) (h4 : 0 ≤ nB ∧ nB < 1073741824)
    (hX0 : 0 ≤ sgn odd * (fA * val a n - fB * val b m)) (hX1 : sgn odd * (fA * val a n - fB * val b m) < P n) (hY0 : 0 ≤ sgn odd * (nB * val b m - nA * val a n)) (hY1 : sgn odd * (nB * val b m - nA * val a n) < P n) :
    Calls Try.prog 67 #[.agg #[.int .i64 fA, .int .i64 fB, .int .i64 nA, .int .i64 nB, .bool odd], .slice ao n ca, .slice bo m cb] w fun e w' => ∃ v1 v2, e = .returned (.tuple #[v1, v2]) ∧ App w w' (sgn odd * (fA * val a n - fB * val b m)) (sgn odd * (nB * val b m - nA * val a n)) v1 v2 := by
  cases odd with
  | false => exact apply_false ao bo n m ca cb a b fA fB nA nB _ _ w ha hb da db hn hm h1 h2 h3 h4 (by show 1 * _ = _; grind) (by show 1 * _ = _; grind) hX0 hX1 hY0 hY1
  | true => exact apply_true ao bo n m ca cb a b fA fB nA nB _ _ w ha hb da db hn hm h1 h2 h3 h4 (by show -1 * _ = _; grind) (by show -1 * _ = _; grind) hX0 hX1 hY0 hY1
end Go.Proofs.Ytmbajngbiefilaa
