/-
  Parts of the proof, one behind another.
-/
import Derived.Test.YtnhkagiionkjaaaDoorPart7
import Derived.Test.YtnhkagiionkjaaaDoorPart1
import Derived.Deep.RegionHeld3
import Derived.Test.YtnhkagiionkjaaaDoorPart6
import Derived.Test.YtnhkagiionkjaaaDoorProg
import Derived.WalkKit
import Derived.RowKit3
import Derived.Below
import Derived.Deep.QuietTactic
import Derived.BigQuiet
import Derived.Lib.Strings
import Derived.Lib.Slices
import Derived.Lib.Small
import Derived.Lib.Walk
import Derived.Lib.BitFns
import Derived.Lib.TrailingZeros
import Derived.Laws.Bits64b
import Derived.Test.YtnhkagiionkjaaaDoorPart5
import Derived.Test.YtnhkagiionkjaaaDoorPart2
/-
  Package dyadic: product, Mul, by contracts.
-/
namespace Go.Proofs.YtnhkagiionkjaaaDoor
open Go Go.RowKit Go.Proofs.YtnhkagiionkjaaaDoor.M
set_option linter.unusedSimpArgs false
set_option linter.unusedVariables false

/-- A product's worth. -/
def mulV (x y : NumR) : Int := sg (x.ng != y.ng) (val x.d x.n * val y.d y.n) * pw (x.e + y.e)
theorem mulV_eq {x y : NumR} (hx : -2097152 ≤ x.e) (hy : -2097152 ≤ y.e) : mulV x y * 2 ^ 4194304 = x.V * y.V := by
  unfold mulV NumR.V
  rw [Int.mul_assoc, ← pw_mul hx hy, ← sg_mul]; grind
set_option maxRecDepth 100000 in
set_option maxHeartbeats 2000000 in
theorem dproduct_any (x y : NumR) (w : World) (hx : Row w x.ao x.n x.cap x.d) (hy : Row w y.ao y.n y.cap y.d) (sx : Sane x) (sy : Sane y) :
    Calls Tryd.prog 52 #[x.v, y.v] w fun r w' => ∃ s, r = .returned (.agg #[.bool (x.ng != y.ng), s, .int .i64 (x.e + y.e)]) ∧ Ans w w' (val x.d x.n * val y.d y.n) s := by
  obtain ⟨an, ao, n, ca, a, e⟩ := x
  obtain ⟨bn, bo, m, cb, b, f⟩ := y
  obtain ⟨s1, s2, s3, s4⟩ := sx
  obtain ⟨t1, t2, t3, t4⟩ := sy
  unfold NumR.v
  simp only at *
  have hw : IntKind.i64.wrap (e + f) = e + f := by rw [wrap_i64_eq]; omega
  have hb3 := bel_a3 w (.cells #[.bool an, .slice ao n ca, .int .i64 e] 33) (.cells #[.bool bn, .slice bo m cb, .int .i64 f] 33) (.cells #[.bool false, .slice none 0 0, .int .i64 0] 33)
  have g0 := h3_0 w (.cells #[.bool an, .slice ao n ca, .int .i64 e] 33) (.cells #[.bool bn, .slice bo m cb, .int .i64 f] 33) (.cells #[.bool false, .slice none 0 0, .int .i64 0] 33)
  have g1 := h3_1 w (.cells #[.bool an, .slice ao n ca, .int .i64 e] 33) (.cells #[.bool bn, .slice bo m cb, .int .i64 f] 33) (.cells #[.bool false, .slice none 0 0, .int .i64 0] 33)
  have g2 := h3_2 w (.cells #[.bool an, .slice ao n ca, .int .i64 e] 33) (.cells #[.bool bn, .slice bo m cb, .int .i64 f] 33) (.cells #[.bool false, .slice none 0 0, .int .i64 0] 33)
  have hs3 := size3 w (.cells #[.bool an, .slice ao n ca, .int .i64 e] 33) (.cells #[.bool bn, .slice bo m cb, .int .i64 f] 33) (.cells #[.bool false, .slice none 0 0, .int .i64 0] 33)
  go_enter Tryd.func52, Tryd.ntmps52
  go_wp2_with fail
  have HX := hx.keeps hb3
  have HY := hy.keeps hb3
  generalize ((w.alloc (.cells #[.bool an, .slice ao n ca, .int .i64 e] 33)).alloc (.cells #[.bool bn, .slice bo m cb, .int .i64 f] 33)).alloc (.cells #[.bool false, .slice none 0 0, .int .i64 0] 33) = wx at hb3 g0 g1 g2 hs3 HX HY ⊢
  have k0 := blkC g0 0 rfl
  have k1 := blkC g0 1 rfl
  have k2 := blkC g0 2 rfl
  have j0 := blkC g1 0 rfl
  have j1 := blkC g1 1 rfl
  have j2 := blkC g1 2 rfl
  have hb1 := bel_refl wx
  have C1 : ∀ W, Below wx.heap.size wx W → Calls Tryd.prog 65 #[.slice ao n ca, .slice bo m cb] W fun r w' => ∃ so sn sc, r = .returned (.slice so sn sc) ∧ Ans W w' (val a n * val b m) (.slice so sn sc) ∧ Below W.heap.size W w' := fun W h => by
    refine (product_any ao bo n m ca cb a b W (HX.keeps h) (HY.keeps h) s1.1 t1.1 (by omega) (by omega)).mono ?_
    rintro r w' ⟨v, rfl, hA⟩
    obtain ⟨so, sn, sc, rfl⟩ := hA.num.shape
    exact ⟨so, sn, sc, rfl, hA, hA.below⟩
  go_region_held3 (fun W => (W.cell? ⟨w.heap.size, 0, none⟩ = some (.bool an) ∧ W.cell? ⟨w.heap.size, 1, none⟩ = some (.slice ao n ca) ∧ W.cell? ⟨w.heap.size, 2, none⟩ = some (.int .i64 e)) ∧ W.cell? ⟨w.heap.size + 1, 0, none⟩ = some (.bool bn) ∧ W.cell? ⟨w.heap.size + 1, 1, none⟩ = some (.slice bo m cb) ∧ W.cell? ⟨w.heap.size + 1, 2, none⟩ = some (.int .i64 f))
    (first | assumption | exact ⟨⟨k0, k1, k2⟩, j0, j1, j2⟩ | exact ⟨keepB (W := wx.drew) ⟨k0, k1, k2⟩ hbv1, keepB (W := wx.drew) ⟨j0, j1, j2⟩ hbv1⟩ | exact ⟨keepS (keepB (W := wx.drew) ⟨k0, k1, k2⟩ hbv1) (by omega) _ _ _, keepS (keepB (W := wx.drew) ⟨j0, j1, j2⟩ hbv1) (by omega) _ _ _⟩)
    (first | (go_at_call 65; refine (C1 _ hb1.drew).mono ?_; rintro y w3 ⟨so, sn, sc, rfl, hv, hbv1⟩; have q0 := (hbv1.block (w.heap.size + 2) (by show _ < wx.heap.size; omega)).trans g2; have x0 := blkC q0 0 rfl; have x1 := blkC q0 1 rfl; have x2 := blkC q0 2 rfl; have z0 := blkF q0 0; have z1 := blkF q0 1; have z2 := blkF q0 2) | fail)
  all_goals go_wp2
  all_goals
    refine bodyPost_ret (v := .agg #[.bool (!(an == bn)), .slice so sn sc, .int .i64 (e + f)]) (by simp [results, Tryd.results52, go_sem, x0, x1, x2]) rfl ⟨_, rfl, ?_⟩
    exact ans_res (g := w.heap.size + 2) (hv.from hb1.drew) hb3 (by omega) (by omega) _ _ _
end Go.Proofs.YtnhkagiionkjaaaDoor

/-
  Package dyadic: Neg, Abs, Sign, Scale, by contracts.
-/
namespace Go.Proofs.YtnhkagiionkjaaaDoor
open Go Go.RowKit Go.Proofs.YtnhkagiionkjaaaDoor.M
set_option linter.unusedSimpArgs false
set_option linter.unusedVariables false

theorem neg_dy {x : NumR} (h : okR x = true) : Dy (-x.V) (!x.ng && decide (0 < x.n)) (val x.d x.n) x.e := by
  have hd := (okR_dy h).1
  by_cases h0 : 0 < x.n
  · have hv := val_pos (okR_sane h).1 h0
    have := hd.neg hv
    simpa [h0] using this
  · rcases of_decide_eq_true h with ⟨h1, h2, h3⟩ | ⟨h1, _⟩
    · have hv : val x.d x.n = 0 := by rw [h1]; rfl
      have := hd.eq_zero.2 hv
      rw [this, hv, h3]
      simpa [h0] using Dy.zero
    · omega
theorem abs_dy {x : NumR} (h : okR x = true) : Dy (x.V.natAbs : Int) (false && decide (0 < x.n)) (val x.d x.n) x.e := by
  have hd := (okR_dy h).1.abs
  simpa using hd
end Go.Proofs.YtnhkagiionkjaaaDoor

/-
  Package dyadic: compare, Cmp, by contracts.
-/
namespace Go.Proofs.YtnhkagiionkjaaaDoor
open Go Go.RowKit Go.Proofs.YtnhkagiionkjaaaDoor.M
set_option linter.unusedSimpArgs false
set_option linter.unusedVariables false

theorem ord_scale {a b p : Int} (hp : 0 < p) : ord (a * p) (b * p) = ord a b := by
  rcases Int.lt_trichotomy a b with h | h | h
  · rw [ord_lt h, ord_lt (Int.mul_lt_mul_of_pos_right h hp)]
  · rw [ord_eq h, ord_eq (by rw [h])]
  · rw [ord_gt h, ord_gt (Int.mul_lt_mul_of_pos_right h hp)]
/-- What reaches higher is greater. -/
theorem top_lt {a b e f : Int} (ha : 0 < a) (hb : 0 < b) (he : -4194304 ≤ e) (hf : -4194304 ≤ f) (h : e + blen a < f + blen b) : a * pw e < b * pw f := by
  have h1 := blen_lt a
  have h2 := (blen_pos hb)
  have hpe := pw_pos e
  have hpf := pw_pos f
  have c1 : a * pw e < 2 ^ blen a * pw e := Int.mul_lt_mul_of_pos_right h1 hpe
  have c2 : 2 ^ (blen b - 1) * pw f ≤ b * pw f := Int.mul_le_mul_of_nonneg_right h2.2 (Int.le_of_lt hpf)
  have c3 : 2 ^ blen a * pw e ≤ 2 ^ (blen b - 1) * pw f := by
    unfold pw
    rw [← Int.pow_add, ← Int.pow_add]
    exact two_le (by have := h2.1; omega)
  omega
theorem ord_tops {a b e f : Int} (ha : 0 < a) (hb : 0 < b) (he : -4194304 ≤ e) (hf : -4194304 ≤ f) (h : e + blen a ≠ f + blen b) : ord (e + blen a) (f + blen b) = ord (a * pw e) (b * pw f) := by
  rcases Int.lt_or_gt_of_ne h with h1 | h1
  · rw [ord_lt h1, ord_lt (top_lt ha hb he hf h1)]
  · rw [ord_gt h1, ord_gt (top_lt hb ha hf he h1)]
theorem ord_low {a b e f low : Int} (hl : -4194304 ≤ low) (he : low ≤ e) (hf : low ≤ f) : ord (a * 2 ^ (e - low).toNat) (b * 2 ^ (f - low).toNat) = ord (a * pw e) (b * pw f) := by
  rw [pw_sub hl he, pw_sub hl hf, ← Int.mul_assoc, ← Int.mul_assoc, ord_scale (pw_pos _)]
/-- Two numbers' own blocks, behind a call. -/
theorem keep66 {W w' : World} {g h : Nat} {a b c d e f : Value} (hb : Below W.heap.size W w') (hS : (W.cell? ⟨g, 0, none⟩ = some a ∧ W.cell? ⟨g, 1, none⟩ = some b ∧ W.cell? ⟨g, 2, none⟩ = some c) ∧ W.cell? ⟨h, 0, none⟩ = some d ∧ W.cell? ⟨h, 1, none⟩ = some e ∧ W.cell? ⟨h, 2, none⟩ = some f) :
    (w'.cell? ⟨g, 0, none⟩ = some a ∧ w'.cell? ⟨g, 1, none⟩ = some b ∧ w'.cell? ⟨g, 2, none⟩ = some c) ∧ w'.cell? ⟨h, 0, none⟩ = some d ∧ w'.cell? ⟨h, 1, none⟩ = some e ∧ w'.cell? ⟨h, 2, none⟩ = some f :=
  ⟨keepB hS.1 hb, keepB hS.2 hb⟩
theorem ord_three (a b : Int) : ord a b = 1 ∨ ord a b = 0 ∨ ord a b = -1 := by
  rcases Int.lt_trichotomy a b with h | h | h
  · exact .inr (.inr (ord_lt h))
  · exact .inr (.inl (ord_eq h))
  · exact .inl (ord_gt h)
theorem sgn_V {x : NumR} (sx : Sane x) : (sgn x.ng x.n = 0 ∧ x.V = 0 ∧ x.n = 0) ∨ (sgn x.ng x.n = 1 ∧ 0 < x.V ∧ 0 < x.n ∧ x.ng = false) ∨ (sgn x.ng x.n = -1 ∧ x.V < 0 ∧ 0 < x.n ∧ x.ng = true) := by
  by_cases h0 : x.n = 0
  · left
    refine ⟨by simp [sgn, h0], ?_, h0⟩
    show sg x.ng (val x.d x.n) * _ = 0
    rw [h0]
    show sg x.ng 0 * _ = 0
    rw [sg_zero, Int.zero_mul]
  · right
    have hp := Int.mul_pos (val_pos sx.1 (show 0 < x.n by omega)) (pw_pos x.e)
    have hV : x.V = sg x.ng (val x.d x.n) * pw x.e := rfl
    cases hg : x.ng
    · left
      rw [hg] at hV
      exact ⟨by simp [sgn, h0], by rw [hV]; exact hp, by omega, rfl⟩
    · right
      rw [hg] at hV
      refine ⟨by simp [sgn, h0], ?_, by omega, rfl⟩
      rw [hV]
      show -val x.d x.n * pw x.e < 0
      rw [Int.neg_mul]; omega
theorem ord_signs {x y : NumR} (sx : Sane x) (sy : Sane y) (h : sgn x.ng x.n ≠ sgn y.ng y.n) : ord (sgn x.ng x.n) (sgn y.ng y.n) = ord x.V y.V := by
  rcases sgn_V sx with ⟨a, b, _⟩ | ⟨a, b, _⟩ | ⟨a, b, _⟩ <;> rcases sgn_V sy with ⟨c, d, _⟩ | ⟨c, d, _⟩ | ⟨c, d, _⟩ <;> rw [a, c] at h ⊢ <;>
    first
      | exact absurd rfl h
      | (rw [ord_lt (by decide), ord_lt (by omega)])
      | (rw [ord_gt (by decide), ord_gt (by omega)])
theorem ord_neg (a b : Int) : ord (-a) (-b) = -ord a b := by
  rcases Int.lt_trichotomy a b with h | h | h
  · rw [ord_lt h, ord_gt (by omega)]; rfl
  · rw [ord_eq h, ord_eq (by omega)]; rfl
  · rw [ord_gt h, ord_lt (by omega)]
theorem ord_same {x y : NumR} (ox : okR x = true) (oy : okR y = true) (h : sgn x.ng x.n = sgn y.ng y.n) : ((0 < x.n ∧ 0 < y.n) ∨ (x.n = 0 ∧ y.n = 0 ∧ x.e = y.e)) ∧ sgn x.ng x.n * ord (val x.d x.n * pw x.e) (val y.d y.n * pw y.e) = ord x.V y.V := by
  have hV : x.V = sg x.ng (val x.d x.n) * pw x.e := rfl
  have hW : y.V = sg y.ng (val y.d y.n) * pw y.e := rfl
  rcases sgn_V (okR_sane ox) with ⟨a, b, c⟩ | ⟨a, b, c, d⟩ | ⟨a, b, c, d⟩ <;> rcases sgn_V (okR_sane oy) with ⟨a', b', c'⟩ | ⟨a', b', c', d'⟩ | ⟨a', b', c', d'⟩ <;> rw [a, a'] at h <;> first | (exfalso; omega) | skip
  · refine ⟨.inr ⟨c, c', ?_⟩, ?_⟩
    · rcases of_decide_eq_true ox with ⟨_, _, e1⟩ | ⟨e1, _⟩
      · rcases of_decide_eq_true oy with ⟨_, _, e2⟩ | ⟨e2, _⟩
        · omega
        · omega
      · omega
    · rw [a, b, b', Int.zero_mul, ord_eq rfl]
  · refine ⟨.inl ⟨c, c'⟩, ?_⟩
    rw [a, hV, hW, d, d', Int.one_mul]; rfl
  · refine ⟨.inl ⟨c, c'⟩, ?_⟩
    rw [a, hV, hW, d, d']
    show -1 * _ = ord (-val x.d x.n * _) (-val y.d y.n * _)
    rw [Int.neg_mul (val x.d x.n), Int.neg_mul (val y.d y.n), ord_neg]; omega
end Go.Proofs.YtnhkagiionkjaaaDoor

/-
  What the two layouts of package bits hold, carried over calls; the method split and its kin by contracts: for every pattern, in every world that holds the layouts.
-/
namespace Go.Proofs.YtnhkagiionkjaaaDoor
open Go Go.RowKit Go.Proofs.YtnhkagiionkjaaaDoor.M
set_option linter.unusedSimpArgs false
set_option linter.unusedVariables false

/-- New blocks alone: read cell by cell, and block by block. -/
structure Gr (W w' : World) : Prop where
  gr : Grown W w'
  be : Below W.heap.size W w'
theorem Gr.refl (W : World) : Gr W W := ⟨Grown.refl _, Below.refl _ _⟩
theorem Gr.alloc {W w' : World} (h : Gr W w') (c : Array Value) (t : TypeId) : Gr W (w'.alloc (.cells c t)) := ⟨h.gr.alloc c t, h.be.alloc h.be.size _⟩
theorem Gr.drew {W w' : World} (h : Gr W w') : Gr W w'.drew := ⟨h.gr.drew, ⟨h.be.os, h.be.tape, h.be.output, h.be.size, h.be.block⟩⟩
theorem gTrans {a b c : World} (h : Gr a b) (k : Gr b c) : Gr a c :=
  ⟨⟨World.keptBut_trans h.gr.1 k.gr.1, fun x => (k.gr.2.1 x).trans (h.gr.2.1 x), Nat.le_trans h.gr.2.2 k.gr.2.2⟩, h.be.trans (k.be.mono h.be.size)⟩
theorem gDrewN {W w' : World} (h : Gr W w') (n : Nat) : Gr W (w'.drewN n) := ⟨h.gr, ⟨h.be.os, h.be.tape, h.be.output, h.be.size, h.be.block⟩⟩
theorem gCell {a b : World} (h : Gr a b) {p : Addr} {v : Value} (hc : a.cell? p = some v) : b.cell? p = some v := by
  unfold World.cell? at hc ⊢
  have hlt : p.block < a.heap.size := by
    by_cases hp : p.block < a.heap.size
    · exact hp
    · rw [Array.getElem?_eq_none (by omega)] at hc; simp at hc
  have k := h.gr.1.2.2 p.block hlt
  cases ha : a.heap[p.block]? with
  | none => rw [ha] at hc; simp at hc
  | some oa =>
    rw [ha] at hc k
    cases oa with
    | cells c t fr =>
      cases hb : b.heap[p.block]? with
      | none => rw [hb] at k; simp at k
      | some ob =>
        rw [hb] at k
        cases ob with
        | cells c' t' fr' =>
          simp only at hc k ⊢
          obtain ⟨_, _, _, kc⟩ := k
          rw [kc p.off (fun f => f)]
          exact hc
        | _ => simp at k
    | _ => simp at hc
theorem b_ret_int {k : IntKind} {a b : Int} (h : a = b) : Ending.returned (.int k a) = .returned (.int k b) := by rw [h]

theorem b_ret_bool {a b : Bool} (h : a = b) : Ending.returned (.bool a) = .returned (.bool b) := by rw [h]
theorem ret_bii {a a' : Bool} {b b' c c' : Int} (h : a = a') (k : b = b') (l : c = c') : Ending.returned (.tuple #[.bool a, .int .i64 b, .int .i64 c]) = .returned (.tuple #[.bool a', .int .i64 b', .int .i64 c']) := by rw [h, k, l]
theorem ret_ttt {a a' b b' : Int} {c c' : Bool} (h : a = a') (k : b = b') (l : c = c') : Ending.returned (.tuple #[.int .i64 a, .int .i64 b, .bool c]) = .returned (.tuple #[.int .i64 a', .int .i64 b', .bool c']) := by rw [h, k, l]
theorem ret_ttt4 {n n' : Bool} {a a' b b' : Int} {c c' : Bool} (g : n = n') (h : a = a') (k : b = b') (l : c = c') : Ending.returned (.tuple #[.bool n, .int .i64 a, .int .i64 b, .bool c]) = .returned (.tuple #[.bool n', .int .i64 a', .int .i64 b', .bool c']) := by rw [g, h, k, l]

theorem split64 (b : Int) (w : World) :
    Calls Tryd.prog 62 #[.agg #[.int .i64 52, .int .i64 2047, .int .i64 (-1074)], .int .i64 b] w fun e w' => e = .returned (.tuple #[.int .i64 (fld b), .int .i64 (frc b)]) ∧ ∃ n, w' = (w.alloc (.cells #[.int .i64 52, .int .i64 2047, .int .i64 (-1074)] 70)).drewN n := by
  have h1 : bits .and .i64 (b / 4503599627370496) 2047 = fld b := and_i64_2047 _
  have h2 : bits .and .i64 b 4503599627370495 = frc b := and_i64_m52 _
  go_enter Tryd.func62, Tryd.ntmps62
  go_wp2
  go_quiet (fail)
  go_wp2
  go_ret2
  exact ⟨rfl, _, rfl⟩
theorem split32 (b : Int) (w : World) :
    Calls Tryd.prog 62 #[.agg #[.int .i64 23, .int .i64 255, .int .i64 (-149)], .int .i64 b] w fun e w' => e = .returned (.tuple #[.int .i64 (fld32 b), .int .i64 (frc32 b)]) ∧ ∃ n, w' = (w.alloc (.cells #[.int .i64 23, .int .i64 255, .int .i64 (-149)] 70)).drewN n := by
  have h1 : bits .and .i64 (b / 8388608) 255 = fld32 b := and_i64_255 _
  have h2 : bits .and .i64 b 8388607 = frc32 b := and_i64_m23 _
  go_enter Tryd.func62, Tryd.ntmps62
  go_wp2
  go_quiet (fail)
  go_wp2
  go_ret2
  exact ⟨rfl, _, rfl⟩

theorem parts64 (b : Int) (w : World) :
    Calls Tryd.prog 47 #[.agg #[.int .i64 52, .int .i64 2047, .int .i64 (-1074)], .int .i64 b] w fun e w' => e = .returned (.tuple #[.int .i64 (pmag b), .int .i64 (pexp b), .bool (pok b)]) ∧ Gr w w' := by
  have hf := fld_le b
  have hr := frc_le b
  by_cases h1 : fld b = 2047
  · go_enter Tryd.func47, Tryd.ntmps47
    go_wp2_with (go_at_call 62; refine (split64 _ _).mono ?_; rintro e w1 ⟨rfl, n, rfl⟩)
    go_ret3
    exact ⟨ret_ttt (by simp [pmag, h1]) (by simp [pexp, h1]) (by simp [pok, h1]), gDrewN (((Gr.refl _).alloc _ _).alloc _ _) _⟩
  · by_cases h2 : fld b = 0
    · go_enter Tryd.func47, Tryd.ntmps47
      go_wp2_with (go_at_call 62; refine (split64 _ _).mono ?_; rintro e w1 ⟨rfl, n, rfl⟩)
      go_quiet (fail)
      go_wp2
      go_ret3
      exact ⟨ret_ttt (by simp [pmag, h1, h2]) (by simp [pexp, h1, h2]) (by simp [pok, h1]), gDrewN (gDrewN (((Gr.refl _).alloc _ _).alloc _ _) _) _⟩
    · go_enter Tryd.func47, Tryd.ntmps47
      go_wp2_with (go_at_call 62; refine (split64 _ _).mono ?_; rintro e w1 ⟨rfl, n, rfl⟩)
      go_quiet (fail)
      go_wp2
      go_ret3
      exact ⟨ret_ttt (by simp [pmag, h1, h2]) (by simp [pexp, h1, h2]; omega) (by simp [pok, h1]), gDrewN (gDrewN (((Gr.refl _).alloc _ _).alloc _ _) _) _⟩
theorem parts32 (b : Int) (w : World) (hb : in32 b = true) :
    Calls Tryd.prog 47 #[.agg #[.int .i64 23, .int .i64 255, .int .i64 (-149)], .int .i64 b] w fun e w' => e = .returned (.tuple #[.int .i64 (pmag32 b), .int .i64 (pexp32 b), .bool (pok32 b)]) ∧ Gr w w' := by
  have hf := fld32_le b
  have hr := frc32_le b
  by_cases h1 : fld32 b = 255
  · go_enter Tryd.func47, Tryd.ntmps47
    go_wp2_with (go_at_call 62; refine (split32 _ _).mono ?_; rintro e w1 ⟨rfl, n, rfl⟩)
    go_ret3
    exact ⟨ret_ttt (by simp [pmag32, pok32, hb, h1]) (by simp [pexp32, pok32, hb, h1]) (by simp [pok32, hb, h1]), gDrewN (((Gr.refl _).alloc _ _).alloc _ _) _⟩
  · by_cases h2 : fld32 b = 0
    · go_enter Tryd.func47, Tryd.ntmps47
      go_wp2_with (go_at_call 62; refine (split32 _ _).mono ?_; rintro e w1 ⟨rfl, n, rfl⟩)
      go_quiet (fail)
      go_wp2
      go_ret3
      exact ⟨ret_ttt (by simp [pmag32, pok32, hb, h1, h2]) (by simp [pexp32, pok32, hb, h1, h2]) (by simp [pok32, hb, h1]), gDrewN (gDrewN (((Gr.refl _).alloc _ _).alloc _ _) _) _⟩
    · go_enter Tryd.func47, Tryd.ntmps47
      go_wp2_with (go_at_call 62; refine (split32 _ _).mono ?_; rintro e w1 ⟨rfl, n, rfl⟩)
      go_quiet (fail)
      go_wp2
      go_ret3
      exact ⟨ret_ttt (by simp [pmag32, pok32, hb, h1, h2]) (by simp [pexp32, pok32, hb, h1, h2]; omega) (by simp [pok32, hb, h1]), gDrewN (gDrewN (((Gr.refl _).alloc _ _).alloc _ _) _) _⟩
end Go.Proofs.YtnhkagiionkjaaaDoor

/-
  Package bits' calls that take no join, each by a contract: what it answers for every int, in every world that holds the two layouts.
-/
namespace Go.Proofs.YtnhkagiionkjaaaDoor
open Go Go.RowKit Go.Proofs.YtnhkagiionkjaaaDoor.M
set_option linter.unusedSimpArgs false
set_option linter.unusedVariables false

end Go.Proofs.YtnhkagiionkjaaaDoor

/-
  The library's math/bits.TrailingZeros64 and Len64, each by a contract: the number of b_trailing zero bits, the number of bits, of every uint64.
-/
namespace Go.Proofs.YtnhkagiionkjaaaDoor
open Go Go.RowKit Go.Proofs.YtnhkagiionkjaaaDoor.M
set_option linter.unusedSimpArgs false
set_option linter.unusedVariables false

theorem ret_ib {a a' : Int} {c c' : Bool} (h : a = a') (l : c = c') : Ending.returned (.tuple #[.int .i64 a, .bool c]) = .returned (.tuple #[.int .i64 a', .bool c']) := by rw [h, l]

/-- The library's table of b_trailing zeros. -/
def b_Tab (w : World) : Prop := ∀ j, j < 64 → w.cell? ⟨2, j, none⟩ = some (.int .u8 ((Lib.deBruijn64tab.getD j 0 : Nat) : Int))
theorem b_Tab.grown {w w' : World} (h : b_Tab w) (g : Gr w w') : b_Tab w' := fun j hj => gCell g (h j hj)

theorem b_tz_key (x a : Nat) (hx : x < 18446744073709551616) (hx0 : x ≠ 0) (hlow : x &&& (18446744073709551616 - x) = a) :
    IntKind.u64.wrap (bits .and .u64 (x : Int) (IntKind.u64.wrap (-(x : Int))) * 285870213051353865) / 288230376151711744 = ((a * 285870213051353865 % 18446744073709551616 / 288230376151711744 : Nat) : Int) := by
  have e1 : IntKind.u64.wrap (-(x : Int)) = ((18446744073709551616 - x : Nat) : Int) := by rw [IntKind.wrap_u64]; omega
  rw [e1, bits_and_u64_nat x _ hx (by omega), hlow, IntKind.wrap_u64]
  omega
set_option maxHeartbeats 1000000 in
theorem b_tz_core (x k idx : Nat) (w : World) (hx0 : ((x : Int) == 0) = false)
    (key : IntKind.u64.wrap (bits .and .u64 (x : Int) (IntKind.u64.wrap (-(x : Int))) * 285870213051353865) / 288230376151711744 = (idx : Int))
    (hi : idx < 64) (hk : k < 64) (hcell : w.cell? ⟨2, idx, none⟩ = some (.int .u8 k)) :
    Calls Tryd.prog 70 #[.int .u64 x] w fun e w' => e = .returned (.int .i64 k) ∧ w' = w := by
  go_enter Tryd.func70, Tryd.ntmps70
  go_wp2_with (simp only [key])
  go_ret
  exact ⟨rfl, rfl⟩
theorem b_trailing (x : Nat) (hx : x < 18446744073709551616) (h0 : x ≠ 0) (w : World) (hT : b_Tab w) :
    Calls Tryd.prog 70 #[.int .u64 x] w fun e w' => e = .returned (.int .i64 (Lib.ctz 64 x)) ∧ w' = w := by
  obtain ⟨hlow, hk⟩ := Lib.lowest_bit 64 x h0 hx
  obtain ⟨hi, htab⟩ := Lib.deBruijn64_at _ hk
  have hcell := hT _ hi
  rw [htab] at hcell
  exact b_tz_core x _ _ w (by simp; omega) (b_tz_key x _ hx h0 hlow) hi hk hcell
theorem b_len_close (x q : Int) (s : Nat) (h : q.toNat < Lib.len8tab.size) (hq0 : 0 ≤ q) (hq : q ≤ 255) (hs : s ≤ 56) (hb : Lib.bitLen x.toNat = s + Lib.bitLen q.toNat) :
    wrap64 ((s : Int) + wrap64 ((Lib.len8tab[q.toNat]'h).toNat : Int)) = (Lib.bitLen x.toNat : Int) := by
  have e := Lib.len8_of q hq0 hq
  have l := Lib.bitLen_le8' q hq0 hq
  unfold Lib.len8 at e
  rw [getElem?_pos Lib.len8tab q.toNat h] at e
  simp only [Option.getD_some] at e
  rw [e, hb]
  unfold wrap64
  omega
theorem b_len_close0 (x : Int) (h : x.toNat < Lib.len8tab.size) (hq0 : 0 ≤ x) (hq : x ≤ 255) :
    wrap64 (wrap64 ((Lib.len8tab[x.toNat]'h).toNat : Int)) = (Lib.bitLen x.toNat : Int) := by
  have := b_len_close x x 0 h hq0 hq (by omega) (by omega)
  simpa using this
theorem b_len_q (x q : Int) (s : Nat) (h0 : 0 ≤ x) (h1 : x ≤ 18446744073709551615) (hx : ((2 ^ s : Nat) : Int) ≤ x) (e : q = x / ((2 ^ s : Nat) : Int)) : Lib.bitLen x.toNat = s + Lib.bitLen q.toNat := by
  rw [Lib.bitLen_shift s x.toNat (by omega) (by omega), e]
  congr 2
  obtain ⟨n, rfl⟩ := Int.eq_ofNat_of_zero_le h0
  rw [← Int.natCast_ediv, Int.toNat_natCast, Int.toNat_natCast]
set_option maxHeartbeats 4000000 in
set_option maxRecDepth 100000 in
theorem b_len64 (x : Int) (w : World) (h0 : 0 ≤ x) (h1 : x ≤ 18446744073709551615) :
    Calls Tryd.prog 73 #[.int .u64 x] w fun e w' => e = .returned (.int .i64 (Lib.bitLen x.toNat)) ∧ w' = w := by
  have hs : Lib.len8tab.size = 256 := by decide +kernel
  go_enter Tryd.func73, Tryd.ntmps73
  go_wp2
  all_goals go_ret
  · exact ⟨b_ret_int (b_len_close x _ 56 _ (by omega) (by omega) (by omega) (b_len_q x _ 56 h0 h1 (by omega) (by omega))), rfl⟩
  · exact ⟨b_ret_int (b_len_close x _ 48 _ (by omega) (by omega) (by omega) (b_len_q x _ 48 h0 h1 (by omega) (by omega))), rfl⟩
  · exact ⟨b_ret_int (b_len_close x _ 40 _ (by omega) (by omega) (by omega) (b_len_q x _ 40 h0 h1 (by omega) (by omega))), rfl⟩
  · exact ⟨b_ret_int (b_len_close x _ 32 _ (by omega) (by omega) (by omega) (b_len_q x _ 32 h0 h1 (by omega) (by omega))), rfl⟩
  · exact ⟨b_ret_int (b_len_close x _ 24 _ (by omega) (by omega) (by omega) (b_len_q x _ 24 h0 h1 (by omega) (by omega))), rfl⟩
  · exact ⟨b_ret_int (b_len_close x _ 16 _ (by omega) (by omega) (by omega) (b_len_q x _ 16 h0 h1 (by omega) (by omega))), rfl⟩
  · exact ⟨b_ret_int (b_len_close x _ 8 _ (by omega) (by omega) (by omega) (b_len_q x _ 8 h0 h1 (by omega) (by omega))), rfl⟩
  · exact ⟨b_ret_int (b_len_close0 x _ (by omega) (by omega)), rfl⟩
end Go.Proofs.YtnhkagiionkjaaaDoor

/-
  Plain mathematics of Join: the odd part of a whole number, its length, how far it is shifted; the document's two loops come to the same. No Go text in sight.
-/
namespace Go.Proofs.YtnhkagiionkjaaaDoor.M
open Go
set_option linter.unusedSimpArgs false
set_option linter.unusedVariables false

/-- how often 2 divides; the odd part -/
def jz (mag : Int) : Nat := Lib.ctz 64 mag.toNat
def jo (mag : Int) : Int := mag / 2 ^ jz mag
def jl (mag : Int) : Int := Lib.bitLen (jo mag).toNat
/-- room above the odd part; the shift; the exponent above the least one -/
def jsp (fr mag : Int) : Int := fr + 1 - jl mag
def jsh (fr least mag exp : Int) : Int := min (jsp fr mag) (exp + jz mag - least)
def jab (fr least mag exp : Int) : Int := exp + jz mag - jsh fr least mag exp - least
def jgood (fr top least mag exp : Int) : Bool := decide (0 ≤ jsp fr mag) && (decide (least ≤ exp + jz mag) && decide (jab fr least mag exp ≤ top - 2))
def jk (fr top least mag exp : Int) : Bool := if mag < 0 then false else if mag = 0 then true else jgood fr top least mag exp
def jv (fr top least mag exp : Int) : Int := if mag ≤ 0 then 0 else if jgood fr top least mag exp then jab fr least mag exp * 2 ^ fr.toNat + jo mag * 2 ^ (jsh fr least mag exp).toNat else 0

theorem bitLen_spec (n : Nat) (h : n < 2 ^ 64) (h0 : n ≠ 0) : 2 ^ (Lib.bitLen n - 1) ≤ n ∧ n < 2 ^ Lib.bitLen n ∧ 1 ≤ Lib.bitLen n ∧ Lib.bitLen n ≤ 64 := by
  have hl : Lib.bitLen n ≤ 64 := Lib.bitLen_le n 64 (by omega) h
  -- by halving
  have main : ∀ f n : Nat, n < 2 ^ f → f ≤ 64 → n ≠ 0 → 2 ^ (Lib.bitLen n - 1) ≤ n ∧ n < 2 ^ Lib.bitLen n ∧ 1 ≤ Lib.bitLen n := by
    intro f
    induction f with
    | zero => intro n h _ h0; simp at h; omega
    | succ f ih =>
      intro n h hf h0
      have h64 : n < 2 ^ 64 := Nat.lt_of_lt_of_le h (Nat.pow_le_pow_right (by decide) hf)
      have e := Lib.bitLen_half n h0 h64
      by_cases h2 : n / 2 = 0
      · have h1 : n = 1 := by omega
        subst h1
        have : Lib.bitLen 1 = 1 := by decide +kernel
        rw [this]; decide
      · obtain ⟨a, b, c⟩ := ih (n / 2) (by rw [Nat.pow_succ] at h; omega) (by omega) h2
        obtain ⟨m, hm⟩ : ∃ m, Lib.bitLen (n / 2) = m + 1 := ⟨Lib.bitLen (n / 2) - 1, by omega⟩
        rw [e, hm]
        rw [hm] at a b
        simp only [Nat.add_sub_cancel] at a
        refine ⟨?_, ?_, by omega⟩
        · rw [show 1 + (m + 1) - 1 = m + 1 by omega, Nat.pow_succ]; omega
        · rw [show 1 + (m + 1) = m + 1 + 1 by omega, Nat.pow_succ]; omega
  obtain ⟨a, b, c⟩ := main 64 n h (by omega) h0
  exact ⟨a, b, c, hl⟩
/-- a length is known by the two powers around it -/
theorem bitLen_lt (n k : Nat) (h : n < 2 ^ 64) (h0 : n ≠ 0) : n < 2 ^ k ↔ Lib.bitLen n ≤ k := by
  obtain ⟨a, b, c, d⟩ := bitLen_spec n h h0
  constructor
  · intro hk
    apply Nat.le_of_not_lt
    intro hlt
    have : 2 ^ k ≤ 2 ^ (Lib.bitLen n - 1) := Nat.pow_le_pow_right (by decide) (by omega)
    omega
  · intro hk
    exact Nat.lt_of_lt_of_le b (Nat.pow_le_pow_right (by decide) hk)
theorem jz_spec {mag : Int} (h0 : 0 < mag) (h : mag < 9223372036854775808) : ∃ m : Nat, mag = 2 ^ jz mag * (2 * m + 1) ∧ jz mag < 63 ∧ jo mag = 2 * m + 1 := by
  unfold jo jz
  obtain ⟨n, rfl⟩ := Int.eq_ofNat_of_zero_le (Int.le_of_lt h0)
  have hn : n ≠ 0 := by omega
  simp only [Int.toNat_natCast]
  obtain ⟨m, hm, hk⟩ := Lib.ctzFrom_spec 64 n (by omega) (by omega)
  have e : Lib.ctz 64 n = Lib.ctzFrom 64 n := by simp [Lib.ctz, hn]
  rw [e]
  have hp : 0 < 2 ^ Lib.ctzFrom 64 n := Nat.two_pow_pos _
  have hz : Lib.ctzFrom 64 n < 63 := by
    apply Nat.lt_of_not_le
    intro hle
    have : 2 ^ 63 ≤ 2 ^ Lib.ctzFrom 64 n := Nat.pow_le_pow_right (by decide) hle
    have : 2 ^ Lib.ctzFrom 64 n ≤ n := by
      rw (occs := .pos [2]) [hm]
      exact Nat.le_mul_of_pos_right _ (by omega)
    omega
  have hm' : (n : Int) = 2 ^ Lib.ctzFrom 64 n * (2 * (m : Int) + 1) := by
    have : ((2 ^ Lib.ctzFrom 64 n * (2 * m + 1) : Nat) : Int) = 2 ^ Lib.ctzFrom 64 n * (2 * (m : Int) + 1) := by
      rw [Int.natCast_mul]; simp
    rw [← this, ← hm]
  refine ⟨m, hm', hz, ?_⟩
  have hpi : (0 : Int) < 2 ^ Lib.ctzFrom 64 n := Int.pow_pos (by decide)
  rw (occs := .pos [1]) [hm']
  exact Int.mul_ediv_cancel_left _ (by omega)
theorem jo_le {mag : Int} (h0 : 0 < mag) (h : mag < 9223372036854775808) : 1 ≤ jo mag ∧ jo mag ≤ mag := by
  obtain ⟨m, a, b, c⟩ := jz_spec h0 h
  have hp : (0 : Int) < 2 ^ jz mag := Int.pow_pos (by decide)
  have : (2 * (m : Int) + 1) * 1 ≤ (2 * (m : Int) + 1) * 2 ^ jz mag := Int.mul_le_mul_of_nonneg_left (by omega) (by omega)
  rw [Int.mul_comm _ (2 ^ jz mag), ← a] at this
  omega
theorem jl_le {mag : Int} (h0 : 0 < mag) (h : mag < 9223372036854775808) : 1 ≤ jl mag ∧ jl mag ≤ 63 := by
  obtain ⟨a, b⟩ := jo_le h0 h
  have s := bitLen_spec (jo mag).toNat (by omega) (by omega)
  unfold jl
  have := (bitLen_lt (jo mag).toNat 63 (by omega) (by omega)).1 (by omega)
  omega
/-- what the odd part comes to, shifted -/
theorem jshift_lt {fr mag : Int} (h0 : 0 < mag) (h : mag < 9223372036854775808) (hf : 0 ≤ fr) (s : Nat) (hs : (s : Int) ≤ jsp fr mag) : 1 ≤ jo mag * 2 ^ s ∧ jo mag * 2 ^ s < 2 ^ (fr.toNat + 1) := by
  obtain ⟨a, b⟩ := jo_le h0 h
  have sp := bitLen_spec (jo mag).toNat (by omega) (by omega)
  unfold jsp jl at hs
  have hp : (0 : Int) < 2 ^ s := Int.pow_pos (by decide)
  constructor
  · have : (1 : Int) * 1 ≤ jo mag * 2 ^ s := Int.mul_le_mul a (by omega) (by omega) (by omega)
    omega
  · have h1 : (jo mag).toNat * 2 ^ s < 2 ^ (Lib.bitLen (jo mag).toNat) * 2 ^ s := Nat.mul_lt_mul_of_pos_right sp.2.1 (Nat.two_pow_pos _)
    rw [← Nat.pow_add] at h1
    have h2 : 2 ^ (Lib.bitLen (jo mag).toNat + s) ≤ 2 ^ (fr.toNat + 1) := Nat.pow_le_pow_right (by decide) (by omega)
    have h3 : (jo mag).toNat * 2 ^ s < 2 ^ (fr.toNat + 1) := Nat.lt_of_lt_of_le h1 h2
    have h4 : (((jo mag).toNat * 2 ^ s : Nat) : Int) < ((2 ^ (fr.toNat + 1) : Nat) : Int) := Int.ofNat_lt.2 h3
    rw [Int.natCast_mul, Int.toNat_of_nonneg (by omega)] at h4
    simpa using h4
theorem jgood_far {mag exp : Int} (h0 : 0 < mag) (h : mag < 9223372036854775808) (hf : 1025 < exp) : jgood 52 2047 (-1074) mag exp = false := by
  have := jl_le h0 h
  unfold jgood jab jsh jsp
  simp; intro _ _; omega
theorem jgood_far32 {mag exp : Int} (h0 : 0 < mag) (h : mag < 9223372036854775808) (hf : 129 < exp) : jgood 23 255 (-149) mag exp = false := by
  have := jl_le h0 h
  unfold jgood jab jsh jsp
  simp; intro _ _; omega
theorem jv_le {mag exp : Int} (hm : rng mag) : 0 ≤ jv 52 2047 (-1074) mag exp ∧ jv 52 2047 (-1074) mag exp < 9218868437227405312 := by
  unfold rng at hm
  unfold jv
  by_cases h0 : mag ≤ 0
  · rw [if_pos h0]; omega
  · rw [if_neg h0]
    by_cases hk : jgood 52 2047 (-1074) mag exp = true
    · rw [if_pos hk]
      unfold jgood at hk
      simp only [Bool.and_eq_true, decide_eq_true_eq] at hk
      have hl := jl_le (mag := mag) (by omega) hm.2
      have hs : 0 ≤ jsh 52 (-1074) mag exp ∧ jsh 52 (-1074) mag exp ≤ jsp 52 mag := by unfold jsh; omega
      have hb := jshift_lt (fr := 52) (mag := mag) (by omega) hm.2 (by omega) (jsh 52 (-1074) mag exp).toNat (by omega)
      have hb2 : jo mag * 2 ^ (jsh 52 (-1074) mag exp).toNat < 9007199254740992 := hb.2
      have ha : 0 ≤ jab 52 (-1074) mag exp := by unfold jab jsh; omega
      -- a normal number's highest bit is counted into the field
      have e : (2 : Int) ^ (52 : Int).toNat = 4503599627370496 := by decide
      rw [e]
      omega
    · rw [if_neg hk]; omega
theorem jv_le32 {mag exp : Int} (hm : rng mag) : 0 ≤ jv 23 255 (-149) mag exp ∧ jv 23 255 (-149) mag exp < 2139095040 := by
  unfold rng at hm
  unfold jv
  by_cases h0 : mag ≤ 0
  · rw [if_pos h0]; omega
  · rw [if_neg h0]
    by_cases hk : jgood 23 255 (-149) mag exp = true
    · rw [if_pos hk]
      unfold jgood at hk
      simp only [Bool.and_eq_true, decide_eq_true_eq] at hk
      have hl := jl_le (mag := mag) (by omega) hm.2
      have hs : 0 ≤ jsh 23 (-149) mag exp ∧ jsh 23 (-149) mag exp ≤ jsp 23 mag := by unfold jsh; omega
      have hb := jshift_lt (fr := 23) (mag := mag) (by omega) hm.2 (by omega) (jsh 23 (-149) mag exp).toNat (by omega)
      have hb2 : jo mag * 2 ^ (jsh 23 (-149) mag exp).toNat < 16777216 := hb.2
      have ha : 0 ≤ jab 23 (-149) mag exp := by unfold jab jsh; omega
      have e : (2 : Int) ^ (23 : Int).toNat = 8388608 := by decide
      rw [e]
      omega
    · rw [if_neg hk]; omega
/-- halving: how the document's first loop goes -/
theorem halved {mag : Int} (h0 : 0 < mag) (h : mag < 9223372036854775808) (k : Nat) (hk : k < jz mag) : mag / 2 ^ k % 2 = 0 ∧ mag / 2 ^ k / 2 = mag / 2 ^ (k + 1) ∧ 0 < mag / 2 ^ k ∧ mag / 2 ^ k < 9223372036854775808 := by
  obtain ⟨m, a, b, c⟩ := jz_spec h0 h
  have hp : (0 : Int) < 2 ^ k := Int.pow_pos (by decide)
  have e1 : mag / 2 ^ k = 2 ^ (jz mag - k) * (2 * m + 1) := by
    rw (occs := .pos [1]) [a]
    rw [show jz mag = k + (jz mag - k) by omega, Int.pow_add, Int.mul_assoc]
    rw [show k + (jz mag - k) - k = jz mag - k by omega]
    exact Int.mul_ediv_cancel_left _ (by omega)
  have e2 : (2 : Int) ^ (jz mag - k) = 2 * 2 ^ (jz mag - k - 1) := by
    rw [show jz mag - k = (jz mag - k - 1) + 1 by omega, Int.pow_succ, Int.mul_comm]
    simp
  have hq : (0 : Int) < 2 ^ (jz mag - k) := Int.pow_pos (by decide)
  refine ⟨?_, ?_, ?_, ?_⟩
  · rw [e1, e2, Int.mul_assoc]; exact Int.mul_emod_right _ _
  · rw [Int.pow_succ, Int.ediv_ediv_of_nonneg (by omega)]
  · rw [e1]; exact Int.mul_pos hq (by omega)
  · have : mag / 2 ^ k ≤ mag := Int.ediv_le_self _ (by omega)
    omega
theorem halved_end {mag : Int} (h0 : 0 < mag) (h : mag < 9223372036854775808) : jo mag % 2 = 1 := by
  obtain ⟨m, a, b, c⟩ := jz_spec h0 h
  omega
/-- doubling: how the document's second loop goes -/
theorem doubled {fr mag : Int} (h0 : 0 < mag) (h : mag < 9223372036854775808) (hf : 0 ≤ fr) (j : Nat) : jo mag * 2 ^ j < 2 ^ fr.toNat ↔ (j : Int) < jsp fr mag := by
  obtain ⟨a, b⟩ := jo_le h0 h
  have sp := bitLen_spec (jo mag).toNat (by omega) (by omega)
  unfold jsp jl
  have hc : ((((jo mag).toNat * 2 ^ j : Nat)) : Int) = jo mag * 2 ^ j := by
    rw [Int.natCast_mul, Int.toNat_of_nonneg (by omega)]; simp
  have hd : ((2 ^ fr.toNat : Nat) : Int) = 2 ^ fr.toNat := by simp
  rw [← hc, ← hd, Int.ofNat_lt]
  constructor
  · intro hlt
    have h1 : 2 ^ (Lib.bitLen (jo mag).toNat - 1) * 2 ^ j ≤ (jo mag).toNat * 2 ^ j := Nat.mul_le_mul_right _ sp.1
    rw [← Nat.pow_add] at h1
    have h2 : 2 ^ (Lib.bitLen (jo mag).toNat - 1 + j) < 2 ^ fr.toNat := by omega
    have := (Nat.pow_lt_pow_iff_right (by decide : 1 < 2)).1 h2
    omega
  · intro hlt
    have h1 : (jo mag).toNat * 2 ^ j < 2 ^ (Lib.bitLen (jo mag).toNat) * 2 ^ j := Nat.mul_lt_mul_of_pos_right sp.2.1 (Nat.two_pow_pos _)
    rw [← Nat.pow_add] at h1
    exact Nat.lt_of_lt_of_le h1 (Nat.pow_le_pow_right (by decide) (by omega))
/-- what the document's shifted answers -/
def sk (fr low mag exp : Int) : Bool := decide (0 ≤ jsp fr mag) && decide (low ≤ exp + jz mag)
def sm (fr low mag exp : Int) : Int := if sk fr low mag exp then jo mag * 2 ^ (jsh fr low mag exp).toNat else 0
def se (fr low mag exp : Int) : Int := if sk fr low mag exp then exp + jz mag - jsh fr low mag exp else 0
/-- Join's pattern, with its sign -/
def jp (neg : Bool) (mag exp : Int) : Int := if jk 52 2047 (-1074) mag exp && neg then jv 52 2047 (-1074) mag exp - 9223372036854775808 else jv 52 2047 (-1074) mag exp
def jp32 (neg : Bool) (mag exp : Int) : Int := if jk 23 255 (-149) mag exp && neg then jv 23 255 (-149) mag exp + 2147483648 else jv 23 255 (-149) mag exp
theorem jgood_near {mag exp : Int} (h0 : 0 < mag) (h : mag < 9223372036854775808) (hf : exp < -2000) : jgood 52 2047 (-1074) mag exp = false := by
  obtain ⟨_, _, a, _⟩ := jz_spec h0 h
  unfold jgood; simp; intro _ _; omega
theorem jgood_near32 {mag exp : Int} (h0 : 0 < mag) (h : mag < 9223372036854775808) (hf : exp < -2000) : jgood 23 255 (-149) mag exp = false := by
  obtain ⟨_, _, a, _⟩ := jz_spec h0 h
  unfold jgood; simp; intro _ _; omega
theorem jgood_sk (mag exp : Int) : jgood 52 2047 (-1074) mag exp = (sk 52 (-1074) mag exp && decide (se 52 (-1074) mag exp ≤ 971)) := by
  unfold jgood se jab
  by_cases h : sk 52 (-1074) mag exp = true
  · rw [if_pos h, h]
    unfold sk at h
    simp only [Bool.and_eq_true, decide_eq_true_eq] at h
    simp only [h.1, h.2, decide_true, Bool.true_and]
    congr 1; apply propext; omega
  · have h' : sk 52 (-1074) mag exp = false := by simpa using h
    rw [h']
    unfold sk at h'
    simp only [Bool.false_and]
    simp only [Bool.and_eq_false_iff, decide_eq_false_iff_not] at h' ⊢
    omega
/-- the pattern, off what shifted answers -/
theorem jv_sm {mag exp : Int} (h0 : 0 < mag) (h : mag < 9223372036854775808) (hk : sk 52 (-1074) mag exp = true) (he : se 52 (-1074) mag exp ≤ 971) :
    1 ≤ sm 52 (-1074) mag exp ∧ sm 52 (-1074) mag exp < 9007199254740992 ∧ -1074 ≤ se 52 (-1074) mag exp ∧
    jv 52 2047 (-1074) mag exp = (if sm 52 (-1074) mag exp < 4503599627370496 then sm 52 (-1074) mag exp else (se 52 (-1074) mag exp + 1075) * 4503599627370496 + sm 52 (-1074) mag exp - 4503599627370496) := by
  have hg : jgood 52 2047 (-1074) mag exp = true := by rw [jgood_sk, hk]; simpa using he
  have hk' := hk
  unfold sk at hk'
  simp only [Bool.and_eq_true, decide_eq_true_eq] at hk'
  have hs : 0 ≤ jsh 52 (-1074) mag exp ∧ jsh 52 (-1074) mag exp ≤ jsp 52 mag ∧ jsh 52 (-1074) mag exp ≤ exp + jz mag + 1074 := by unfold jsh; omega
  have hb := jshift_lt (fr := 52) h0 h (by omega) (jsh 52 (-1074) mag exp).toNat (by omega)
  have hb2 : jo mag * 2 ^ (jsh 52 (-1074) mag exp).toNat < 9007199254740992 := hb.2
  have hd := doubled (fr := 52) h0 h (by omega) (jsh 52 (-1074) mag exp).toNat
  rw [show (2 : Int) ^ (52 : Int).toNat = 4503599627370496 by decide] at hd
  have es : sm 52 (-1074) mag exp = jo mag * 2 ^ (jsh 52 (-1074) mag exp).toNat := by unfold sm; rw [if_pos hk]
  have ee : se 52 (-1074) mag exp = exp + jz mag - jsh 52 (-1074) mag exp := by unfold se; rw [if_pos hk]
  rw [es, ee]
  refine ⟨hb.1, hb2, by omega, ?_⟩
  unfold jv jab
  rw [if_neg (by omega), if_pos hg, show (2 : Int) ^ (52 : Int).toNat = 4503599627370496 by decide]
  split
  · rename_i hlt
    have := hd.1 hlt
    have : jsh 52 (-1074) mag exp = exp + jz mag + 1074 := by unfold jsh at *; omega
    omega
  · omega
theorem jgood_sk32 (mag exp : Int) : jgood 23 255 (-149) mag exp = (sk 23 (-149) mag exp && decide (se 23 (-149) mag exp ≤ 104)) := by
  unfold jgood se jab
  by_cases h : sk 23 (-149) mag exp = true
  · rw [if_pos h, h]
    unfold sk at h
    simp only [Bool.and_eq_true, decide_eq_true_eq] at h
    simp only [h.1, h.2, decide_true, Bool.true_and]
    congr 1; apply propext; omega
  · have h' : sk 23 (-149) mag exp = false := by simpa using h
    rw [h']
    unfold sk at h'
    simp only [Bool.false_and]
    simp only [Bool.and_eq_false_iff, decide_eq_false_iff_not] at h' ⊢
    omega
/-- the pattern, off what shifted answers -/
theorem jv_sm32 {mag exp : Int} (h0 : 0 < mag) (h : mag < 9223372036854775808) (hk : sk 23 (-149) mag exp = true) (he : se 23 (-149) mag exp ≤ 104) :
    1 ≤ sm 23 (-149) mag exp ∧ sm 23 (-149) mag exp < 16777216 ∧ -149 ≤ se 23 (-149) mag exp ∧
    jv 23 255 (-149) mag exp = (if sm 23 (-149) mag exp < 8388608 then sm 23 (-149) mag exp else (se 23 (-149) mag exp + 150) * 8388608 + sm 23 (-149) mag exp - 8388608) := by
  have hg : jgood 23 255 (-149) mag exp = true := by rw [jgood_sk32, hk]; simpa using he
  have hk' := hk
  unfold sk at hk'
  simp only [Bool.and_eq_true, decide_eq_true_eq] at hk'
  have hs : 0 ≤ jsh 23 (-149) mag exp ∧ jsh 23 (-149) mag exp ≤ jsp 23 mag ∧ jsh 23 (-149) mag exp ≤ exp + jz mag + 149 := by unfold jsh; omega
  have hb := jshift_lt (fr := 23) h0 h (by omega) (jsh 23 (-149) mag exp).toNat (by omega)
  have hb2 : jo mag * 2 ^ (jsh 23 (-149) mag exp).toNat < 16777216 := hb.2
  have hd := doubled (fr := 23) h0 h (by omega) (jsh 23 (-149) mag exp).toNat
  rw [show (2 : Int) ^ (23 : Int).toNat = 8388608 by decide] at hd
  have es : sm 23 (-149) mag exp = jo mag * 2 ^ (jsh 23 (-149) mag exp).toNat := by unfold sm; rw [if_pos hk]
  have ee : se 23 (-149) mag exp = exp + jz mag - jsh 23 (-149) mag exp := by unfold se; rw [if_pos hk]
  rw [es, ee]
  refine ⟨hb.1, hb2, by omega, ?_⟩
  unfold jv jab
  rw [if_neg (by omega), if_pos hg, show (2 : Int) ^ (23 : Int).toNat = 8388608 by decide]
  split
  · rename_i hlt
    have := hd.1 hlt
    have : jsh 23 (-149) mag exp = exp + jz mag + 149 := by unfold jsh at *; omega
    omega
  · omega
end Go.Proofs.YtnhkagiionkjaaaDoor.M

/-
  Package bits' Join: the method join of both layouts, by contracts.
-/
namespace Go.Proofs.YtnhkagiionkjaaaDoor
open Go Go.RowKit Go.Proofs.YtnhkagiionkjaaaDoor.M
set_option linter.unusedSimpArgs false
set_option linter.unusedVariables false

theorem keepIt {p : Prop} (h : p) : Hid p := h
theorem trailingI (mag : Int) (h0 : 0 < mag) (h : mag < 9223372036854775808) (w : World) (hT : b_Tab w) :
    Calls Tryd.prog 70 #[.int .u64 mag] w fun e w' => e = .returned (.int .i64 (jz mag)) ∧ w' = w := by
  obtain ⟨n, rfl⟩ := Int.eq_ofNat_of_zero_le (Int.le_of_lt h0)
  exact b_trailing n (by omega) (by omega) w hT
theorem len64J (mag : Int) (w : World) (h0 : 1 ≤ jo mag) (h1 : jo mag ≤ mag) (h : mag < 9223372036854775808) :
    Calls Tryd.prog 73 #[.int .u64 (jo mag)] w fun e w' => e = .returned (.int .i64 (jl mag)) ∧ w' = w :=
  b_len64 (jo mag) w (by omega) (by omega)
end Go.Proofs.YtnhkagiionkjaaaDoor

/-
  Package dyadic: Of, Of32, Float, by contracts.
-/
namespace Go.Proofs.YtnhkagiionkjaaaDoor
open Go Go.RowKit Go.Proofs.YtnhkagiionkjaaaDoor.M
set_option linter.unusedSimpArgs false
set_option linter.unusedVariables false

/-- The cells of binary64's layout. -/
structure Lay64 (w : World) : Prop where
  a0 : w.cell? ⟨0, 0, none⟩ = some (.int .i64 52)
  a1 : w.cell? ⟨0, 1, none⟩ = some (.int .i64 2047)
  a2 : w.cell? ⟨0, 2, none⟩ = some (.int .i64 (-1074))
theorem Lay64.keeps {w w' : World} (h : Lay64 w) (hb : Below w.heap.size w w') : Lay64 w' := ⟨cell_keeps h.a0 hb, cell_keeps h.a1 hb, cell_keeps h.a2 hb⟩
theorem bitsPartsA (b : Int) (w : World) (L : Lay64 w) :
    Calls Tryd.prog 28 #[.int .i64 b] w fun e w' => e = .returned (.tuple #[.bool (pneg b), .int .i64 (pmag b), .int .i64 (pexp b), .bool (pok b)]) ∧ Below w.heap.size w w' := by
  obtain ⟨a0, a1, a2⟩ := L
  by_cases h : pok b = true
  all_goals
    go_enter Tryd.func28, Tryd.ntmps28
    go_wp2_with (go_at_call 47; refine (parts64 _ _).mono ?_; rintro e w1 ⟨rfl, hg⟩)
    refine bodyPost_ret (v := .tuple #[.bool (pneg b), .int .i64 (pmag b), .int .i64 (pexp b), .bool (pok b)]) (by simp [results, Tryd.results28, go_sem, pneg, h]) rfl ⟨rfl, hg.be⟩
theorem pmag_in {b : Int} (hp : pok b = true) : 0 ≤ pmag b ∧ pmag b < 9007199254740992 ∧ -1074 ≤ pexp b ∧ pexp b ≤ 971 := by
  have hf := fld_le b
  have hr := frc_le b
  have h1 : fld b ≠ 2047 := by simpa [pok] using hp
  unfold pmag pexp
  rw [if_neg h1, if_neg h1]
  split <;> omega
theorem pmag32_in {b : Int} (hp : pok32 b = true) : 0 ≤ pmag32 b ∧ pmag32 b < 16777216 ∧ -149 ≤ pexp32 b ∧ pexp32 b ≤ 104 := by
  have hf := fld32_le b
  have hr := frc32_le b
  have h1 : fld32 b ≠ 255 := by
    intro h
    simp [pok32, h] at hp
  unfold pmag32 pexp32
  rw [if_pos hp, if_pos hp]
  split <;> omega
theorem ofNat_any (x : Int) (w : World) (h0 : 0 ≤ x) (h1 : x < 9223372036854775808) :
    Calls Tryd.prog 46 #[.int .i64 x] w fun e w' => ∃ v, e = .returned (.tuple #[v, .int .i64 0]) ∧ Ans w w' x v := by
  have HX := digits_nat x w h0 h1
  have HX' : Hid (Calls Tryd.prog 61 #[.int .i64 x] w fun e w' => ∃ v, e = .returned v ∧ Ans w w' x v) := HX
  clear HX h1
  go_enter Tryd.func46, Tryd.ntmps46
  go_wp2_with fail
  refine HX'.out.mono ?_
  rintro e w2 ⟨v, rfl, hA⟩
  go_wp2
  go_ret2
  exact ⟨_, rfl, hA⟩
theorem P2000_big2 : 9223372036854775808 < P 2000 := by
  have := P_le (show 3 ≤ 2000 by omega)
  have e : P 3 = 1237940039285380274899124224 := rfl
  omega
/-- A finite float's worth has a valid form. -/
theorem dok_small {ng : Bool} {M e : Int} (h0 : 0 ≤ M) (h1 : M < 9223372036854775808) (e0 : -1074 ≤ e) (e1 : e ≤ 971) : Dok (sg ng M * pw e) := by
  by_cases hz : M = 0
  · rw [hz, sg_zero, Int.zero_mul]; exact dok_zero
  · obtain ⟨l, hl⟩ := isLow_ex (show 0 < M by omega)
    have hy := Dy.of ng hl (show 0 < M by omega) (show -4194304 ≤ e by omega)
    obtain ⟨c1, c2, c3⟩ := isLow_odd hl (show 0 < M by omega)
    have hp := two_pos l
    have hl63 : l < 63 := by
      have h3 : (1 : Int) * 2 ^ l ≤ M / 2 ^ l * 2 ^ l := Int.mul_le_mul_of_nonneg_right (by omega) (by omega)
      rw [c3] at h3
      refine two_lt_iff ?_
      rw [show (2 : Int) ^ 63 = 9223372036854775808 by decide]
      omega
    refine hy.ok.2 ⟨?_, by omega, by omega⟩
    have : M / 2 ^ l ≤ M := Int.ediv_le_self _ h0
    have := P2000_big2
    omega
set_option maxRecDepth 100000 in
set_option maxHeartbeats 1000000 in
theorem value_yes (ng : Bool) (M e : Int) (w : World) (hT : Tab w) (h0 : 0 ≤ M) (h1 : M < 9223372036854775808) (e0 : -1074 ≤ e) (e1 : e ≤ 971) :
    Calls Tryd.prog 27 #[.bool ng, .int .i64 M, .int .i64 e, .bool true] w fun r w' => ∃ v, r = .returned (.tuple #[v, .int .i64 0]) ∧ DAns w w' (sg ng M * pw e) v := by
  have hok := dok_small (ng := ng) h0 h1 e0 e1
  go_enter Tryd.func27, Tryd.ntmps27
  go_wp2_with fail
  refine (ofNat_any M _ h0 h1).mono ?_
  rintro r w1 ⟨v, rfl, hA⟩
  obtain ⟨so, sn, sc, d, rfl, hR, hN, hv⟩ := hA.num
  have hsn : sn ≤ 100 := hA.num.len (k := 100) (by have := P_le (show 3 ≤ 100 by omega); have : P 3 = 1237940039285380274899124224 := rfl; omega)
  have hbw := bel_trans (bel_alloc w _) hA.below
  go_wp2_with fail
  refine (settle_any (V := sg ng M * pw e) hR hN.1 (by omega) (hT.keeps hbw) (by omega) (by rw [hv])).mono ?_
  rintro r w7 (⟨_, v, rfl, hD⟩ | ⟨hno, _⟩)
  · have hb7 := hD.below
    obtain ⟨ng', s', m', e', rfl, hyy, hA2⟩ := id hD
    obtain ⟨so', sn', sc', rfl⟩ := hA2.num.shape
    have q0 := ((bel_trans hA.below hb7).block w.heap.size (by rw [size1]; omega)).trans (heap_a1 _ _)
    have x0 := blkC q0 0 rfl
    have x1 := blkC q0 1 rfl
    have x2 := blkC q0 2 rfl
    have z0 := blkF q0 0
    have z1 := blkF q0 1
    have z2 := blkF q0 2
    go_wp2
    refine bodyPost_ret (v := .tuple #[.agg #[.bool ng', .slice so' sn' sc', .int .i64 e'], .int .i64 0]) (by simp [results, Tryd.results27, go_sem, x0, x1, x2]) rfl ⟨_, rfl, ?_⟩
    exact dans_res3 (g := w.heap.size) hD hbw (Nat.le_refl _) (Nat.lt_of_lt_of_le (by rw [size1]; omega) hA.below.size) _ _ _
  · exact absurd hok hno
set_option maxRecDepth 100000 in
theorem value_no (ng : Bool) (M e : Int) (w : World) :
    Calls Tryd.prog 27 #[.bool ng, .int .i64 M, .int .i64 e, .bool false] w fun r w' => r = .returned (.tuple #[zeroV, .int .i64 10]) ∧ Below w.heap.size w w' := by
  go_enter Tryd.func27, Tryd.ntmps27
  go_wp2
  refine bodyPost_ret (v := .tuple #[zeroV, .int .i64 10]) (by simp [results, Tryd.results27, go_sem, zeroV]) rfl ⟨rfl, ?_⟩
  exact bel_alloc _ _
set_option maxRecDepth 100000 in
set_option maxHeartbeats 1000000 in
theorem dof_any (b : Int) (w : World) (L : Lay64 w) (hT : Tab w) :
    Calls Tryd.prog 10 #[.int .i64 b] w fun r w' => ∃ v er, r = .returned (.tuple #[v, .int .i64 er]) ∧ Below w.heap.size w w' ∧ ((pok b = true ∧ er = 0 ∧ DAns w w' (sg (pneg b) (pmag b) * pw (pexp b)) v) ∨ (pok b = false ∧ er = 10 ∧ v = zeroV)) := by
  have hVy : pok b = true → ∀ W, Below w.heap.size w W → Calls Tryd.prog 27 #[.bool (pneg b), .int .i64 (pmag b), .int .i64 (pexp b), .bool true] W fun r w' => ∃ v, r = .returned (.tuple #[v, .int .i64 0]) ∧ DAns W w' (sg (pneg b) (pmag b) * pw (pexp b)) v := fun hp W hb => by
    have hi := pmag_in hp
    exact value_yes _ _ _ W (hT.keeps hb) (by omega) (by omega) (by omega) (by omega)
  have hP := fun W hb => bitsPartsA b W (L.keeps hb)
  generalize sg (pneg b) (pmag b) * pw (pexp b) = V at hVy ⊢
  generalize pneg b = ng at *
  generalize pmag b = mg at *
  generalize pexp b = ex at *
  clear L hT
  cases hp : pok b
  · rw [hp] at hP hVy
    go_enter Tryd.func10, Tryd.ntmps10
    go_wp2_with fail
    refine (hP _ (bel_alloc _ _)).mono ?_
    rintro r w1 ⟨rfl, hb1⟩
    go_wp2_with fail
    refine (value_no _ _ _ _).mono ?_
    unfold zeroV
    rintro r w2 ⟨rfl, hb2⟩
    have hbw := bel_trans (bel_alloc w (.cells #[.bool false, .slice none 0 0, .int .i64 0] 33)) (bel_trans hb1 hb2)
    have q0 := ((bel_trans hb1 hb2).block w.heap.size (by rw [size1]; omega)).trans (heap_a1 _ _)
    have x0 := blkC q0 0 rfl
    have x1 := blkC q0 1 rfl
    have x2 := blkC q0 2 rfl
    have z0 := blkF q0 0
    have z1 := blkF q0 1
    have z2 := blkF q0 2
    go_wp2
    refine bodyPost_ret (v := .tuple #[zeroV, .int .i64 10]) (by simp [results, Tryd.results10, go_sem, x0, x1, x2, zeroV]) rfl ⟨_, _, rfl, ?_, .inr ⟨by trivial, rfl, rfl⟩⟩
    exact bel_set3 hbw (Nat.le_refl _) _ _ _
  · rw [hp] at hP hVy
    go_enter Tryd.func10, Tryd.ntmps10
    go_wp2_with fail
    refine (hP _ (bel_alloc _ _)).mono ?_
    rintro r w1 ⟨rfl, hb1⟩
    have hbw := bel_trans (bel_alloc w (.cells #[.bool false, .slice none 0 0, .int .i64 0] 33)) hb1
    go_wp2_with fail
    refine (hVy (by trivial) _ hbw).mono ?_
    rintro r w2 ⟨v, rfl, hD⟩
    obtain ⟨ng', s', m', e', rfl, hyy, hA2⟩ := id hD
    obtain ⟨so', sn', sc', rfl⟩ := hA2.num.shape
    have q0 := ((bel_trans hb1 hD.below).block w.heap.size (by rw [size1]; omega)).trans (heap_a1 _ _)
    have x0 := blkC q0 0 rfl
    have x1 := blkC q0 1 rfl
    have x2 := blkC q0 2 rfl
    have z0 := blkF q0 0
    have z1 := blkF q0 1
    have z2 := blkF q0 2
    go_wp2
    refine bodyPost_ret (v := .tuple #[.agg #[.bool ng', .slice so' sn' sc', .int .i64 e'], .int .i64 0]) (by simp [results, Tryd.results10, go_sem, x0, x1, x2]) rfl ⟨_, _, rfl, ?_, .inl ⟨by trivial, rfl, ?_⟩⟩
    · exact bel_set3 (bel_trans hbw hD.below) (Nat.le_refl _) _ _ _
    · exact dans_res3 (g := w.heap.size) hD hbw (Nat.le_refl _) (Nat.lt_of_lt_of_le (by rw [size1]; omega) hb1.size) _ _ _
end Go.Proofs.YtnhkagiionkjaaaDoor

/-
  Package dyadic's calls on numbers that are told by their worth.
-/
namespace Go.Proofs.YtnhkagiionkjaaaDoor
open Go Go.RowKit Go.Proofs.YtnhkagiionkjaaaDoor.M
set_option linter.unusedSimpArgs false
set_option linter.unusedVariables false

/-- A number by its worth, laid open. -/
theorem DNum.open {w : World} {v : Value} {V : Int} (h : DNum w v V) (ok : Dok V) : ∃ x : NumR, v = x.v ∧ Row w x.ao x.n x.cap x.d ∧ okR x = true ∧ x.V = V := by
  obtain ⟨ng, s, m, e, rfl, hy, ao, n, cap, d, rfl, hR, hN, rfl⟩ := h
  refine ⟨⟨ng, ao, n, cap, d, e⟩, rfl, hR, ?_, hy.val.symm⟩
  obtain ⟨o1, o2, o3⟩ := hy.ok.1 ok
  refine decide_eq_true ?_
  by_cases h0 : n = 0
  · left
    have hz : val d n = 0 := by rw [h0]; rfl
    rcases hy.form with ⟨_, f2, f3⟩ | ⟨f1, _⟩
    · exact ⟨h0, f2, f3⟩
    · omega
  · right
    have hp := val_pos hN (show 0 < n by omega)
    rcases hy.form with ⟨f1, _⟩ | ⟨_, f2⟩
    · omega
    · refine ⟨by show 0 < n; omega, ⟨?_, hN⟩, ?_, o2, o3⟩
      · exact Num.len (w := w) (ao := ao) (cap := cap) ⟨_, _, _, _, rfl, hR, hN, rfl⟩ o1
      · obtain ⟨k, hk⟩ : ∃ k, n = 1 + k := ⟨n - 1, by omega⟩
        have := val_split d 1 k
        rw [← hk] at this
        rw [this, show val d 1 = d 0 by show 0 + d 0 * 1 = _; omega, show P 1 = 1073741824 from rfl] at f2
        show d 0 % 2 = 1
        omega
theorem DFit.yes {w w' : World} {V er : Int} {v : Value} (h : DFit w w' V v er) (ok : Dok V) : er = 0 ∧ DAns w w' V v := by
  rcases h.2 with ⟨_, h1, h2⟩ | ⟨hn, _⟩
  · exact ⟨h1, h2⟩
  · exact absurd ok hn
theorem add_D {w : World} {x y : Value} {A B : Int} (hx : DNum w x A) (hy : DNum w y B) (oA : Dok A) (oB : Dok B) (hT : Tab w) :
    Calls Tryd.prog 11 #[x, y] w fun r w' => ∃ v er, r = .returned (.tuple #[v, .int .i64 er]) ∧ DFit w w' (A + B) v er := by
  obtain ⟨x, rfl, hR, ok, rfl⟩ := hx.open oA
  obtain ⟨y, rfl, hR', ok', rfl⟩ := hy.open oB
  exact dadd_ok x y w hR hR' ok ok' hT
theorem valid_D {w : World} {x : Value} {A : Int} (hx : DNum w x A) (oA : Dok A) :
    Calls Tryd.prog 13 #[x] w fun r w' => r = .returned (.bool true) ∧ Below w.heap.size w w' := by
  obtain ⟨x, rfl, hR, ok, rfl⟩ := hx.open oA
  have := dvalid_any x.ng x.ao x.n x.cap x.d x.e w hR
  rwa [show okN x.ng x.d x.n x.e = true from ok] at this
theorem make_D {w : World} {s : Value} {m : Int} (ng : Bool) (e : Int) (hs : Num w s m) (hm : m < P 2000) (hT : Tab w) :
    Calls Tryd.prog 9 #[.bool ng, s, .int .i64 e] w fun r w' => ∃ v er, r = .returned (.tuple #[v, .int .i64 er]) ∧ DFit w w' (mkV ng m e) v er := by
  obtain ⟨ao, n, cap, d, rfl, hR, hN, rfl⟩ := hs
  exact dmake_all ng ao n cap d e w hR (Num.ok hN hm) hT
set_option maxRecDepth 100000 in
set_option maxHeartbeats 1000000 in
theorem same_R (an bn : Bool) (ao bo : Option Addr) (n m ca cb : Nat) (a b : Nat → Int) (e f : Int) (w : World) (ha : Row w ao n ca a) (hb : Row w bo m cb b) :
    Calls Tryd.prog 12 #[.agg #[.bool an, .slice ao n ca, .int .i64 e], .agg #[.bool bn, .slice bo m cb, .int .i64 f]] w fun r w' => r = .returned (.bool ((an == bn) && (e == f) && sameB a b n m)) ∧ Below w.heap.size w w' := by
  have hb2 := bel_alloc2 w (.cells #[.bool an, .slice ao n ca, .int .i64 e] 33) (.cells #[.bool bn, .slice bo m cb, .int .i64 f] 33)
  have hC := same_any ao bo n m ca cb a b _ (ha.keeps hb2) (hb.keeps hb2)
  by_cases h1 : an = bn
  · by_cases h2 : e = f
    · subst h1 h2
      have e0 : ((an == an) && (e == e) && sameB a b n m) = sameB a b n m := by simp
      rw [e0]
      go_enter Tryd.func12, Tryd.ntmps12
      go_wp2_with fail
      refine hC.mono ?_
      rintro r w1 ⟨rfl, h1⟩
      go_wp2
      go_ret
      exact ⟨rfl, bel_trans hb2 h1⟩
    · have h2' : (e == f) = false := by simp [h2]
      subst h1
      have e0 : ((an == an) && (e == f) && sameB a b n m) = false := by simp [h2]
      rw [e0]
      go_enter Tryd.func12, Tryd.ntmps12
      go_wp2
      go_ret
      exact ⟨rfl, hb2⟩
  · have h1' : (an == bn) = false := by simp [h1]
    have e0 : ((an == bn) && (e == f) && sameB a b n m) = false := by simp [h1]
    rw [e0]
    go_enter Tryd.func12, Tryd.ntmps12
    go_wp2
    go_ret
    exact ⟨rfl, hb2⟩
theorem sameB_iff {a b : Nat → Int} {n m : Nat} (ha : Nrm a n) (hb : Nrm b m) : sameB a b n m = decide (val a n = val b m) := by
  by_cases h : val a n = val b m
  · rw [sameB_of ha hb h, decide_eq_true h]
  · rw [decide_eq_false h]
    refine decide_eq_false fun ⟨h1, h2⟩ => h ?_
    subst h1
    exact val_congr h2
theorem same_D {w : World} {x y : Value} {A B : Int} (hx : DNum w x A) (hy : DNum w y B) :
    Calls Tryd.prog 12 #[x, y] w fun r w' => r = .returned (.bool (decide (A = B))) ∧ Below w.heap.size w w' := by
  obtain ⟨ng, s, m, e, rfl, hA, ao, n, ca, a, rfl, hR, hN, rfl⟩ := hx
  obtain ⟨ng', s', m', e', rfl, hB, ao', n', ca', a', rfl, hR', hN', rfl⟩ := hy
  have := same_R ng ng' ao ao' n n' ca ca' a a' e e' w hR hR'
  rw [sameB_iff hN hN'] at this
  have e0 : ((ng == ng') && (e == e') && decide (val a n = val a' n')) = decide (A = B) := by
    by_cases h : A = B
    · subst h
      obtain ⟨h1, h2, h3⟩ := hA.unique hB
      subst h1 h3
      simp [h2]
    · rw [decide_eq_false h]
      cases hx : ((ng == ng') && (e == e') && decide (val a n = val a' n'))
      · rfl
      · simp only [Bool.and_eq_true, beq_iff_eq, decide_eq_true_eq] at hx
        obtain ⟨⟨h1, h2⟩, h3⟩ := hx
        exfalso
        apply h
        rw [hA.val, hB.val, h1, h2, h3]
  rwa [e0] at this
end Go.Proofs.YtnhkagiionkjaaaDoor
