/-
  Parts of the proof, one behind another.
-/
import Derived.Test.YtmgndnabaemgkaaDoorPart5
import Derived.Test.YtmgndnabaemgkaaDoorPart3
import Derived.Deep.RegionHeld3
import Derived.Test.YtmgndnabaemgkaaDoorPart4
import Derived.Deep.AppendLies
import Derived.Deep.RegionLaw
import Derived.Test.YtmgndnabaemgkaaDoorRows
import Derived.Test.YtmgndnabaemgkaaDoorPart2
import Derived.ProofKit
import Derived.OpenShut
import Derived.ChangeOld
import Derived.LaidMore
import Derived.Deep.Strs
import Derived.Lib.LaidTab
import Derived.MakeChecks
import Derived.Stop.LaidErr
/-
  Package dyadic: product, Mul, by contracts.
-/
namespace Go.Proofs.YtmgndnabaemgkaaDoor
open Go Go.RowKit Go.Proofs.YtmgndnabaemgkaaDoor.M
set_option linter.unusedSimpArgs false
set_option linter.unusedVariables false

/-- A product's worth. -/
def mulV (x y : NumR) : Int := sg (x.ng != y.ng) (val x.d x.n * val y.d y.n) * pw (x.e + y.e)
theorem mulV_eq {x y : NumR} (hx : -2097152 ≤ x.e) (hy : -2097152 ≤ y.e) : mulV x y * 2 ^ 4194304 = x.V * y.V := by
  unfold mulV NumR.V
  rw [Int.mul_assoc, ← pw_mul hx hy, ← sg_mul]; grind
set_option maxRecDepth 100000 in
set_option maxHeartbeats 2000000 in
theorem dproduct_any (x y : NumR) (w : World) (hx : Row w x.ao x.n x.cap x.d) (hy : Row w y.ao y.n y.cap y.d) (sx : Sane x) (sy : Sane y) :
    Calls Tryd.prog 22 #[x.v, y.v] w fun r w' => ∃ s, r = .returned (.agg #[.bool (x.ng != y.ng), s, .int .i64 (x.e + y.e)]) ∧ Ans w w' (val x.d x.n * val y.d y.n) s := by
  obtain ⟨an, ao, n, ca, a, e⟩ := x
  obtain ⟨bn, bo, m, cb, b, f⟩ := y
  obtain ⟨s1, s2, s3, s4⟩ := sx
  obtain ⟨t1, t2, t3, t4⟩ := sy
  unfold NumR.v
  simp only at *
  have hw : IntKind.i64.wrap (e + f) = e + f := by rw [wrap_i64_eq]; omega
  have hb3 := bel_a3 w (.cells #[.bool an, .slice ao n ca, .int .i64 e] 27) (.cells #[.bool bn, .slice bo m cb, .int .i64 f] 27) (.cells #[.bool false, .slice none 0 0, .int .i64 0] 27)
  have g0 := h3_0 w (.cells #[.bool an, .slice ao n ca, .int .i64 e] 27) (.cells #[.bool bn, .slice bo m cb, .int .i64 f] 27) (.cells #[.bool false, .slice none 0 0, .int .i64 0] 27)
  have g1 := h3_1 w (.cells #[.bool an, .slice ao n ca, .int .i64 e] 27) (.cells #[.bool bn, .slice bo m cb, .int .i64 f] 27) (.cells #[.bool false, .slice none 0 0, .int .i64 0] 27)
  have g2 := h3_2 w (.cells #[.bool an, .slice ao n ca, .int .i64 e] 27) (.cells #[.bool bn, .slice bo m cb, .int .i64 f] 27) (.cells #[.bool false, .slice none 0 0, .int .i64 0] 27)
  have hs3 := size3 w (.cells #[.bool an, .slice ao n ca, .int .i64 e] 27) (.cells #[.bool bn, .slice bo m cb, .int .i64 f] 27) (.cells #[.bool false, .slice none 0 0, .int .i64 0] 27)
  go_enter Tryd.func22, Tryd.ntmps22
  go_wp2_with fail
  have HX := hx.keeps hb3
  have HY := hy.keeps hb3
  generalize ((w.alloc (.cells #[.bool an, .slice ao n ca, .int .i64 e] 27)).alloc (.cells #[.bool bn, .slice bo m cb, .int .i64 f] 27)).alloc (.cells #[.bool false, .slice none 0 0, .int .i64 0] 27) = wx at hb3 g0 g1 g2 hs3 HX HY ⊢
  have k0 := blkC g0 0 rfl
  have k1 := blkC g0 1 rfl
  have k2 := blkC g0 2 rfl
  have j0 := blkC g1 0 rfl
  have j1 := blkC g1 1 rfl
  have j2 := blkC g1 2 rfl
  have hb1 := bel_refl wx
  have C1 : ∀ W, Below wx.heap.size wx W → Calls Tryd.prog 42 #[.slice ao n ca, .slice bo m cb] W fun r w' => ∃ so sn sc, r = .returned (.slice so sn sc) ∧ Ans W w' (val a n * val b m) (.slice so sn sc) ∧ Below W.heap.size W w' := fun W h => by
    refine (product_any ao bo n m ca cb a b W (HX.keeps h) (HY.keeps h) s1.1 t1.1 (by omega) (by omega)).mono ?_
    rintro r w' ⟨v, rfl, hA⟩
    obtain ⟨so, sn, sc, rfl⟩ := hA.num.shape
    exact ⟨so, sn, sc, rfl, hA, hA.below⟩
  go_region_held3 (fun W => (W.cell? ⟨w.heap.size, 0, none⟩ = some (.bool an) ∧ W.cell? ⟨w.heap.size, 1, none⟩ = some (.slice ao n ca) ∧ W.cell? ⟨w.heap.size, 2, none⟩ = some (.int .i64 e)) ∧ W.cell? ⟨w.heap.size + 1, 0, none⟩ = some (.bool bn) ∧ W.cell? ⟨w.heap.size + 1, 1, none⟩ = some (.slice bo m cb) ∧ W.cell? ⟨w.heap.size + 1, 2, none⟩ = some (.int .i64 f))
    (first | assumption | exact ⟨⟨k0, k1, k2⟩, j0, j1, j2⟩ | exact ⟨keepB (W := wx.drew) ⟨k0, k1, k2⟩ hbv1, keepB (W := wx.drew) ⟨j0, j1, j2⟩ hbv1⟩ | exact ⟨keepS (keepB (W := wx.drew) ⟨k0, k1, k2⟩ hbv1) (by omega) _ _ _, keepS (keepB (W := wx.drew) ⟨j0, j1, j2⟩ hbv1) (by omega) _ _ _⟩)
    (first | (go_at_call 42; refine (C1 _ hb1.drew).mono ?_; rintro y w3 ⟨so, sn, sc, rfl, hv, hbv1⟩; have q0 := (hbv1.block (w.heap.size + 2) (by show _ < wx.heap.size; omega)).trans g2; have x0 := blkC q0 0 rfl; have x1 := blkC q0 1 rfl; have x2 := blkC q0 2 rfl; have z0 := blkF q0 0; have z1 := blkF q0 1; have z2 := blkF q0 2) | fail)
  all_goals go_wp2
  all_goals
    refine bodyPost_ret (v := .agg #[.bool (!(an == bn)), .slice so sn sc, .int .i64 (e + f)]) (by simp [results, Tryd.results22, go_sem, x0, x1, x2]) rfl ⟨_, rfl, ?_⟩
    exact ans_res (g := w.heap.size + 2) (hv.from hb1.drew) hb3 (by omega) (by omega) _ _ _
set_option maxRecDepth 100000 in
set_option maxHeartbeats 1000000 in
theorem mul1_any (x y : NumR) (g h : Nat) (w : World) (cg : w.heap[g]? = some (.cells #[.bool x.ng, .slice x.ao x.n x.cap, .int .i64 x.e] 27 (0, 0))) (ch : w.heap[h]? = some (.cells #[.bool y.ng, .slice y.ao y.n y.cap, .int .i64 y.e] 27 (0, 0)))
    (hx : Row w x.ao x.n x.cap x.d) (hy : Row w y.ao y.n y.cap y.d) (sx : Sane x) (sy : Sane y) (hT : Tab w) :
    Calls Tryd.prog 20 #[.pointer (some ⟨g, 0, none⟩), .pointer (some ⟨h, 0, none⟩)] w (DOut w (mulV x y)) := by
  have hP := fun W hb => dproduct_any x y W (hx.keeps hb) (hy.keeps hb) sx sy
  have hV : mulV x y = sg (x.ng != y.ng) (val x.d x.n * val y.d y.n) * pw (x.e + y.e) := rfl
  have he : -4194304 ≤ x.e + y.e := by have := sx.2.2.1; have := sy.2.2.1; omega
  have hlen : val x.d x.n * val y.d y.n < P 10000 := by
    have a1 := val_lt sx.1.1
    have a2 := val_lt sy.1.1
    have b1 := val_nonneg sx.1.1
    have b2 := val_nonneg sy.1.1
    have c1 : val x.d x.n * val y.d y.n ≤ P x.n * val y.d y.n := Int.mul_le_mul_of_nonneg_right (by omega) b2
    have c2 : P x.n * val y.d y.n < P x.n * P y.n := Int.mul_lt_mul_of_pos_left a2 (P_pos _)
    rw [← P_add] at c2
    have := P_le (show x.n + y.n ≤ 10000 by have := sx.2.1; have := sy.2.1; omega)
    omega
  generalize mulV x y = V at hV ⊢
  unfold NumR.v at hP
  obtain ⟨an, ao, n, ca, a, e⟩ := x
  obtain ⟨bn, bo, m, cb, b, f⟩ := y
  simp only at cg ch hx hy hP hV he hlen
  have hb := bel_alloc w (.cells #[.bool false, .slice none 0 0, .int .i64 0] 27)
  have g0 := heap_past (.cells #[.bool false, .slice none 0 0, .int .i64 0] 27) cg
  have g1 := heap_past (.cells #[.bool false, .slice none 0 0, .int .i64 0] 27) ch
  have k0 := blkC g0 0 rfl
  have k1 := blkC g0 1 rfl
  have k2 := blkC g0 2 rfl
  have j0 := blkC g1 0 rfl
  have j1 := blkC g1 1 rfl
  have j2 := blkC g1 2 rfl
  clear sx sy
  have HV : Hid (V = sg (an != bn) (val a n * val b m) * pw (e + f)) := hV
  clear hV
  go_enter Tryd.func20, Tryd.ntmps20
  go_wp2_with fail
  refine (hP _ hb).mono ?_
  rintro r w3 ⟨s, rfl, hA⟩
  obtain ⟨so, sn, sc, d, rfl, hR, hN, hv⟩ := hA.num
  have hsn : sn ≤ 10000 := hA.num.len hlen
  have hb3 := bel_trans hb hA.below
  go_wp2_with fail
  refine (settle_any (V := V) hR hN.1 (by omega) (hT.keeps hb3) he (by rw [hv]; exact HV.out)).mono ?_
  rintro r w7 (⟨hok, v, rfl, hD⟩ | ⟨hno, rfl, hb7⟩)
  · have hb7 := hD.below
    obtain ⟨ng', s', m', e', rfl, hyy, hA2⟩ := id hD
    obtain ⟨so', sn', sc', rfl⟩ := hA2.num.shape
    have q0 := ((bel_trans hA.below hb7).block w.heap.size (by rw [size1]; omega)).trans (heap_a1 _ _)
    have x0 := blkC q0 0 rfl
    have x1 := blkC q0 1 rfl
    have x2 := blkC q0 2 rfl
    have z0 := blkF q0 0
    have z1 := blkF q0 1
    have z2 := blkF q0 2
    go_wp2
    refine bodyPost_ret (v := .agg #[.bool ng', .slice so' sn' sc', .int .i64 e']) (by simp [results, Tryd.results20, go_sem, x0, x1, x2]) rfl ?_
    exact .inl ⟨hok, _, rfl, dans_res3 (g := w.heap.size) hD hb3 (Nat.le_refl _) (Nat.lt_of_lt_of_le (by rw [size1]; omega) hA.below.size) _ _ _⟩
  · exact ⟨rfl, .inr ⟨hno, rfl, bel_trans hb3 hb7⟩⟩
set_option maxRecDepth 100000 in
set_option maxHeartbeats 1000000 in
theorem dmul_ok (x y : NumR) (w : World) (hx : Row w x.ao x.n x.cap x.d) (hy : Row w y.ao y.n y.cap y.d) (ox : okR x = true) (oy : okR y = true) (hT : Tab w) :
    Calls Tryd.prog 8 #[x.v, y.v] w fun r w' => ∃ v er, r = .returned (.tuple #[v, .int .i64 er]) ∧ DFit w w' (mulV x y) v er := by
  have hmf : ∀ (fn : Fn) (first cap : Array Value) (w : World), (Instr.makeFunc fn first cap).run Tryd.prog w = .ok (.func fn first cap) w := fun _ _ _ _ => rfl
  have hE : ∀ (cap : Array Value) (w : World), (callFunc 20 cap).run Tryd.prog w = .ok (.enter 20 cap) w := by
    intro cap w
    simp [go_sem]
  have hA := allOk2 x y
  rw [ox, oy] at hA
  have hN := fun W q hb => nums2 (w := W) (g := w.heap.size + 3) (x := x) (y := y) (t := 27) q (hx.keeps hb) (hy.keeps hb)
  have hC := fun W hb cg ch => mul1_any x y w.heap.size (w.heap.size + 1) W cg ch (hx.keeps hb) (hy.keeps hb) (okR_sane ox) (okR_sane oy) (hT.keeps hb)
  generalize pair2 x y = pr at hA hN
  generalize mulV x y = V at hC ⊢
  clear ox oy
  obtain ⟨an, ao, n, ca, a, e⟩ := x
  obtain ⟨bn, bo, m, cb, b, f⟩ := y
  unfold NumR.v
  simp only at hx hy hN hC ⊢
  go_enter Tryd.func8, Tryd.ntmps8
  go_wp2_with fail
  refine (dvalids_any _ _ _ _ _ (hN _ (h4_3 _ _ _ _ _) (bel_a4 _ _ _ _ _))).mono ?_
  rw [hA]
  rintro r w1 ⟨rfl, hb1⟩
  have hbw := bel_trans (bel_a4 w _ _ _ _) hb1
  have g0 := (hb1.block w.heap.size (by rw [size4]; omega)).trans (h4_0 _ _ _ _ _)
  have g1 := (hb1.block (w.heap.size + 1) (by rw [size4]; omega)).trans (h4_1 _ _ _ _ _)
  have g2 := (hb1.block (w.heap.size + 2) (by rw [size4]; omega)).trans (h4_2 _ _ _ _ _)
  have hs4 : w.heap.size + 4 ≤ w1.heap.size := by have := hb1.size; rw [size4] at this; exact this
  go_wp2_with fail
  refine (told_any (V := V) (hE _) (fun W hW => hC W (bel_trans hbw hW) ((hW.block _ (by omega)).trans g0) ((hW.block _ (by omega)).trans g1))).mono ?_
  rintro r w2 ⟨v, er, rfl, hF⟩
  obtain ⟨ng', so, sn, sc, e', rfl⟩ := hF.shape
  have q0 := (hF.1.block (w.heap.size + 2) (by omega)).trans g2
  have x0 := blkC q0 0 rfl
  have x1 := blkC q0 1 rfl
  have x2 := blkC q0 2 rfl
  have z0 := blkF q0 0
  have z1 := blkF q0 1
  have z2 := blkF q0 2
  go_wp2
  refine bodyPost_ret (v := .tuple #[.agg #[.bool ng', .slice so sn sc, .int .i64 e'], .int .i64 er]) (by simp [results, Tryd.results8, go_sem, x0, x1, x2]) rfl ⟨_, _, rfl, ?_⟩
  exact dfit_res (g := w.heap.size + 2) hF hbw (by omega) (by omega) _ _ _
end Go.Proofs.YtmgndnabaemgkaaDoor

/-
  Package dyadic: Neg, Abs, Sign, Scale, by contracts.
-/
namespace Go.Proofs.YtmgndnabaemgkaaDoor
open Go Go.RowKit Go.Proofs.YtmgndnabaemgkaaDoor.M
set_option linter.unusedSimpArgs false
set_option linter.unusedVariables false

end Go.Proofs.YtmgndnabaemgkaaDoor

/-
  Package dyadic: compare, Cmp, by contracts.
-/
namespace Go.Proofs.YtmgndnabaemgkaaDoor
open Go Go.RowKit Go.Proofs.YtmgndnabaemgkaaDoor.M
set_option linter.unusedSimpArgs false
set_option linter.unusedVariables false

theorem ord_scale {a b p : Int} (hp : 0 < p) : ord (a * p) (b * p) = ord a b := by
  rcases Int.lt_trichotomy a b with h | h | h
  · rw [ord_lt h, ord_lt (Int.mul_lt_mul_of_pos_right h hp)]
  · rw [ord_eq h, ord_eq (by rw [h])]
  · rw [ord_gt h, ord_gt (Int.mul_lt_mul_of_pos_right h hp)]
theorem dcompare_num {w : World} {x y : Value} {A B : Int} (hx : Num w x A) (hy : Num w y B) :
    Calls Tryd.prog 81 #[x, y] w fun e w' => e = .returned (.int .i64 (ord A B)) ∧ Below w.heap.size w w' := by
  obtain ⟨ao, n, ca, a, rfl, hR, hN, rfl⟩ := hx
  obtain ⟨bo, m, cb, b, rfl, hR', hN', rfl⟩ := hy
  exact compare_any _ _ _ _ _ _ _ _ _ hR hR' hN hN'
/-- What reaches higher is greater. -/
theorem top_lt {a b e f : Int} (ha : 0 < a) (hb : 0 < b) (he : -4194304 ≤ e) (hf : -4194304 ≤ f) (h : e + blen a < f + blen b) : a * pw e < b * pw f := by
  have h1 := blen_lt a
  have h2 := (blen_pos hb)
  have hpe := pw_pos e
  have hpf := pw_pos f
  have c1 : a * pw e < 2 ^ blen a * pw e := Int.mul_lt_mul_of_pos_right h1 hpe
  have c2 : 2 ^ (blen b - 1) * pw f ≤ b * pw f := Int.mul_le_mul_of_nonneg_right h2.2 (Int.le_of_lt hpf)
  have c3 : 2 ^ blen a * pw e ≤ 2 ^ (blen b - 1) * pw f := by
    unfold pw
    rw [← Int.pow_add, ← Int.pow_add]
    exact two_le (by have := h2.1; omega)
  omega
theorem ord_tops {a b e f : Int} (ha : 0 < a) (hb : 0 < b) (he : -4194304 ≤ e) (hf : -4194304 ≤ f) (h : e + blen a ≠ f + blen b) : ord (e + blen a) (f + blen b) = ord (a * pw e) (b * pw f) := by
  rcases Int.lt_or_gt_of_ne h with h1 | h1
  · rw [ord_lt h1, ord_lt (top_lt ha hb he hf h1)]
  · rw [ord_gt h1, ord_gt (top_lt hb ha hf he h1)]
theorem ord_low {a b e f low : Int} (hl : -4194304 ≤ low) (he : low ≤ e) (hf : low ≤ f) : ord (a * 2 ^ (e - low).toNat) (b * 2 ^ (f - low).toNat) = ord (a * pw e) (b * pw f) := by
  rw [pw_sub hl he, pw_sub hl hf, ← Int.mul_assoc, ← Int.mul_assoc, ord_scale (pw_pos _)]
/-- Two numbers' own blocks, behind a call. -/
theorem keep66 {W w' : World} {g h : Nat} {a b c d e f : Value} (hb : Below W.heap.size W w') (hS : (W.cell? ⟨g, 0, none⟩ = some a ∧ W.cell? ⟨g, 1, none⟩ = some b ∧ W.cell? ⟨g, 2, none⟩ = some c) ∧ W.cell? ⟨h, 0, none⟩ = some d ∧ W.cell? ⟨h, 1, none⟩ = some e ∧ W.cell? ⟨h, 2, none⟩ = some f) :
    (w'.cell? ⟨g, 0, none⟩ = some a ∧ w'.cell? ⟨g, 1, none⟩ = some b ∧ w'.cell? ⟨g, 2, none⟩ = some c) ∧ w'.cell? ⟨h, 0, none⟩ = some d ∧ w'.cell? ⟨h, 1, none⟩ = some e ∧ w'.cell? ⟨h, 2, none⟩ = some f :=
  ⟨keepB hS.1 hb, keepB hS.2 hb⟩
set_option maxRecDepth 100000 in
set_option maxHeartbeats 2000000 in
theorem dsizes_any (x y : NumR) (w : World) (hx : Row w x.ao x.n x.cap x.d) (hy : Row w y.ao y.n y.cap y.d) (sx : Sane x) (sy : Sane y) (hz : (0 < x.n ∧ 0 < y.n) ∨ (x.n = 0 ∧ y.n = 0 ∧ x.e = y.e)) :
    Calls Tryd.prog 66 #[x.v, y.v] w fun r w' => r = .returned (.int .i64 (ord (val x.d x.n * pw x.e) (val y.d y.n * pw y.e))) ∧ Below w.heap.size w w' := by
  have hX := fun W hb => dtop_any x.ng x.ao x.n x.cap x.d x.e W (hx.keeps hb) sx.1 (by have := sx.2.1; omega) (by have := sx.2.2.1; omega) (by have := sx.2.2.2; omega)
  have hY := fun W hb => dtop_any y.ng y.ao y.n y.cap y.d y.e W (hy.keeps hb) sy.1 (by have := sy.2.1; omega) (by have := sy.2.2.1; omega) (by have := sy.2.2.2; omega)
  have lx := sx.len
  have ly := sy.len
  have hpp : x.e + blen (val x.d x.n) ≠ y.e + blen (val y.d y.n) → 0 < val x.d x.n ∧ 0 < val y.d y.n := fun hne => by
    rcases hz with ⟨h0, h1⟩ | ⟨h0, h1, h2⟩
    · exact ⟨val_pos sx.1 h0, val_pos sy.1 h1⟩
    · exact absurd (by rw [h0, h1, h2]; rfl) hne
  clear hz
  obtain ⟨an, ao, n, ca, a, e⟩ := x
  obtain ⟨bn, bo, m, cb, b, f⟩ := y
  obtain ⟨s1, s2, s3, s4⟩ := sx
  obtain ⟨t1, t2, t3, t4⟩ := sy
  unfold NumR.v
  simp only at *
  have hmin : ∀ (ts : Array TypeId) (t : TypeId) (x y : Int) (w : World), (Builtin.min_ ts t #[.int .i64 x, .int .i64 y]).run Tryd.prog w = .ok (.int .i64 (min x y)) w := fun ts t x y w => by rw [run_min_int2]; congr 2; omega
  have hb3 := bel_alloc2 w (.cells #[.bool an, .slice ao n ca, .int .i64 e] 27) (.cells #[.bool bn, .slice bo m cb, .int .i64 f] 27)
  have g0 := heap_a2 w (.cells #[.bool an, .slice ao n ca, .int .i64 e] 27) (.cells #[.bool bn, .slice bo m cb, .int .i64 f] 27)
  have g1 := heap_b2 w (.cells #[.bool an, .slice ao n ca, .int .i64 e] 27) (.cells #[.bool bn, .slice bo m cb, .int .i64 f] 27)
  go_enter Tryd.func66, Tryd.ntmps66
  go_wp2_with fail
  generalize (w.alloc (.cells #[.bool an, .slice ao n ca, .int .i64 e] 27)).alloc (.cells #[.bool bn, .slice bo m cb, .int .i64 f] 27) = wx at hb3 g0 g1 ⊢
  have k0 := blkC g0 0 rfl
  have k1 := blkC g0 1 rfl
  have k2 := blkC g0 2 rfl
  have j0 := blkC g1 0 rfl
  have j1 := blkC g1 1 rfl
  have j2 := blkC g1 2 rfl
  have hb1 := bel_refl wx
  have CA : ∀ W, Below wx.heap.size wx W → Calls Tryd.prog 80 #[.agg #[.bool an, .slice ao n ca, .int .i64 e]] W fun r w' => r = .returned (.int .i64 (e + blen (val a n))) ∧ Below W.heap.size W w' := fun W h => hX W (bel_trans hb3 h)
  have CB : ∀ W, Below wx.heap.size wx W → Calls Tryd.prog 80 #[.agg #[.bool bn, .slice bo m cb, .int .i64 f]] W fun r w' => r = .returned (.int .i64 (f + blen (val b m))) ∧ Below W.heap.size W w' := fun W h => hY W (bel_trans hb3 h)
  clear hX hY
  go_region_held3 (fun W => (W.cell? ⟨w.heap.size, 0, none⟩ = some (.bool an) ∧ W.cell? ⟨w.heap.size, 1, none⟩ = some (.slice ao n ca) ∧ W.cell? ⟨w.heap.size, 2, none⟩ = some (.int .i64 e)) ∧ W.cell? ⟨w.heap.size + 1, 0, none⟩ = some (.bool bn) ∧ W.cell? ⟨w.heap.size + 1, 1, none⟩ = some (.slice bo m cb) ∧ W.cell? ⟨w.heap.size + 1, 2, none⟩ = some (.int .i64 f))
    (first | assumption | exact ⟨⟨k0, k1, k2⟩, j0, j1, j2⟩ | exact keep66 hbv2 (keep66 (W := wx.drew) hbv1 ⟨⟨k0, k1, k2⟩, j0, j1, j2⟩) | exact keep66 (W := wx.drew) hbv1 ⟨⟨k0, k1, k2⟩, j0, j1, j2⟩)
    (first | (go_at_call 80; have _t := hbv1; refine (CB _ (bel_trans hb1.drew hbv1)).mono ?_; rintro r w4 ⟨rfl, hbv2⟩) | (go_at_call 80; refine (CA _ hb1.drew).mono ?_; rintro r w3 ⟨rfl, hbv1⟩))
  have hS4 := keep66 hbv2 (keep66 (W := wx.drew) hbv1 ⟨⟨k0, k1, k2⟩, j0, j1, j2⟩)
  have hx4 : Below wx.heap.size wx w4 := bel_trans (bel_trans hb1.drew hbv1) hbv2
  clear k0 k1 k2 j0 j1 j2 g0 g1
  obtain ⟨⟨k0, k1, k2⟩, j0, j1, j2⟩ := hS4
  by_cases heq : e + blen (val a n) = f + blen (val b m)
  · have hne : (e + (blen (val a n) : Int) != f + blen (val b m)) = false := by simp [heq]
    have HEQ : Hid (e + blen (val a n) = f + blen (val b m)) := heq
    clear heq
    go_wp2_with fail
    have l1 : min e f ≤ e := Int.min_le_left _ _
    have l2 : min e f ≤ f := Int.min_le_right _ _
    have l3 : e - min e f ≤ 150000 ∧ f - min e f ≤ 150000 ∧ -1100000 ≤ min e f := by have := HEQ.out; omega
    generalize min e f = low at l1 l2 l3 ⊢
    have HO0 := ord_low (a := val a n) (b := val b m) (by omega) l1 l2
    obtain ⟨ka, hka⟩ : ∃ ka : Nat, e - low = ka := ⟨(e - low).toNat, by omega⟩
    obtain ⟨kb, hkb⟩ : ∃ kb : Nat, f - low = kb := ⟨(f - low).toNat, by omega⟩
    have hwa : IntKind.i64.wrap (e - low) = (ka : Int) := by rw [wrap_i64_eq]; omega
    have hwb : IntKind.i64.wrap (f - low) = (kb : Int) := by rw [wrap_i64_eq]; omega
    rw [show (e - low).toNat = ka by omega, show (f - low).toNat = kb by omega] at HO0
    have hka0 : ka ≤ 1000000 := by omega
    have hkb0 : kb ≤ 1000000 := by omega
    clear hka hkb
    have hb4 := bel_refl w4
    have RA : ∀ W, Below w4.heap.size w4 W → Calls Tryd.prog 82 #[.slice ao n ca, .int .i64 (ka : Int)] W fun r w' => ∃ so sn sc, r = .returned (.slice so sn sc) ∧ Ans W w' (val a n * 2 ^ ka) (.slice so sn sc) ∧ Below W.heap.size W w' := fun W h => by
      refine (raise_any ao n ca ka a W (hx.keeps (bel_trans hb3 (bel_trans hx4 h))) s1.1 (by omega) (by omega)).mono ?_
      rintro r w' ⟨v, rfl, hA⟩
      obtain ⟨so, sn, sc, rfl⟩ := hA.num.shape
      exact ⟨so, sn, sc, rfl, hA, hA.below⟩
    have RB : ∀ W, Below w4.heap.size w4 W → Calls Tryd.prog 82 #[.slice bo m cb, .int .i64 (kb : Int)] W fun r w' => ∃ so sn sc, r = .returned (.slice so sn sc) ∧ Ans W w' (val b m * 2 ^ kb) (.slice so sn sc) ∧ Below W.heap.size W w' := fun W h => by
      refine (raise_any bo m cb kb b W (hy.keeps (bel_trans hb3 (bel_trans hx4 h))) t1.1 (by omega) (by omega)).mono ?_
      rintro r w' ⟨v, rfl, hA⟩
      obtain ⟨so, sn, sc, rfl⟩ := hA.num.shape
      exact ⟨so, sn, sc, rfl, hA, hA.below⟩
    have HO : Hid (ord (val a n * 2 ^ ka) (val b m * 2 ^ kb) = ord (val a n * pw e) (val b m * pw f)) := HO0
    have HF : Hid (Below w.heap.size w w4) := bel_trans hb3 hx4
    clear CA CB hbv1 hbv2 hx4 hb1 hb3 hx hy hpp lx ly l1 l2 l3 HEQ HO0
    go_region_held3 (fun W => (W.cell? ⟨w.heap.size, 0, none⟩ = some (.bool an) ∧ W.cell? ⟨w.heap.size, 1, none⟩ = some (.slice ao n ca) ∧ W.cell? ⟨w.heap.size, 2, none⟩ = some (.int .i64 e)) ∧ W.cell? ⟨w.heap.size + 1, 0, none⟩ = some (.bool bn) ∧ W.cell? ⟨w.heap.size + 1, 1, none⟩ = some (.slice bo m cb) ∧ W.cell? ⟨w.heap.size + 1, 2, none⟩ = some (.int .i64 f))
      (first | assumption | exact ⟨⟨k0, k1, k2⟩, j0, j1, j2⟩ | exact keep66 hbv5 (keep66 hbv4 (keep66 (W := w4.drew) hbv3 ⟨⟨k0, k1, k2⟩, j0, j1, j2⟩)) | exact keep66 hbv4 (keep66 (W := w4.drew) hbv3 ⟨⟨k0, k1, k2⟩, j0, j1, j2⟩) | exact keep66 (W := w4.drew) hbv3 ⟨⟨k0, k1, k2⟩, j0, j1, j2⟩)
      (first | (go_at_call 81; refine (dcompare_num (hv3.num.keeps hbv4) hv4.num).mono ?_; rintro r w7 ⟨rfl, hbv5⟩) | (go_at_call 82; have _t := hbv3; refine (RB _ (bel_trans hb4.drew hbv3)).mono ?_; rintro r w6 ⟨so4, sn4, sc4, rfl, hv4, hbv4⟩) | (go_at_call 82; refine (RA _ hb4.drew).mono ?_; rintro r w5 ⟨so3, sn3, sc3, rfl, hv3, hbv3⟩))
    go_wp2
    go_ret
    exact ⟨ret_int HO.out, bel_trans (bel_trans (bel_trans HF.out (bel_trans hb4.drew hbv3)) hbv4) hbv5⟩
  · have hne : (e + (blen (val a n) : Int) != f + blen (val b m)) = true := by simp [heq]
    have HO : Hid (ord (e + blen (val a n)) (f + blen (val b m)) = ord (val a n * pw e) (val b m * pw f)) := ord_tops (hpp heq).1 (hpp heq).2 (by omega) (by omega) heq
    have HF : Hid (Below w.heap.size w w4) := bel_trans hb3 hx4
    have CA4 : ∀ W, Below w4.heap.size w4 W → _ := fun W h => CA W (bel_trans hx4 h)
    have CB4 : ∀ W, Below w4.heap.size w4 W → _ := fun W h => CB W (bel_trans hx4 h)
    have hb4 := bel_refl w4
    clear CA CB hbv1 hbv2 hx4 hb1 hb3 hx hy hpp lx ly heq
    go_wp2_with fail
    go_region_held3 (fun W => (W.cell? ⟨w.heap.size, 0, none⟩ = some (.bool an) ∧ W.cell? ⟨w.heap.size, 1, none⟩ = some (.slice ao n ca) ∧ W.cell? ⟨w.heap.size, 2, none⟩ = some (.int .i64 e)) ∧ W.cell? ⟨w.heap.size + 1, 0, none⟩ = some (.bool bn) ∧ W.cell? ⟨w.heap.size + 1, 1, none⟩ = some (.slice bo m cb) ∧ W.cell? ⟨w.heap.size + 1, 2, none⟩ = some (.int .i64 f))
      (first | assumption | exact ⟨⟨k0, k1, k2⟩, j0, j1, j2⟩ | exact keep66 hbv4 (keep66 (W := w4.drew) hbv3 ⟨⟨k0, k1, k2⟩, j0, j1, j2⟩) | exact keep66 (W := w4.drew) hbv3 ⟨⟨k0, k1, k2⟩, j0, j1, j2⟩)
      (first | (go_at_call 65; refine (cmpInt_any _ _ _).mono ?_; rintro r w7 ⟨rfl, rfl⟩) | (go_at_call 80; have _t := hbv3; refine (CB4 _ (bel_trans hb4.drew hbv3)).mono ?_; rintro r w6 ⟨rfl, hbv4⟩) | (go_at_call 80; refine (CA4 _ hb4.drew).mono ?_; rintro r w5 ⟨rfl, hbv3⟩))
    go_wp2
    go_ret
    exact ⟨ret_int HO.out, bel_trans (bel_trans HF.out (bel_trans hb4.drew hbv3)) hbv4⟩
theorem ord_three (a b : Int) : ord a b = 1 ∨ ord a b = 0 ∨ ord a b = -1 := by
  rcases Int.lt_trichotomy a b with h | h | h
  · exact .inr (.inr (ord_lt h))
  · exact .inr (.inl (ord_eq h))
  · exact .inl (ord_gt h)
theorem sgn_V {x : NumR} (sx : Sane x) : (sgn x.ng x.n = 0 ∧ x.V = 0 ∧ x.n = 0) ∨ (sgn x.ng x.n = 1 ∧ 0 < x.V ∧ 0 < x.n ∧ x.ng = false) ∨ (sgn x.ng x.n = -1 ∧ x.V < 0 ∧ 0 < x.n ∧ x.ng = true) := by
  by_cases h0 : x.n = 0
  · left
    refine ⟨by simp [sgn, h0], ?_, h0⟩
    show sg x.ng (val x.d x.n) * _ = 0
    rw [h0]
    show sg x.ng 0 * _ = 0
    rw [sg_zero, Int.zero_mul]
  · right
    have hp := Int.mul_pos (val_pos sx.1 (show 0 < x.n by omega)) (pw_pos x.e)
    have hV : x.V = sg x.ng (val x.d x.n) * pw x.e := rfl
    cases hg : x.ng
    · left
      rw [hg] at hV
      exact ⟨by simp [sgn, h0], by rw [hV]; exact hp, by omega, rfl⟩
    · right
      rw [hg] at hV
      refine ⟨by simp [sgn, h0], ?_, by omega, rfl⟩
      rw [hV]
      show -val x.d x.n * pw x.e < 0
      rw [Int.neg_mul]; omega
theorem ord_signs {x y : NumR} (sx : Sane x) (sy : Sane y) (h : sgn x.ng x.n ≠ sgn y.ng y.n) : ord (sgn x.ng x.n) (sgn y.ng y.n) = ord x.V y.V := by
  rcases sgn_V sx with ⟨a, b, _⟩ | ⟨a, b, _⟩ | ⟨a, b, _⟩ <;> rcases sgn_V sy with ⟨c, d, _⟩ | ⟨c, d, _⟩ | ⟨c, d, _⟩ <;> rw [a, c] at h ⊢ <;>
    first
      | exact absurd rfl h
      | (rw [ord_lt (by decide), ord_lt (by omega)])
      | (rw [ord_gt (by decide), ord_gt (by omega)])
theorem ord_neg (a b : Int) : ord (-a) (-b) = -ord a b := by
  rcases Int.lt_trichotomy a b with h | h | h
  · rw [ord_lt h, ord_gt (by omega)]; rfl
  · rw [ord_eq h, ord_eq (by omega)]; rfl
  · rw [ord_gt h, ord_lt (by omega)]
theorem ord_same {x y : NumR} (ox : okR x = true) (oy : okR y = true) (h : sgn x.ng x.n = sgn y.ng y.n) : ((0 < x.n ∧ 0 < y.n) ∨ (x.n = 0 ∧ y.n = 0 ∧ x.e = y.e)) ∧ sgn x.ng x.n * ord (val x.d x.n * pw x.e) (val y.d y.n * pw y.e) = ord x.V y.V := by
  have hV : x.V = sg x.ng (val x.d x.n) * pw x.e := rfl
  have hW : y.V = sg y.ng (val y.d y.n) * pw y.e := rfl
  rcases sgn_V (okR_sane ox) with ⟨a, b, c⟩ | ⟨a, b, c, d⟩ | ⟨a, b, c, d⟩ <;> rcases sgn_V (okR_sane oy) with ⟨a', b', c'⟩ | ⟨a', b', c', d'⟩ | ⟨a', b', c', d'⟩ <;> rw [a, a'] at h <;> first | (exfalso; omega) | skip
  · refine ⟨.inr ⟨c, c', ?_⟩, ?_⟩
    · rcases of_decide_eq_true ox with ⟨_, _, e1⟩ | ⟨e1, _⟩
      · rcases of_decide_eq_true oy with ⟨_, _, e2⟩ | ⟨e2, _⟩
        · omega
        · omega
      · omega
    · rw [a, b, b', Int.zero_mul, ord_eq rfl]
  · refine ⟨.inl ⟨c, c'⟩, ?_⟩
    rw [a, hV, hW, d, d', Int.one_mul]; rfl
  · refine ⟨.inl ⟨c, c'⟩, ?_⟩
    rw [a, hV, hW, d, d']
    show -1 * _ = ord (-val x.d x.n * _) (-val y.d y.n * _)
    rw [Int.neg_mul (val x.d x.n), Int.neg_mul (val y.d y.n), ord_neg]; omega
set_option maxRecDepth 100000 in
set_option maxHeartbeats 2000000 in
theorem dcompare_any (x y : NumR) (w : World) (hx : Row w x.ao x.n x.cap x.d) (hy : Row w y.ao y.n y.cap y.d) (ox : okR x = true) (oy : okR y = true) :
    Calls Tryd.prog 43 #[x.v, y.v] w fun r w' => r = .returned (.int .i64 (ord x.V y.V)) ∧ Below w.heap.size w w' := by
  have sx := okR_sane ox
  have sy := okR_sane oy
  have hso : sgn x.ng x.n ≠ sgn y.ng y.n → ord (sgn x.ng x.n) (sgn y.ng y.n) = ord x.V y.V := ord_signs sx sy
  have hse : sgn x.ng x.n = sgn y.ng y.n → ((0 < x.n ∧ 0 < y.n) ∨ (x.n = 0 ∧ y.n = 0 ∧ x.e = y.e)) ∧ sgn x.ng x.n * ord (val x.d x.n * pw x.e) (val y.d y.n * pw y.e) = ord x.V y.V := ord_same ox oy
  have hZ := fun W hb hz => dsizes_any x y W (hx.keeps hb) (hy.keeps hb) sx sy hz
  have hX := fun W => dsign_any x.ng x.ao x.n x.cap x.e W (by have := hx.le; have := hx.max; omega)
  have hY := fun W => dsign_any y.ng y.ao y.n y.cap y.e W (by have := hy.le; have := hy.max; omega)
  generalize hU : ord x.V y.V = U at hso hse ⊢
  clear hU ox oy sx sy
  unfold NumR.v at hZ ⊢
  obtain ⟨an, ao, n, ca, a, e⟩ := x
  obtain ⟨bn, bo, m, cb, b, f⟩ := y
  simp only at *
  have hb3 := bel_alloc2 w (.cells #[.bool an, .slice ao n ca, .int .i64 e] 27) (.cells #[.bool bn, .slice bo m cb, .int .i64 f] 27)
  have g0 := heap_a2 w (.cells #[.bool an, .slice ao n ca, .int .i64 e] 27) (.cells #[.bool bn, .slice bo m cb, .int .i64 f] 27)
  have g1 := heap_b2 w (.cells #[.bool an, .slice ao n ca, .int .i64 e] 27) (.cells #[.bool bn, .slice bo m cb, .int .i64 f] 27)
  go_enter Tryd.func43, Tryd.ntmps43
  go_wp2_with fail
  generalize (w.alloc (.cells #[.bool an, .slice ao n ca, .int .i64 e] 27)).alloc (.cells #[.bool bn, .slice bo m cb, .int .i64 f] 27) = wx at hb3 g0 g1 ⊢
  have k0 := blkC g0 0 rfl
  have k1 := blkC g0 1 rfl
  have k2 := blkC g0 2 rfl
  have j0 := blkC g1 0 rfl
  have j1 := blkC g1 1 rfl
  have j2 := blkC g1 2 rfl
  have hb1 := bel_refl wx
  go_region_held3 (fun W => (W.cell? ⟨w.heap.size, 0, none⟩ = some (.bool an) ∧ W.cell? ⟨w.heap.size, 1, none⟩ = some (.slice ao n ca) ∧ W.cell? ⟨w.heap.size, 2, none⟩ = some (.int .i64 e)) ∧ W.cell? ⟨w.heap.size + 1, 0, none⟩ = some (.bool bn) ∧ W.cell? ⟨w.heap.size + 1, 1, none⟩ = some (.slice bo m cb) ∧ W.cell? ⟨w.heap.size + 1, 2, none⟩ = some (.int .i64 f))
    (first | assumption | exact ⟨⟨k0, k1, k2⟩, j0, j1, j2⟩ | exact keep66 hbv2 (keep66 (W := wx.drew) hbv1 ⟨⟨k0, k1, k2⟩, j0, j1, j2⟩) | exact keep66 (W := wx.drew) hbv1 ⟨⟨k0, k1, k2⟩, j0, j1, j2⟩)
    (first | (go_at_call 64; have _t := hbv1; refine (hY _).mono ?_; rintro r w4 ⟨rfl, hbv2⟩) | (go_at_call 64; refine (hX _).mono ?_; rintro r w3 ⟨rfl, hbv1⟩))
  have hS4 := keep66 hbv2 (keep66 (W := wx.drew) hbv1 ⟨⟨k0, k1, k2⟩, j0, j1, j2⟩)
  have hf4 := bel_trans hb3 (bel_trans (bel_trans hb1.drew hbv1) hbv2)
  clear k0 k1 k2 j0 j1 j2 g0 g1 hbv1 hbv2 hb1 hb3
  obtain ⟨⟨k0, k1, k2⟩, j0, j1, j2⟩ := hS4
  have hb4 := bel_refl w4
  have hsv : sgn an n = 1 ∨ sgn an n = 0 ∨ sgn an n = -1 := by unfold sgn; split; (· exact .inr (.inl rfl)); (· cases an <;> simp)
  by_cases heq : sgn an n = sgn bn m
  · have hne : (sgn an n != sgn bn m) = false := by simp [heq]
    obtain ⟨z1, z2⟩ := hse heq
    have HZ : Hid (sgn an n * ord (val a n * pw e) (val b m * pw f) = U) := z2
    have hZ4 : ∀ W, Below w4.heap.size w4 W → _ := fun W h => hZ W (bel_trans hf4 h) z1
    have hO : ∀ o : Int, (o = 1 ∨ o = 0 ∨ o = -1) → IntKind.i64.wrap (sgn an n * o) = sgn an n * o := fun o ho => by
      rw [wrap_i64_eq]
      rcases hsv with h | h | h <;> rcases ho with q | q | q <;> rw [h, q] <;> decide
    have hw := hO _ (ord_three (val a n * pw e) (val b m * pw f))
    clear hso hse heq z2 hO hZ hsv
    go_wp2_with fail
    generalize ord (val a n * pw e) (val b m * pw f) = O at hZ4 hw HZ
    go_region_held3 (fun W => (W.cell? ⟨w.heap.size, 0, none⟩ = some (.bool an) ∧ W.cell? ⟨w.heap.size, 1, none⟩ = some (.slice ao n ca) ∧ W.cell? ⟨w.heap.size, 2, none⟩ = some (.int .i64 e)) ∧ W.cell? ⟨w.heap.size + 1, 0, none⟩ = some (.bool bn) ∧ W.cell? ⟨w.heap.size + 1, 1, none⟩ = some (.slice bo m cb) ∧ W.cell? ⟨w.heap.size + 1, 2, none⟩ = some (.int .i64 f))
      (first | assumption | exact ⟨⟨k0, k1, k2⟩, j0, j1, j2⟩ | exact keep66 hbv4 (keep66 (W := w4.drew) hbv3 ⟨⟨k0, k1, k2⟩, j0, j1, j2⟩) | exact keep66 (W := w4.drew) hbv3 ⟨⟨k0, k1, k2⟩, j0, j1, j2⟩)
      (first | (go_at_call 66; refine (hZ4 _ (bel_trans hb4.drew hbv3)).mono ?_; rintro r w6 ⟨rfl, hbv4⟩) | (go_at_call 64; refine (hX _).mono ?_; rintro r w5 ⟨rfl, hbv3⟩))
    go_wp2
    go_ret
    exact ⟨ret_int HZ.out, bel_trans (bel_trans hf4 (bel_trans hb4.drew hbv3)) hbv4⟩
  · have hne : (sgn an n != sgn bn m) = true := by simp [heq]
    have HO : Hid (ord (sgn an n) (sgn bn m) = U) := hso heq
    clear hso hse heq hZ hsv
    go_wp2_with fail
    go_region_held3 (fun W => (W.cell? ⟨w.heap.size, 0, none⟩ = some (.bool an) ∧ W.cell? ⟨w.heap.size, 1, none⟩ = some (.slice ao n ca) ∧ W.cell? ⟨w.heap.size, 2, none⟩ = some (.int .i64 e)) ∧ W.cell? ⟨w.heap.size + 1, 0, none⟩ = some (.bool bn) ∧ W.cell? ⟨w.heap.size + 1, 1, none⟩ = some (.slice bo m cb) ∧ W.cell? ⟨w.heap.size + 1, 2, none⟩ = some (.int .i64 f))
      (first | assumption | exact ⟨⟨k0, k1, k2⟩, j0, j1, j2⟩ | exact keep66 hbv4 (keep66 (W := w4.drew) hbv3 ⟨⟨k0, k1, k2⟩, j0, j1, j2⟩) | exact keep66 (W := w4.drew) hbv3 ⟨⟨k0, k1, k2⟩, j0, j1, j2⟩)
      (first | (go_at_call 65; refine (cmpInt_any _ _ _).mono ?_; rintro r w7 ⟨rfl, rfl⟩) | (go_at_call 64; have _t := hbv3; refine (hY _).mono ?_; rintro r w6 ⟨rfl, hbv4⟩) | (go_at_call 64; refine (hX _).mono ?_; rintro r w5 ⟨rfl, hbv3⟩))
    go_wp2
    go_ret
    exact ⟨ret_int HO.out, bel_trans (bel_trans hf4 (bel_trans hb4.drew hbv3)) hbv4⟩
set_option maxRecDepth 100000 in
set_option maxHeartbeats 1000000 in
theorem dcmp_any (x y : NumR) (w : World) (hx : Row w x.ao x.n x.cap x.d) (hy : Row w y.ao y.n y.cap y.d) :
    Calls Tryd.prog 23 #[x.v, y.v] w fun r w' => r = .returned (.tuple #[.int .i64 (if okR x && okR y then ord x.V y.V else 0), .int .i64 (if okR x && okR y then 0 else 11)]) ∧ Below w.heap.size w w' := by
  have hA := allOk2 x y
  have hN := fun W q hb => nums2 (w := W) (g := w.heap.size + 2) (x := x) (y := y) (t := 27) q (hx.keeps hb) (hy.keeps hb)
  have hC := fun (hk : (okR x && okR y) = true) W hb => dcompare_any x y W (hx.keeps hb) (hy.keeps hb) (by simp at hk; exact hk.1) (by simp at hk; exact hk.2)
  generalize ord x.V y.V = O at hC ⊢
  generalize pair2 x y = pr at hA hN
  generalize (okR x && okR y) = ok at hA hC ⊢
  unfold NumR.v at hC ⊢
  obtain ⟨an, ao, n, ca, a, e⟩ := x
  obtain ⟨bn, bo, m, cb, b, f⟩ := y
  simp only at *
  cases ok
  · go_enter Tryd.func23, Tryd.ntmps23
    go_wp2_with fail
    refine (dvalids_any _ _ _ _ _ (hN _ (h3_2 _ _ _ _) (bel_a3 _ _ _ _))).mono ?_
    rw [hA]
    rintro r w1 ⟨rfl, hb1⟩
    go_wp2
    go_ret2
    exact ⟨rfl, bel_trans (bel_a3 _ _ _ _) hb1⟩
  · go_enter Tryd.func23, Tryd.ntmps23
    go_wp2_with fail
    refine (dvalids_any _ _ _ _ _ (hN _ (h3_2 _ _ _ _) (bel_a3 _ _ _ _))).mono ?_
    rw [hA]
    rintro r w1 ⟨rfl, hb1⟩
    have hbw := bel_trans (bel_a3 w _ _ _) hb1
    have g0 := (hb1.block w.heap.size (by rw [size3]; omega)).trans (h3_0 _ _ _ _)
    have g1 := (hb1.block (w.heap.size + 1) (by rw [size3]; omega)).trans (h3_1 _ _ _ _)
    have k0 := blkC g0 0 rfl
    have k1 := blkC g0 1 rfl
    have k2 := blkC g0 2 rfl
    have j0 := blkC g1 0 rfl
    have j1 := blkC g1 1 rfl
    have j2 := blkC g1 2 rfl
    go_wp2_with fail
    refine (hC (by trivial) _ hbw).mono ?_
    rintro r w2 ⟨rfl, hb2⟩
    go_wp2
    go_ret2
    exact ⟨rfl, bel_trans hbw hb2⟩
end Go.Proofs.YtmgndnabaemgkaaDoor

/-
  Package dyadic's calls on numbers that are told by their worth.
-/
namespace Go.Proofs.YtmgndnabaemgkaaDoor
open Go Go.RowKit Go.Proofs.YtmgndnabaemgkaaDoor.M
set_option linter.unusedSimpArgs false
set_option linter.unusedVariables false

/-- A number by its worth, laid open. -/
theorem DNum.open {w : World} {v : Value} {V : Int} (h : DNum w v V) (ok : Dok V) : ∃ x : NumR, v = x.v ∧ Row w x.ao x.n x.cap x.d ∧ okR x = true ∧ x.V = V := by
  obtain ⟨ng, s, m, e, rfl, hy, ao, n, cap, d, rfl, hR, hN, rfl⟩ := h
  refine ⟨⟨ng, ao, n, cap, d, e⟩, rfl, hR, ?_, hy.val.symm⟩
  obtain ⟨o1, o2, o3⟩ := hy.ok.1 ok
  refine decide_eq_true ?_
  by_cases h0 : n = 0
  · left
    have hz : val d n = 0 := by rw [h0]; rfl
    rcases hy.form with ⟨_, f2, f3⟩ | ⟨f1, _⟩
    · exact ⟨h0, f2, f3⟩
    · omega
  · right
    have hp := val_pos hN (show 0 < n by omega)
    rcases hy.form with ⟨f1, _⟩ | ⟨_, f2⟩
    · omega
    · refine ⟨by show 0 < n; omega, ⟨?_, hN⟩, ?_, o2, o3⟩
      · exact Num.len (w := w) (ao := ao) (cap := cap) ⟨_, _, _, _, rfl, hR, hN, rfl⟩ o1
      · obtain ⟨k, hk⟩ : ∃ k, n = 1 + k := ⟨n - 1, by omega⟩
        have := val_split d 1 k
        rw [← hk] at this
        rw [this, show val d 1 = d 0 by show 0 + d 0 * 1 = _; omega, show P 1 = 1073741824 from rfl] at f2
        show d 0 % 2 = 1
        omega
theorem DFit.yes {w w' : World} {V er : Int} {v : Value} (h : DFit w w' V v er) (ok : Dok V) : er = 0 ∧ DAns w w' V v := by
  rcases h.2 with ⟨_, h1, h2⟩ | ⟨hn, _⟩
  · exact ⟨h1, h2⟩
  · exact absurd ok hn
theorem mul_D {w : World} {x y : Value} {A B : Int} (hx : DNum w x A) (hy : DNum w y B) (oA : Dok A) (oB : Dok B) (hT : Tab w) :
    Calls Tryd.prog 8 #[x, y] w fun r w' => ∃ v er C, r = .returned (.tuple #[v, .int .i64 er]) ∧ C * 2 ^ 4194304 = A * B ∧ DFit w w' C v er := by
  obtain ⟨x, rfl, hR, ok, rfl⟩ := hx.open oA
  obtain ⟨y, rfl, hR', ok', rfl⟩ := hy.open oB
  refine (dmul_ok x y w hR hR' ok ok' hT).mono ?_
  rintro r w' ⟨v, er, rfl, hF⟩
  exact ⟨v, er, _, rfl, mulV_eq (by have := (okR_sane ok).2.2.1; omega) (by have := (okR_sane ok').2.2.1; omega), hF⟩
theorem cmp_D {w : World} {x y : Value} {A B : Int} (hx : DNum w x A) (hy : DNum w y B) (oA : Dok A) (oB : Dok B) :
    Calls Tryd.prog 23 #[x, y] w fun r w' => r = .returned (.tuple #[.int .i64 (ord A B), .int .i64 0]) ∧ Below w.heap.size w w' := by
  obtain ⟨x, rfl, hR, ok, rfl⟩ := hx.open oA
  obtain ⟨y, rfl, hR', ok', rfl⟩ := hy.open oB
  have := dcmp_any x y w hR hR'
  rwa [ok, ok'] at this
end Go.Proofs.YtmgndnabaemgkaaDoor

/-
  Package plumblaw3: alive.
-/
namespace Go.Proofs.YtmgndnabaemgkaaDoor
open Go Go.RowKit Go.Proofs.YtmgndnabaemgkaaDoor.M
set_option linter.unusedSimpArgs false
set_option linter.unusedVariables false

end Go.Proofs.YtmgndnabaemgkaaDoor

/-
  The document's own answers (plumbref2): Shl, Shr, by contracts over the same values.
-/
namespace Go.Proofs.YtmgndnabaemgkaaDoor
open Go Go.RowKit Go.Proofs.YtmgndnabaemgkaaDoor.M
set_option linter.unusedSimpArgs false
set_option linter.unusedVariables false

end Go.Proofs.YtmgndnabaemgkaaDoor

/-
  plumblaw2's Keep: lists of answers that are kept, in memory: what it is (Kp), Add, by its contract.
-/
namespace Go.Proofs.YtmgndnabaemgkaaDoor
open Go Go.RowKit Go.Proofs.YtmgndnabaemgkaaDoor.M
set_option linter.unusedSimpArgs false
set_option linter.unusedVariables false

/-- The first m of v. -/
def valsV (v : Nat → Value) (m : Nat) : List Value := (List.range m).map v
/-- A list of slices that is the call's own. -/
def OutV (B : Nat) (w : World) (x : Value) (m : Nat) (v : Nat → Value) : Prop := w.ownsRow B 22 1 x m (valsV v m)
theorem OutV.shape {B : Nat} {w : World} {x : Value} {m : Nat} {v : Nat → Value} (h : OutV B w x m v) : ∃ xo xc, x = .slice xo m xc ∧ m ≤ xc ∧ xc ≤ 9223372036854775807 ∧ (0 < m → ∃ g, xo = some ⟨g, 0, none⟩) := by
  rcases h.2 with ⟨rfl, rfl⟩ | ⟨g, cap, cur, rfl, hb, hg, hn, hm, _⟩
  · exact ⟨none, 0, rfl, Nat.le_refl _, by decide, fun h => by omega⟩
  · exact ⟨_, cap, rfl, hn, by unfold maxLen at hm; exact hm, fun _ => ⟨g, rfl⟩⟩
theorem OutV.of_block {B : Nat} {w w' : World} {x : Value} {m : Nat} {v : Nat → Value} (h : OutV B w x m v) (hb : ∀ g, x.ownBlock = some g → w'.heap[g]? = w.heap[g]?) : OutV B w' x m v := by
  refine ⟨h.1, ?_⟩
  rcases h.2 with hn | ⟨g, cap, cur, rfl, hbb, hg, rest⟩
  · exact .inl hn
  · exact .inr ⟨g, cap, cur, rfl, hbb, (hb g rfl).trans hg, rest⟩
theorem Out.of_block {B : Nat} {w w' : World} {x : Value} {n : Nat} {d : Nat → Int} (h : Out B w x n d) (hb : ∀ g, x.ownBlock = some g → w'.heap[g]? = w.heap[g]?) : Out B w' x n d := by
  refine ⟨h.1, ?_⟩
  rcases h.2 with hn | ⟨g, cap, cur, rfl, hbb, hg, rest⟩
  · exact .inl hn
  · exact .inr ⟨g, cap, cur, rfl, hbb, (hb g rfl).trans hg, rest⟩
theorem OutV.ge {B : Nat} {w : World} {x : Value} {n : Nat} {v : Nat → Value} (h : OutV B w x n v) {g : Nat} (hg : x.ownBlock = some g) : B ≤ g ∧ g < w.heap.size := by
  rcases h.2 with ⟨rfl, _⟩ | ⟨g', cap, cur, rfl, hbb, hg', rest⟩
  · simp [Value.ownBlock] at hg
  · simp only [Value.ownBlock, Option.some.injEq] at hg; subst hg; exact ⟨hbb, (Array.getElem?_eq_some_iff.1 hg').1⟩
theorem Out.ge {B : Nat} {w : World} {x : Value} {n : Nat} {v : Nat → Int} (h : Out B w x n v) {g : Nat} (hg : x.ownBlock = some g) : B ≤ g ∧ g < w.heap.size := by
  rcases h.2 with ⟨rfl, _⟩ | ⟨g', cap, cur, rfl, hbb, hg', rest⟩
  · simp [Value.ownBlock] at hg
  · simp only [Value.ownBlock, Option.some.injEq] at hg; subst hg; exact ⟨hbb, (Array.getElem?_eq_some_iff.1 hg').1⟩
theorem OutV.alloc {B : Nat} {w : World} {x : Value} {m : Nat} {v : Nat → Value} (h : OutV B w x m v) (o : Obj) : OutV B (w.alloc o) x m v := h.of_block fun g hg => Below.heap_alloc _ _ _ (h.ge hg).2
/-- 'append' of ints, as it runs, and where the new slice lies. -/
theorem run_app {w : World} (ty : TypeId) (B : Nat) (v : Value) (n : Nat) (d : Nat → Int) (hO : Out B w v n d) (bo : Option Addr) (m cb : Nat) (e : Nat → Int) (hR : Row w bo m cb e) (hlen : n + m ≤ 1000000) (hB : B ≤ w.heap.size) :
    ∃ v' w', (Builtin.append_ #[22, 22] ty #[v, .slice bo m cb]).run Tryd.prog w = .ok v' w' ∧ Out B w' v' (n + m) (cat d n e) ∧ w.grownBy w' v.ownBlock ∧ (v'.ownBlock = v.ownBlock ∨ v'.ownBlock = some w.heap.size) := by
  obtain ⟨i0, hi, hz0, hz1, hz2⟩ := info_parts info_int
  cases bo with
  | none =>
    have hc := hR.nl rfl
    have hl := hR.le
    subst hc
    obtain rfl : m = 0 := by omega
    have hr := run_append_owned_none (P := Tryd.prog) w B 22 ty 3 i0 1 Tryd.underlying22 hi v n (vals d n) hO
    exact ⟨v, w, hr, hO.congr fun i hi => by simp [cat]; omega, ⟨rfl, rfl, rfl, Nat.le_refl _, fun _ _ _ => rfl⟩, .inl rfl⟩
  | some ad =>
    obtain ⟨v', w', hr, h2, h3, _, h5⟩ := run_append_own_at (P := Tryd.prog) w B 22 ty 3 i0 (.int .i64 0) 1 8 Tryd.underlying22 hi hz0 hz1 hz2 rfl (by decide) v n (vals d n) hO ad m cb (vals e m) (by rw [vals_length]; omega)
      (fun j u hu => by
        have hj : j < m := by have := (List.getElem?_eq_some_iff.1 hu).1; rwa [vals_length] at this
        obtain ⟨b, off, hb, _, hc⟩ := hR.spot (by omega)
        obtain rfl := Option.some.inj hb
        rw [vals_get e hj] at hu
        rw [add_none, hc j hj]; exact hu) (vals_one e m) (by unfold maxLen; omega) (by omega) hB
    rw [vals_cat] at h2
    exact ⟨v', w', hr, h2, h3, h5⟩
end Go.Proofs.YtmgndnabaemgkaaDoor

/-
  What is kept, with the blocks it lies in (Kept); Keep.Add and answer of a number (An); Lent and Back.
-/
namespace Go.Proofs.YtmgndnabaemgkaaDoor
open Go Go.RowKit Go.Proofs.YtmgndnabaemgkaaDoor.M
set_option linter.unusedSimpArgs false
set_option linter.unusedVariables false

/-- A number's list, from B on. -/
def An (B : Nat) (w : World) (v : Value) (V : Int) : Prop := ∃ t d, Out B w v t d ∧ Nrm d t ∧ val d t = V
theorem An.keeps {B : Nat} {w w' : World} {v : Value} {V : Int} (h : An B w v V) (k : Below w.heap.size w w') : An B w' v V := by
  obtain ⟨t, d, h1, h2⟩ := h
  exact ⟨t, d, h1.stays k, h2⟩
theorem An.lower {B B' : Nat} {w : World} {v : Value} {V : Int} (h : An B w v V) (hB : B' ≤ B) : An B' w v V := by
  obtain ⟨t, d, h1, h2⟩ := h
  exact ⟨t, d, h1.lower hB, h2⟩
theorem An.nil (B : Nat) (w : World) : An B w (.slice none 0 0) 0 := ⟨0, fun _ => 0, Out.nil _ _ _, ⟨fun i hi => by omega, .inl rfl⟩, rfl⟩
theorem Ans.an {w w' : World} {V : Int} {v : Value} (h : Ans w w' V v) : An w.heap.size w' v V := by
  obtain ⟨t, d, h1, h2, h3, h4⟩ := h
  exact ⟨t, d, h1, h2, h3⟩
theorem An.shape {B : Nat} {w : World} {v : Value} {V : Int} (h : An B w v V) : ∃ ao n cap, v = .slice ao n cap := by
  obtain ⟨t, d, h1, h2⟩ := h
  obtain ⟨ao, cap, e, _⟩ := h1.row
  exact ⟨ao, t, cap, e⟩
theorem An.num {B : Nat} {w : World} {v : Value} {V : Int} (h : An B w v V) : Num w v V := by
  obtain ⟨t, d, h1, h2, h3⟩ := h
  obtain ⟨ao, cap, rfl, hR⟩ := h1.row
  exact ⟨ao, t, cap, d, rfl, hR, h2, h3⟩
theorem An.ge {B : Nat} {w : World} {v : Value} {V : Int} (h : An B w v V) {g : Nat} (hg : v.ownBlock = some g) : B ≤ g ∧ g < w.heap.size := by
  obtain ⟨t, d, h1, h2, h3⟩ := h
  exact h1.ge hg
/-- The blocks behind an Add. -/
def S2 (S : Nat → Prop) (l : Value) (s : Nat) : Nat → Prop := fun g => S g ∨ l.ownBlock = some g ∨ s ≤ g
/-- A list and an error, of a number that may be too long. -/
def FitA (B : Nat) (w : World) (V : Int) (v : Value) (er : Int) : Prop := (V < P 2000 ∧ er = 0 ∧ An B w v V) ∨ (P 2000 ≤ V ∧ er = 2 ∧ v = .slice none 0 0)
theorem FitA.keeps {B : Nat} {w w' : World} {v : Value} {V er : Int} (h : FitA B w V v er) (k : Below w.heap.size w w') : FitA B w' V v er := by
  rcases h with ⟨h1, h2, h3⟩ | h
  · exact .inl ⟨h1, h2, h3.keeps k⟩
  · exact .inr h
theorem FitA.lower {B B' : Nat} {w : World} {v : Value} {V er : Int} (h : FitA B w V v er) (hB : B' ≤ B) : FitA B' w V v er := by
  rcases h with ⟨h1, h2, h3⟩ | h
  · exact .inl ⟨h1, h2, h3.lower hB⟩
  · exact .inr h
theorem FitA.ge {B : Nat} {w : World} {v : Value} {V er : Int} (h : FitA B w V v er) {g : Nat} (hg : v.ownBlock = some g) : B ≤ g ∧ g < w.heap.size := by
  rcases h with ⟨h1, h2, h3⟩ | ⟨_, _, rfl⟩
  · exact h3.ge hg
  · simp [Value.ownBlock] at hg
theorem FitA.shape {B : Nat} {w : World} {v : Value} {V er : Int} (h : FitA B w V v er) : ∃ ao n cap, v = .slice ao n cap := by
  rcases h with ⟨h1, h2, h3⟩ | ⟨_, _, rfl⟩
  · exact h3.shape
  · exact ⟨_, _, _, rfl⟩
/-- A lent list: three marks behind it. -/
def lentD (a : Nat → Int) (n : Nat) : Nat → Int := cat a n (fun i => -71 - (i : Int))
/-- What Lent answers: a block of its own. -/
def LentA (w w' : World) (v : Value) (n : Nat) (a : Nat → Int) : Prop := ∃ g cap, v = .slice (some ⟨g, 0, none⟩) (n + 3) cap ∧ Out w.heap.size w' v (n + 3) (lentD a n) ∧ Below w.heap.size w w'
end Go.Proofs.YtmgndnabaemgkaaDoor

/-
  Lent lists: what is read of them, and Back.
-/
namespace Go.Proofs.YtmgndnabaemgkaaDoor
open Go Go.RowKit Go.Proofs.YtmgndnabaemgkaaDoor.M
set_option linter.unusedSimpArgs false
set_option linter.unusedVariables false

theorem LentA.below {w w' : World} {v : Value} {n : Nat} {a : Nat → Int} (h : LentA w w' v n a) : Below w.heap.size w w' := by
  obtain ⟨g, cap, _, _, hb⟩ := h
  exact hb
theorem LentA.parts {w w' : World} {v : Value} {n : Nat} {a : Nat → Int} (h : LentA w w' v n a) : ∃ g cap, v = .slice (some ⟨g, 0, none⟩) (n + 3) cap ∧ Out w.heap.size w' (.slice (some ⟨g, 0, none⟩) (n + 3) cap) (n + 3) (lentD a n) := by
  obtain ⟨g, cap, rfl, h, _⟩ := h
  exact ⟨g, cap, rfl, h⟩
end Go.Proofs.YtmgndnabaemgkaaDoor

/-
  The document's own Low, Pow, Root, by contracts over the same values.
-/
namespace Go.Proofs.YtmgndnabaemgkaaDoor
open Go Go.RowKit Go.Proofs.YtmgndnabaemgkaaDoor.M
set_option linter.unusedSimpArgs false
set_option linter.unusedVariables false

end Go.Proofs.YtmgndnabaemgkaaDoor

/-
  Package plumbref3: Norm, by its contract: the one form of a number, however long.
-/
namespace Go.Proofs.YtmgndnabaemgkaaDoor
open Go Go.RowKit Go.Proofs.YtmgndnabaemgkaaDoor.M
set_option linter.unusedSimpArgs false
set_option linter.unusedVariables false

end Go.Proofs.YtmgndnabaemgkaaDoor

/-
  Package plumblaw3: Norm, num, by contracts: a valid number of any one, not too great.
-/
namespace Go.Proofs.YtmgndnabaemgkaaDoor
open Go Go.RowKit Go.Proofs.YtmgndnabaemgkaaDoor.M
set_option linter.unusedSimpArgs false
set_option linter.unusedVariables false

end Go.Proofs.YtmgndnabaemgkaaDoor

/-
  Plain mathematics: numbers that are not too great have a valid form. No Go text in sight.
-/
namespace Go.Proofs.YtmgndnabaemgkaaDoor
open Go Go.RowKit Go.Proofs.YtmgndnabaemgkaaDoor.M
set_option linter.unusedSimpArgs false
set_option linter.unusedVariables false

/-- V is a multiple of 2^-B, below 2^B, signs aside. -/
def Bd (B : Nat) (V : Int) : Prop := ∃ m : Int, V = m * pw (-(B : Int)) ∧ -(2 ^ (2 * B)) < m ∧ m < 2 ^ (2 * B)
theorem Bd.ok {B : Nat} {V : Int} (h : Bd B V) (hB : B ≤ 29000) : Dok V := by
  obtain ⟨m, rfl, h1, h2⟩ := h
  by_cases h0 : m = 0
  · rw [h0, Int.zero_mul]; exact dok_zero
  · have key : ∀ (ng : Bool) (M : Int), 0 < M → M < 2 ^ (2 * B) → Dok (sg ng M * pw (-(B : Int))) := fun ng M hM hlt => by
      obtain ⟨l, hl⟩ := isLow_ex hM
      have hy := Dy.of ng hl hM (show -4194304 ≤ -(B : Int) by omega)
      obtain ⟨c1, c2, c3⟩ := isLow_odd hl hM
      have hl2 : l < 2 * B := by
        have h3 : (1 : Int) * 2 ^ l ≤ M / 2 ^ l * 2 ^ l := Int.mul_le_mul_of_nonneg_right (by omega) (Int.le_of_lt (two_pos l))
        rw [c3] at h3
        exact two_lt_iff (by omega)
      refine hy.ok.2 ⟨?_, by omega, by omega⟩
      have h4 : M / 2 ^ l ≤ M := Int.ediv_le_self _ (by omega)
      have h5 : (2 : Int) ^ (2 * B) ≤ 2 ^ (30 * 2000) := two_le (by omega)
      rw [P_two]
      omega
    by_cases hp : 0 < m
    · exact key false m hp h2
    · have := key true (-m) (by omega) (by omega)
      rwa [show sg true (-m) = m by simp [sg]] at this
theorem Bd.up {B C : Nat} {V : Int} (h : Bd B V) (hBC : B ≤ C) (hC : C ≤ 4194304) : Bd C V := by
  obtain ⟨m, rfl, h1, h2⟩ := h
  have hp := two_pos (C - B)
  have e : pw (-(B : Int)) = pw (-(C : Int)) * 2 ^ (C - B) := by
    rw [← pw_add (by omega)]; congr 1; omega
  have hle : (2 : Int) ^ (2 * B) * 2 ^ (C - B) ≤ 2 ^ (2 * C) := by rw [← Int.pow_add]; exact two_le (by omega)
  refine ⟨m * 2 ^ (C - B), by rw [e]; grind, ?_, ?_⟩
  · have : -(2 ^ (2 * B)) * 2 ^ (C - B) < m * 2 ^ (C - B) := Int.mul_lt_mul_of_pos_right h1 hp
    rw [Int.neg_mul] at this
    omega
  · have := Int.mul_lt_mul_of_pos_right h2 hp
    omega
theorem Bd.add {B : Nat} {V W : Int} (h : Bd B V) (k : Bd B W) (hB : B < 4194304) : Bd (B + 1) (V + W) := by
  obtain ⟨m, rfl, h1, h2⟩ := h
  obtain ⟨n, rfl, k1, k2⟩ := k
  have e : pw (-(B : Int)) = pw (-((B + 1 : Nat) : Int)) * 2 := by
    have := pw_add (e := -((B + 1 : Nat) : Int)) (by omega) 1
    rw [Int.pow_succ, Int.pow_zero, Int.one_mul] at this
    rw [← this]; congr 1; omega
  have e2 : (2 : Int) ^ (2 * (B + 1)) = 2 ^ (2 * B) * 4 := by rw [show 2 * (B + 1) = 2 * B + 2 by omega, Int.pow_add]; rfl
  refine ⟨2 * (m + n), by rw [e]; grind, ?_, ?_⟩ <;> rw [e2] <;> omega
theorem Bd.neg {B : Nat} {V : Int} (h : Bd B V) : Bd B (-V) := by
  obtain ⟨m, rfl, h1, h2⟩ := h
  exact ⟨-m, by rw [Int.neg_mul], by omega, by omega⟩
theorem Bd.mul {B : Nat} {V W U : Int} (h : Bd B V) (k : Bd B W) (hU : U * 2 ^ 4194304 = V * W) (hB : B ≤ 1000000) : Bd (2 * B) U := by
  obtain ⟨m, rfl, h1, h2⟩ := h
  obtain ⟨n, rfl, k1, k2⟩ := k
  have e : U = m * n * pw (-((2 * B : Nat) : Int)) := by
    refine scale_inj ?_
    rw [hU, Int.mul_assoc (m * n), show -((2 * B : Nat) : Int) = -(B : Int) + -(B : Int) by omega, ← pw_mul (by omega) (by omega)]; grind
  refine ⟨m * n, e, ?_, ?_⟩
  all_goals
    have hab : (m * n).natAbs < ((2 : Int) ^ (2 * (2 * B))).natAbs := by
      rw [Int.natAbs_mul, show 2 * (2 * B) = 2 * B + 2 * B by omega, Int.pow_add, Int.natAbs_mul]
      exact Nat.mul_lt_mul'' (by have := two_pos (2 * B); omega) (by have := two_pos (2 * B); omega)
    have := two_pos (2 * (2 * B))
    omega
theorem bd_num {ng : Bool} {M e : Int} (h0 : 0 ≤ M) (h1 : M < P 30) (e0 : -3000 < e) (e1 : e < 3000) : Bd 4000 (sg ng M * pw e) := by
  have hs : pw e = pw (-((4000 : Nat) : Int)) * 2 ^ (e + 4000).toNat := by
    rw [← pw_add (by omega)]; congr 1; omega
  have hp := two_pos (e + 4000).toNat
  have hlt : M * 2 ^ (e + 4000).toNat < 2 ^ (2 * 4000) := by
    have a : M * 2 ^ (e + 4000).toNat < P 30 * 2 ^ (e + 4000).toNat := Int.mul_lt_mul_of_pos_right h1 hp
    rw [P_two, ← Int.pow_add] at a
    have b : (2 : Int) ^ (30 * 30 + (e + 4000).toNat) ≤ 2 ^ (2 * 4000) := two_le (by omega)
    omega
  have hn : 0 ≤ M * 2 ^ (e + 4000).toNat := Int.mul_nonneg h0 (Int.le_of_lt hp)
  refine ⟨sg ng (M * 2 ^ (e + 4000).toNat), by rw [hs, sg_sgn, sg_sgn]; grind, ?_, ?_⟩
  all_goals
    generalize M * 2 ^ (e + 4000).toNat = X at *
    generalize (2 : Int) ^ (2 * 4000) = T at *
    cases ng <;> simp only [sg] <;> simp <;> omega
end Go.Proofs.YtmgndnabaemgkaaDoor

/-
  What a row gives of its arguments: a slice of ints that came in, as the walks want it.
-/
namespace Go.Proofs.YtmgndnabaemgkaaDoor
open Go Go.ChangeShapes Go.WideShapes Go.ChangeAt Go.RowKit Go.Proofs.YtmgndnabaemgkaaDoor.M
set_option linter.unusedSimpArgs false
set_option linter.unusedVariables false

theorem rng_of {x : Int} (h : (Lit.int .i64 x).wf = true) : rng x := by
  simp [Lit.wf, IntKind.min, IntKind.max, IntKind.signed, IntKind.bits] at h
  unfold rng; omega
theorem row_of {H : Type} {enc : TypeId × Value → H} {W : World} {a : Option Addr} {len cap : Nat} {d : DataW H} {p : List MemPlace}
    (h0 : DataW.Trod enc Tryd.prog W 0 (fun _ => true) true 22 (.slice a len cap) d p) : ∃ z : Nat → Int, Row W a len cap z ∧ ∀ i, i < len → rng (z i) := by
  obtain ⟨fuel, hf⟩ := h0
  rcases open_ints Tryd.underlying22 Tryd.underlying3 (by kernel_rfl) hf with ⟨hcs, _⟩ | ⟨x, l, c, zs, hcs, _, hl, hm, hz, _, hcell, hwz⟩
  · simp [Value.cells] at hcs
    obtain ⟨rfl, rfl, rfl⟩ := hcs
    exact ⟨fun _ => 0, Row.nil _ _, fun i hi => by omega⟩
  · simp [Value.cells] at hcs
    obtain ⟨rfl, rfl, rfl⟩ := hcs
    have hz' : zs.length = cap := by simpa using hz
    refine ⟨fun i => zs.getD i 0, ⟨hl, by unfold maxLen at hm; exact hm, (fun e => by cases e), fun hn => ?_⟩, fun i hi => ?_⟩
    · obtain ⟨b, off, spot⟩ := x
      have hc := hcell 0 (by omega)
      have hspot : spot = none := by simpa [Addr.add] using World.cell?_spot hc
      subst hspot
      refine ⟨b, off, rfl, World.block_lt_of_cell? W _ (by simpa [Addr.add] using hc), fun i hi => ?_⟩
      rw [← add_none]; exact hcell i (by omega)
    · refine rng_of (hwz _ ?_)
      simp [List.getD, show i < zs.length by omega]
end Go.Proofs.YtmgndnabaemgkaaDoor

/-
  What a row's list gives: the library's table of trailing zeros.
-/
namespace Go.Proofs.YtmgndnabaemgkaaDoor
open Go Go.RowKit Go.ChangeShapes Go.Proofs.YtmgndnabaemgkaaDoor.M
set_option linter.unusedSimpArgs false
set_option linter.unusedVariables false

theorem gTab : Tryd.prog.globalNamed "math/bits.deBruijn64tab" = some 2 := by kernel_rfl
theorem gTabType : (Tryd.prog.globals[(2 : Nat)]?).map (·.type) = some 86 := by kernel_rfl
theorem cellsTab : Tryd.prog.cellsOf 86 = 64 := by kernel_rfl
theorem cellsByte : Tryd.prog.cellsOf 5 = 1 := by kernel_rfl
def tabInts : List Int := Lib.deBruijn64tab.map Int.ofNat
theorem tab_get : ∀ j, j < 64 → tabInts.getD j 0 = ((Lib.deBruijn64tab.getD j 0 : Nat) : Int) := by decide +kernel
end Go.Proofs.YtmgndnabaemgkaaDoor

/-
  What a row's list of package-level variables gives: the layouts' cells, and the cells of the library's table for b_trailing zeros.
-/
namespace Go.Proofs.YtmgndnabaemgkaaDoor
open Go Go.RowKit Go.ChangeShapes Go.Proofs.YtmgndnabaemgkaaDoor.M
set_option linter.unusedSimpArgs false
set_option linter.unusedVariables false

theorem cellsInt : Tryd.prog.cellsOf 3 = 1 := by kernel_rfl
theorem cellsLayout : Tryd.prog.cellsOf 69 = 3 := by kernel_rfl
theorem g64 : Tryd.prog.globalNamed "plumb/bits.binary64" = some 0 := by kernel_rfl
theorem g64Type : (Tryd.prog.globals[(0 : Nat)]?).map (·.type) = some 69 := by kernel_rfl
set_option maxRecDepth 100000 in
/-- A layout's three cells, off its reading. -/
theorem three {W : World} {name : String} {g : Nat} {a b c : Int} {rest : List (String × DataW Unit)} (hg : Tryd.prog.globalNamed name = some g) (hty : (Tryd.prog.globals[g]?).map (·.type) = some 69)
    (h : laidMet Tryd.prog ((name, .agg [.lit (.int .i64 a), .lit (.int .i64 b), .lit (.int .i64 c)]) :: rest) W) :
    W.cell? ⟨g, 0, none⟩ = some (.int .i64 a) ∧ W.cell? ⟨g, 1, none⟩ = some (.int .i64 b) ∧ W.cell? ⟨g, 2, none⟩ = some (.int .i64 c) := by
  obtain ⟨ps, ⟨g', t', cs, fuel, p, q, hg', ht', hvar, hd, _, _⟩, _⟩ := h
  obtain rfl := Option.some.inj (hg.symm.trans hg')
  obtain rfl := Option.some.inj (hty.symm.trans ht')
  obtain ⟨y0, y1, y2, n, hx, hl, h0, h1, h2⟩ := Go.Deep.trod_struct3 Tryd.underlying69 hd
  obtain ⟨k0, e0, f0, _⟩ := DataW.trod_int Tryd.underlying3 h0
  obtain ⟨k1, e1, f1, _⟩ := DataW.trod_int Tryd.underlying3 h1
  obtain ⟨k2, e2, f2, _⟩ := DataW.trod_int Tryd.underlying3 h2
  rw [f0, f1, f2] at hx
  simp only [Prod.mk.injEq, DataW.agg.injEq, List.cons.injEq, DataW.lit.injEq, Lit.int.injEq, true_and, and_true] at hx
  obtain ⟨⟨rfl, rfl, rfl⟩, _⟩ := hx
  rw [cellsLayout] at hl
  rw [cellsInt] at e0 e1 e2
  have v := fun i => World.var?_cell hg hvar i
  obtain ⟨l⟩ := cs
  simp only at hl e0 e1 e2
  match l, hl with
  | [c0, c1, c2], _ =>
    simp at e0 e1 e2
    subst e0 e1 e2
    exact ⟨by simpa using v 0, by simpa using v 1, by simpa using v 2⟩

end Go.Proofs.YtmgndnabaemgkaaDoor

/-
  What a row gives: a number that came in, as the walks want it; the library's table and the layout of binary64.
-/
namespace Go.Proofs.YtmgndnabaemgkaaDoor
open Go Go.ChangeShapes Go.WideShapes Go.ChangeAt Go.RowKit Go.Proofs.YtmgndnabaemgkaaDoor.M
set_option linter.unusedSimpArgs false
set_option linter.unusedVariables false

/-- What the laws want of the package's variables. -/
structure Hold (w : World) : Prop where
  lay : Lay64 w
  tab : Tab w
theorem Hold.keeps {w w' : World} (h : Hold w) (hb : Below w.heap.size w w') : Hold w' := ⟨h.lay.keeps hb, h.tab.keeps hb⟩
theorem hold_of {W : World} (h : laidMetH Tryd.prog [("math/bits.deBruijn32tab", Rows.laid_math_bits_deBruijn32tab), ("math/bits.deBruijn64tab", Rows.laid_math_bits_deBruijn64tab), ("plumb/bits.binary64", Rows.laid_plumb_bits_binary64)] W) : Hold W := by
  rw [MakeChecks.laidMetH_plain _ _ _ (by kernel_rfl)] at h
  have h' : laidMet Tryd.prog (("math/bits.deBruijn64tab", Lib.tabData .u8 tabInts) :: [("plumb/bits.binary64", Rows.laid_plumb_bits_binary64)]) W := h.tail
  have t := Lib.tabIs_of_head gTab gTabType Tryd.underlying86 Tryd.underlying5 cellsByte cellsTab h'
  obtain ⟨a0, a1, a2⟩ := three g64 g64Type h'.tail
  refine ⟨⟨a0, a1, a2⟩, fun j hj => ?_⟩
  rw [← tab_get j hj]
  exact t.cell gTab j (by exact hj)
end Go.Proofs.YtmgndnabaemgkaaDoor
