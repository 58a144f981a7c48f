/-
  Parts of the proof, one behind another.
-/
import Derived.Test.YtoehjolmniddlaaDoorPart7
import Derived.Test.YtoehjolmniddlaaDoorPart5
import Derived.Deep.RegionHeld3
import Derived.Test.YtoehjolmniddlaaDoorPart8
import Derived.Test.YtoehjolmniddlaaDoorPart4
import Derived.Deep.AppendLies
import Derived.Deep.RegionLaw
/-
  Package dyadic: product, Mul, by contracts.
-/
namespace Go.Proofs.YtoehjolmniddlaaDoor
open Go Go.RowKit Go.Proofs.YtoehjolmniddlaaDoor.M
set_option linter.unusedSimpArgs false
set_option linter.unusedVariables false

/-- A product's worth. -/
def mulV (x y : NumR) : Int := sg (x.ng != y.ng) (val x.d x.n * val y.d y.n) * pw (x.e + y.e)
theorem mulV_eq {x y : NumR} (hx : -2097152 ≤ x.e) (hy : -2097152 ≤ y.e) : mulV x y * 2 ^ 4194304 = x.V * y.V := by
  unfold mulV NumR.V
  rw [Int.mul_assoc, ← pw_mul hx hy, ← sg_mul]; grind
set_option maxRecDepth 100000 in
set_option maxHeartbeats 2000000 in
theorem dproduct_any (x y : NumR) (w : World) (hx : Row w x.ao x.n x.cap x.d) (hy : Row w y.ao y.n y.cap y.d) (sx : Sane x) (sy : Sane y) :
    Calls Tryd.prog 43 #[x.v, y.v] w fun r w' => ∃ s, r = .returned (.agg #[.bool (x.ng != y.ng), s, .int .i64 (x.e + y.e)]) ∧ Ans w w' (val x.d x.n * val y.d y.n) s := by
  obtain ⟨an, ao, n, ca, a, e⟩ := x
  obtain ⟨bn, bo, m, cb, b, f⟩ := y
  obtain ⟨s1, s2, s3, s4⟩ := sx
  obtain ⟨t1, t2, t3, t4⟩ := sy
  unfold NumR.v
  simp only at *
  have hw : IntKind.i64.wrap (e + f) = e + f := by rw [wrap_i64_eq]; omega
  have hb3 := bel_a3 w (.cells #[.bool an, .slice ao n ca, .int .i64 e] 26) (.cells #[.bool bn, .slice bo m cb, .int .i64 f] 26) (.cells #[.bool false, .slice none 0 0, .int .i64 0] 26)
  have g0 := h3_0 w (.cells #[.bool an, .slice ao n ca, .int .i64 e] 26) (.cells #[.bool bn, .slice bo m cb, .int .i64 f] 26) (.cells #[.bool false, .slice none 0 0, .int .i64 0] 26)
  have g1 := h3_1 w (.cells #[.bool an, .slice ao n ca, .int .i64 e] 26) (.cells #[.bool bn, .slice bo m cb, .int .i64 f] 26) (.cells #[.bool false, .slice none 0 0, .int .i64 0] 26)
  have g2 := h3_2 w (.cells #[.bool an, .slice ao n ca, .int .i64 e] 26) (.cells #[.bool bn, .slice bo m cb, .int .i64 f] 26) (.cells #[.bool false, .slice none 0 0, .int .i64 0] 26)
  have hs3 := size3 w (.cells #[.bool an, .slice ao n ca, .int .i64 e] 26) (.cells #[.bool bn, .slice bo m cb, .int .i64 f] 26) (.cells #[.bool false, .slice none 0 0, .int .i64 0] 26)
  go_enter Tryd.func43, Tryd.ntmps43
  go_wp2_with fail
  have HX := hx.keeps hb3
  have HY := hy.keeps hb3
  generalize ((w.alloc (.cells #[.bool an, .slice ao n ca, .int .i64 e] 26)).alloc (.cells #[.bool bn, .slice bo m cb, .int .i64 f] 26)).alloc (.cells #[.bool false, .slice none 0 0, .int .i64 0] 26) = wx at hb3 g0 g1 g2 hs3 HX HY ⊢
  have k0 := blkC g0 0 rfl
  have k1 := blkC g0 1 rfl
  have k2 := blkC g0 2 rfl
  have j0 := blkC g1 0 rfl
  have j1 := blkC g1 1 rfl
  have j2 := blkC g1 2 rfl
  have hb1 := bel_refl wx
  have C1 : ∀ W, Below wx.heap.size wx W → Calls Tryd.prog 68 #[.slice ao n ca, .slice bo m cb] W fun r w' => ∃ so sn sc, r = .returned (.slice so sn sc) ∧ Ans W w' (val a n * val b m) (.slice so sn sc) ∧ Below W.heap.size W w' := fun W h => by
    refine (product_any ao bo n m ca cb a b W (HX.keeps h) (HY.keeps h) s1.1 t1.1 (by omega) (by omega)).mono ?_
    rintro r w' ⟨v, rfl, hA⟩
    obtain ⟨so, sn, sc, rfl⟩ := hA.num.shape
    exact ⟨so, sn, sc, rfl, hA, hA.below⟩
  go_region_held3 (fun W => (W.cell? ⟨w.heap.size, 0, none⟩ = some (.bool an) ∧ W.cell? ⟨w.heap.size, 1, none⟩ = some (.slice ao n ca) ∧ W.cell? ⟨w.heap.size, 2, none⟩ = some (.int .i64 e)) ∧ W.cell? ⟨w.heap.size + 1, 0, none⟩ = some (.bool bn) ∧ W.cell? ⟨w.heap.size + 1, 1, none⟩ = some (.slice bo m cb) ∧ W.cell? ⟨w.heap.size + 1, 2, none⟩ = some (.int .i64 f))
    (first | assumption | exact ⟨⟨k0, k1, k2⟩, j0, j1, j2⟩ | exact ⟨keepB (W := wx.drew) ⟨k0, k1, k2⟩ hbv1, keepB (W := wx.drew) ⟨j0, j1, j2⟩ hbv1⟩ | exact ⟨keepS (keepB (W := wx.drew) ⟨k0, k1, k2⟩ hbv1) (by omega) _ _ _, keepS (keepB (W := wx.drew) ⟨j0, j1, j2⟩ hbv1) (by omega) _ _ _⟩)
    (first | (go_at_call 68; refine (C1 _ hb1.drew).mono ?_; rintro y w3 ⟨so, sn, sc, rfl, hv, hbv1⟩; have q0 := (hbv1.block (w.heap.size + 2) (by show _ < wx.heap.size; omega)).trans g2; have x0 := blkC q0 0 rfl; have x1 := blkC q0 1 rfl; have x2 := blkC q0 2 rfl; have z0 := blkF q0 0; have z1 := blkF q0 1; have z2 := blkF q0 2) | fail)
  all_goals go_wp2
  all_goals
    refine bodyPost_ret (v := .agg #[.bool (!(an == bn)), .slice so sn sc, .int .i64 (e + f)]) (by simp [results, Tryd.results43, go_sem, x0, x1, x2]) rfl ⟨_, rfl, ?_⟩
    exact ans_res (g := w.heap.size + 2) (hv.from hb1.drew) hb3 (by omega) (by omega) _ _ _
set_option maxRecDepth 100000 in
set_option maxHeartbeats 1000000 in
theorem mul1_any (x y : NumR) (g h : Nat) (w : World) (cg : w.heap[g]? = some (.cells #[.bool x.ng, .slice x.ao x.n x.cap, .int .i64 x.e] 26 (0, 0))) (ch : w.heap[h]? = some (.cells #[.bool y.ng, .slice y.ao y.n y.cap, .int .i64 y.e] 26 (0, 0)))
    (hx : Row w x.ao x.n x.cap x.d) (hy : Row w y.ao y.n y.cap y.d) (sx : Sane x) (sy : Sane y) (hT : Tab w) :
    Calls Tryd.prog 41 #[.pointer (some ⟨g, 0, none⟩), .pointer (some ⟨h, 0, none⟩)] w (DOut w (mulV x y)) := by
  have hP := fun W hb => dproduct_any x y W (hx.keeps hb) (hy.keeps hb) sx sy
  have hV : mulV x y = sg (x.ng != y.ng) (val x.d x.n * val y.d y.n) * pw (x.e + y.e) := rfl
  have he : -4194304 ≤ x.e + y.e := by have := sx.2.2.1; have := sy.2.2.1; omega
  have hlen : val x.d x.n * val y.d y.n < P 10000 := by
    have a1 := val_lt sx.1.1
    have a2 := val_lt sy.1.1
    have b1 := val_nonneg sx.1.1
    have b2 := val_nonneg sy.1.1
    have c1 : val x.d x.n * val y.d y.n ≤ P x.n * val y.d y.n := Int.mul_le_mul_of_nonneg_right (by omega) b2
    have c2 : P x.n * val y.d y.n < P x.n * P y.n := Int.mul_lt_mul_of_pos_left a2 (P_pos _)
    rw [← P_add] at c2
    have := P_le (show x.n + y.n ≤ 10000 by have := sx.2.1; have := sy.2.1; omega)
    omega
  generalize mulV x y = V at hV ⊢
  unfold NumR.v at hP
  obtain ⟨an, ao, n, ca, a, e⟩ := x
  obtain ⟨bn, bo, m, cb, b, f⟩ := y
  simp only at cg ch hx hy hP hV he hlen
  have hb := bel_alloc w (.cells #[.bool false, .slice none 0 0, .int .i64 0] 26)
  have g0 := heap_past (.cells #[.bool false, .slice none 0 0, .int .i64 0] 26) cg
  have g1 := heap_past (.cells #[.bool false, .slice none 0 0, .int .i64 0] 26) ch
  have k0 := blkC g0 0 rfl
  have k1 := blkC g0 1 rfl
  have k2 := blkC g0 2 rfl
  have j0 := blkC g1 0 rfl
  have j1 := blkC g1 1 rfl
  have j2 := blkC g1 2 rfl
  clear sx sy
  have HV : Hid (V = sg (an != bn) (val a n * val b m) * pw (e + f)) := hV
  clear hV
  go_enter Tryd.func41, Tryd.ntmps41
  go_wp2_with fail
  refine (hP _ hb).mono ?_
  rintro r w3 ⟨s, rfl, hA⟩
  obtain ⟨so, sn, sc, d, rfl, hR, hN, hv⟩ := hA.num
  have hsn : sn ≤ 10000 := hA.num.len hlen
  have hb3 := bel_trans hb hA.below
  go_wp2_with fail
  refine (settle_any (V := V) hR hN.1 (by omega) (hT.keeps hb3) he (by rw [hv]; exact HV.out)).mono ?_
  rintro r w7 (⟨hok, v, rfl, hD⟩ | ⟨hno, rfl, hb7⟩)
  · have hb7 := hD.below
    obtain ⟨ng', s', m', e', rfl, hyy, hA2⟩ := id hD
    obtain ⟨so', sn', sc', rfl⟩ := hA2.num.shape
    have q0 := ((bel_trans hA.below hb7).block w.heap.size (by rw [size1]; omega)).trans (heap_a1 _ _)
    have x0 := blkC q0 0 rfl
    have x1 := blkC q0 1 rfl
    have x2 := blkC q0 2 rfl
    have z0 := blkF q0 0
    have z1 := blkF q0 1
    have z2 := blkF q0 2
    go_wp2
    refine bodyPost_ret (v := .agg #[.bool ng', .slice so' sn' sc', .int .i64 e']) (by simp [results, Tryd.results41, go_sem, x0, x1, x2]) rfl ?_
    exact .inl ⟨hok, _, rfl, dans_res3 (g := w.heap.size) hD hb3 (Nat.le_refl _) (Nat.lt_of_lt_of_le (by rw [size1]; omega) hA.below.size) _ _ _⟩
  · exact ⟨rfl, .inr ⟨hno, rfl, bel_trans hb3 hb7⟩⟩
set_option maxRecDepth 100000 in
set_option maxHeartbeats 1000000 in
theorem dmul_bad (x y : NumR) (w : World) (hx : Row w x.ao x.n x.cap x.d) (hy : Row w y.ao y.n y.cap y.d) (ok : (okR x && okR y) = false) :
    Calls Tryd.prog 19 #[x.v, y.v] w fun r w' => r = .returned (.tuple #[zeroV, .int .i64 11]) ∧ Below w.heap.size w w' := by
  have hmf : ∀ (fn : Fn) (first cap : Array Value) (w : World), (Instr.makeFunc fn first cap).run Tryd.prog w = .ok (.func fn first cap) w := fun _ _ _ _ => rfl
  have hA := allOk2 x y
  rw [ok] at hA
  have hN := fun W q hb => nums2 (w := W) (g := w.heap.size + 3) (x := x) (y := y) (t := 26) q (hx.keeps hb) (hy.keeps hb)
  generalize pair2 x y = pr at hA hN
  obtain ⟨an, ao, n, ca, a, e⟩ := x
  obtain ⟨bn, bo, m, cb, b, f⟩ := y
  unfold NumR.v
  simp only at hx hy hN ⊢
  go_enter Tryd.func19, Tryd.ntmps19
  go_wp2_with fail
  refine (dvalids_any _ _ _ _ _ (hN _ (h4_3 _ _ _ _ _) (bel_a4 _ _ _ _ _))).mono ?_
  rw [hA]
  rintro r w1 ⟨rfl, hb1⟩
  have q0 := (hb1.block (w.heap.size + 2) (by rw [size4]; omega)).trans (h4_2 _ _ _ _ _)
  have x0 := blkC q0 0 rfl
  have x1 := blkC q0 1 rfl
  have x2 := blkC q0 2 rfl
  have z0 := blkF q0 0
  have z1 := blkF q0 1
  have z2 := blkF q0 2
  go_wp2
  refine bodyPost_ret (v := .tuple #[zeroV, .int .i64 11]) (by simp [results, Tryd.results19, go_sem, zeroV, x0, x1, x2]) rfl ⟨rfl, ?_⟩
  exact bel_set3 (bel_trans (bel_a4 _ _ _ _ _) hb1) (by omega) _ _ _
set_option maxRecDepth 100000 in
set_option maxHeartbeats 1000000 in
theorem dmul_ok (x y : NumR) (w : World) (hx : Row w x.ao x.n x.cap x.d) (hy : Row w y.ao y.n y.cap y.d) (ox : okR x = true) (oy : okR y = true) (hT : Tab w) :
    Calls Tryd.prog 19 #[x.v, y.v] w fun r w' => ∃ v er, r = .returned (.tuple #[v, .int .i64 er]) ∧ DFit w w' (mulV x y) v er := by
  have hmf : ∀ (fn : Fn) (first cap : Array Value) (w : World), (Instr.makeFunc fn first cap).run Tryd.prog w = .ok (.func fn first cap) w := fun _ _ _ _ => rfl
  have hE : ∀ (cap : Array Value) (w : World), (callFunc 41 cap).run Tryd.prog w = .ok (.enter 41 cap) w := by
    intro cap w
    simp [go_sem]
  have hA := allOk2 x y
  rw [ox, oy] at hA
  have hN := fun W q hb => nums2 (w := W) (g := w.heap.size + 3) (x := x) (y := y) (t := 26) q (hx.keeps hb) (hy.keeps hb)
  have hC := fun W hb cg ch => mul1_any x y w.heap.size (w.heap.size + 1) W cg ch (hx.keeps hb) (hy.keeps hb) (okR_sane ox) (okR_sane oy) (hT.keeps hb)
  generalize pair2 x y = pr at hA hN
  generalize mulV x y = V at hC ⊢
  clear ox oy
  obtain ⟨an, ao, n, ca, a, e⟩ := x
  obtain ⟨bn, bo, m, cb, b, f⟩ := y
  unfold NumR.v
  simp only at hx hy hN hC ⊢
  go_enter Tryd.func19, Tryd.ntmps19
  go_wp2_with fail
  refine (dvalids_any _ _ _ _ _ (hN _ (h4_3 _ _ _ _ _) (bel_a4 _ _ _ _ _))).mono ?_
  rw [hA]
  rintro r w1 ⟨rfl, hb1⟩
  have hbw := bel_trans (bel_a4 w _ _ _ _) hb1
  have g0 := (hb1.block w.heap.size (by rw [size4]; omega)).trans (h4_0 _ _ _ _ _)
  have g1 := (hb1.block (w.heap.size + 1) (by rw [size4]; omega)).trans (h4_1 _ _ _ _ _)
  have g2 := (hb1.block (w.heap.size + 2) (by rw [size4]; omega)).trans (h4_2 _ _ _ _ _)
  have hs4 : w.heap.size + 4 ≤ w1.heap.size := by have := hb1.size; rw [size4] at this; exact this
  go_wp2_with fail
  refine (told_any (V := V) (hE _) (fun W hW => hC W (bel_trans hbw hW) ((hW.block _ (by omega)).trans g0) ((hW.block _ (by omega)).trans g1))).mono ?_
  rintro r w2 ⟨v, er, rfl, hF⟩
  obtain ⟨ng', so, sn, sc, e', rfl⟩ := hF.shape
  have q0 := (hF.1.block (w.heap.size + 2) (by omega)).trans g2
  have x0 := blkC q0 0 rfl
  have x1 := blkC q0 1 rfl
  have x2 := blkC q0 2 rfl
  have z0 := blkF q0 0
  have z1 := blkF q0 1
  have z2 := blkF q0 2
  go_wp2
  refine bodyPost_ret (v := .tuple #[.agg #[.bool ng', .slice so sn sc, .int .i64 e'], .int .i64 er]) (by simp [results, Tryd.results19, go_sem, x0, x1, x2]) rfl ⟨_, _, rfl, ?_⟩
  exact dfit_res (g := w.heap.size + 2) hF hbw (by omega) (by omega) _ _ _
end Go.Proofs.YtoehjolmniddlaaDoor

/-
  Package dyadic: Neg, Abs, Sign, Scale, by contracts.
-/
namespace Go.Proofs.YtoehjolmniddlaaDoor
open Go Go.RowKit Go.Proofs.YtoehjolmniddlaaDoor.M
set_option linter.unusedSimpArgs false
set_option linter.unusedVariables false

theorem neg_dy {x : NumR} (h : okR x = true) : Dy (-x.V) (!x.ng && decide (0 < x.n)) (val x.d x.n) x.e := by
  have hd := (okR_dy h).1
  by_cases h0 : 0 < x.n
  · have hv := val_pos (okR_sane h).1 h0
    have := hd.neg hv
    simpa [h0] using this
  · rcases of_decide_eq_true h with ⟨h1, h2, h3⟩ | ⟨h1, _⟩
    · have hv : val x.d x.n = 0 := by rw [h1]; rfl
      have := hd.eq_zero.2 hv
      rw [this, hv, h3]
      simpa [h0] using Dy.zero
    · omega
theorem abs_dy {x : NumR} (h : okR x = true) : Dy (x.V.natAbs : Int) (false && decide (0 < x.n)) (val x.d x.n) x.e := by
  have hd := (okR_dy h).1.abs
  simpa using hd
end Go.Proofs.YtoehjolmniddlaaDoor

/-
  Package dyadic: compare, Cmp, by contracts.
-/
namespace Go.Proofs.YtoehjolmniddlaaDoor
open Go Go.RowKit Go.Proofs.YtoehjolmniddlaaDoor.M
set_option linter.unusedSimpArgs false
set_option linter.unusedVariables false

theorem ord_scale {a b p : Int} (hp : 0 < p) : ord (a * p) (b * p) = ord a b := by
  rcases Int.lt_trichotomy a b with h | h | h
  · rw [ord_lt h, ord_lt (Int.mul_lt_mul_of_pos_right h hp)]
  · rw [ord_eq h, ord_eq (by rw [h])]
  · rw [ord_gt h, ord_gt (Int.mul_lt_mul_of_pos_right h hp)]
theorem dcompare_num {w : World} {x y : Value} {A B : Int} (hx : Num w x A) (hy : Num w y B) :
    Calls Tryd.prog 90 #[x, y] w fun e w' => e = .returned (.int .i64 (ord A B)) ∧ Below w.heap.size w w' := by
  obtain ⟨ao, n, ca, a, rfl, hR, hN, rfl⟩ := hx
  obtain ⟨bo, m, cb, b, rfl, hR', hN', rfl⟩ := hy
  exact compare_any _ _ _ _ _ _ _ _ _ hR hR' hN hN'
/-- What reaches higher is greater. -/
theorem top_lt {a b e f : Int} (ha : 0 < a) (hb : 0 < b) (he : -4194304 ≤ e) (hf : -4194304 ≤ f) (h : e + blen a < f + blen b) : a * pw e < b * pw f := by
  have h1 := blen_lt a
  have h2 := (blen_pos hb)
  have hpe := pw_pos e
  have hpf := pw_pos f
  have c1 : a * pw e < 2 ^ blen a * pw e := Int.mul_lt_mul_of_pos_right h1 hpe
  have c2 : 2 ^ (blen b - 1) * pw f ≤ b * pw f := Int.mul_le_mul_of_nonneg_right h2.2 (Int.le_of_lt hpf)
  have c3 : 2 ^ blen a * pw e ≤ 2 ^ (blen b - 1) * pw f := by
    unfold pw
    rw [← Int.pow_add, ← Int.pow_add]
    exact two_le (by have := h2.1; omega)
  omega
theorem ord_tops {a b e f : Int} (ha : 0 < a) (hb : 0 < b) (he : -4194304 ≤ e) (hf : -4194304 ≤ f) (h : e + blen a ≠ f + blen b) : ord (e + blen a) (f + blen b) = ord (a * pw e) (b * pw f) := by
  rcases Int.lt_or_gt_of_ne h with h1 | h1
  · rw [ord_lt h1, ord_lt (top_lt ha hb he hf h1)]
  · rw [ord_gt h1, ord_gt (top_lt hb ha hf he h1)]
theorem ord_low {a b e f low : Int} (hl : -4194304 ≤ low) (he : low ≤ e) (hf : low ≤ f) : ord (a * 2 ^ (e - low).toNat) (b * 2 ^ (f - low).toNat) = ord (a * pw e) (b * pw f) := by
  rw [pw_sub hl he, pw_sub hl hf, ← Int.mul_assoc, ← Int.mul_assoc, ord_scale (pw_pos _)]
/-- Two numbers' own blocks, behind a call. -/
theorem keep66 {W w' : World} {g h : Nat} {a b c d e f : Value} (hb : Below W.heap.size W w') (hS : (W.cell? ⟨g, 0, none⟩ = some a ∧ W.cell? ⟨g, 1, none⟩ = some b ∧ W.cell? ⟨g, 2, none⟩ = some c) ∧ W.cell? ⟨h, 0, none⟩ = some d ∧ W.cell? ⟨h, 1, none⟩ = some e ∧ W.cell? ⟨h, 2, none⟩ = some f) :
    (w'.cell? ⟨g, 0, none⟩ = some a ∧ w'.cell? ⟨g, 1, none⟩ = some b ∧ w'.cell? ⟨g, 2, none⟩ = some c) ∧ w'.cell? ⟨h, 0, none⟩ = some d ∧ w'.cell? ⟨h, 1, none⟩ = some e ∧ w'.cell? ⟨h, 2, none⟩ = some f :=
  ⟨keepB hS.1 hb, keepB hS.2 hb⟩
set_option maxRecDepth 100000 in
set_option maxHeartbeats 2000000 in
theorem dsizes_any (x y : NumR) (w : World) (hx : Row w x.ao x.n x.cap x.d) (hy : Row w y.ao y.n y.cap y.d) (sx : Sane x) (sy : Sane y) (hz : (0 < x.n ∧ 0 < y.n) ∨ (x.n = 0 ∧ y.n = 0 ∧ x.e = y.e)) :
    Calls Tryd.prog 74 #[x.v, y.v] w fun r w' => r = .returned (.int .i64 (ord (val x.d x.n * pw x.e) (val y.d y.n * pw y.e))) ∧ Below w.heap.size w w' := by
  have hX := fun W hb => dtop_any x.ng x.ao x.n x.cap x.d x.e W (hx.keeps hb) sx.1 (by have := sx.2.1; omega) (by have := sx.2.2.1; omega) (by have := sx.2.2.2; omega)
  have hY := fun W hb => dtop_any y.ng y.ao y.n y.cap y.d y.e W (hy.keeps hb) sy.1 (by have := sy.2.1; omega) (by have := sy.2.2.1; omega) (by have := sy.2.2.2; omega)
  have lx := sx.len
  have ly := sy.len
  have hpp : x.e + blen (val x.d x.n) ≠ y.e + blen (val y.d y.n) → 0 < val x.d x.n ∧ 0 < val y.d y.n := fun hne => by
    rcases hz with ⟨h0, h1⟩ | ⟨h0, h1, h2⟩
    · exact ⟨val_pos sx.1 h0, val_pos sy.1 h1⟩
    · exact absurd (by rw [h0, h1, h2]; rfl) hne
  clear hz
  obtain ⟨an, ao, n, ca, a, e⟩ := x
  obtain ⟨bn, bo, m, cb, b, f⟩ := y
  obtain ⟨s1, s2, s3, s4⟩ := sx
  obtain ⟨t1, t2, t3, t4⟩ := sy
  unfold NumR.v
  simp only at *
  have hmin : ∀ (ts : Array TypeId) (t : TypeId) (x y : Int) (w : World), (Builtin.min_ ts t #[.int .i64 x, .int .i64 y]).run Tryd.prog w = .ok (.int .i64 (min x y)) w := fun ts t x y w => by rw [run_min_int2]; congr 2; omega
  have hb3 := bel_alloc2 w (.cells #[.bool an, .slice ao n ca, .int .i64 e] 26) (.cells #[.bool bn, .slice bo m cb, .int .i64 f] 26)
  have g0 := heap_a2 w (.cells #[.bool an, .slice ao n ca, .int .i64 e] 26) (.cells #[.bool bn, .slice bo m cb, .int .i64 f] 26)
  have g1 := heap_b2 w (.cells #[.bool an, .slice ao n ca, .int .i64 e] 26) (.cells #[.bool bn, .slice bo m cb, .int .i64 f] 26)
  go_enter Tryd.func74, Tryd.ntmps74
  go_wp2_with fail
  generalize (w.alloc (.cells #[.bool an, .slice ao n ca, .int .i64 e] 26)).alloc (.cells #[.bool bn, .slice bo m cb, .int .i64 f] 26) = wx at hb3 g0 g1 ⊢
  have k0 := blkC g0 0 rfl
  have k1 := blkC g0 1 rfl
  have k2 := blkC g0 2 rfl
  have j0 := blkC g1 0 rfl
  have j1 := blkC g1 1 rfl
  have j2 := blkC g1 2 rfl
  have hb1 := bel_refl wx
  have CA : ∀ W, Below wx.heap.size wx W → Calls Tryd.prog 77 #[.agg #[.bool an, .slice ao n ca, .int .i64 e]] W fun r w' => r = .returned (.int .i64 (e + blen (val a n))) ∧ Below W.heap.size W w' := fun W h => hX W (bel_trans hb3 h)
  have CB : ∀ W, Below wx.heap.size wx W → Calls Tryd.prog 77 #[.agg #[.bool bn, .slice bo m cb, .int .i64 f]] W fun r w' => r = .returned (.int .i64 (f + blen (val b m))) ∧ Below W.heap.size W w' := fun W h => hY W (bel_trans hb3 h)
  clear hX hY
  go_region_held3 (fun W => (W.cell? ⟨w.heap.size, 0, none⟩ = some (.bool an) ∧ W.cell? ⟨w.heap.size, 1, none⟩ = some (.slice ao n ca) ∧ W.cell? ⟨w.heap.size, 2, none⟩ = some (.int .i64 e)) ∧ W.cell? ⟨w.heap.size + 1, 0, none⟩ = some (.bool bn) ∧ W.cell? ⟨w.heap.size + 1, 1, none⟩ = some (.slice bo m cb) ∧ W.cell? ⟨w.heap.size + 1, 2, none⟩ = some (.int .i64 f))
    (first | assumption | exact ⟨⟨k0, k1, k2⟩, j0, j1, j2⟩ | exact keep66 hbv2 (keep66 (W := wx.drew) hbv1 ⟨⟨k0, k1, k2⟩, j0, j1, j2⟩) | exact keep66 (W := wx.drew) hbv1 ⟨⟨k0, k1, k2⟩, j0, j1, j2⟩)
    (first | (go_at_call 77; have _t := hbv1; refine (CB _ (bel_trans hb1.drew hbv1)).mono ?_; rintro r w4 ⟨rfl, hbv2⟩) | (go_at_call 77; refine (CA _ hb1.drew).mono ?_; rintro r w3 ⟨rfl, hbv1⟩))
  have hS4 := keep66 hbv2 (keep66 (W := wx.drew) hbv1 ⟨⟨k0, k1, k2⟩, j0, j1, j2⟩)
  have hx4 : Below wx.heap.size wx w4 := bel_trans (bel_trans hb1.drew hbv1) hbv2
  clear k0 k1 k2 j0 j1 j2 g0 g1
  obtain ⟨⟨k0, k1, k2⟩, j0, j1, j2⟩ := hS4
  by_cases heq : e + blen (val a n) = f + blen (val b m)
  · have hne : (e + (blen (val a n) : Int) != f + blen (val b m)) = false := by simp [heq]
    have HEQ : Hid (e + blen (val a n) = f + blen (val b m)) := heq
    clear heq
    go_wp2_with fail
    have l1 : min e f ≤ e := Int.min_le_left _ _
    have l2 : min e f ≤ f := Int.min_le_right _ _
    have l3 : e - min e f ≤ 150000 ∧ f - min e f ≤ 150000 ∧ -1100000 ≤ min e f := by have := HEQ.out; omega
    generalize min e f = low at l1 l2 l3 ⊢
    have HO0 := ord_low (a := val a n) (b := val b m) (by omega) l1 l2
    obtain ⟨ka, hka⟩ : ∃ ka : Nat, e - low = ka := ⟨(e - low).toNat, by omega⟩
    obtain ⟨kb, hkb⟩ : ∃ kb : Nat, f - low = kb := ⟨(f - low).toNat, by omega⟩
    have hwa : IntKind.i64.wrap (e - low) = (ka : Int) := by rw [wrap_i64_eq]; omega
    have hwb : IntKind.i64.wrap (f - low) = (kb : Int) := by rw [wrap_i64_eq]; omega
    rw [show (e - low).toNat = ka by omega, show (f - low).toNat = kb by omega] at HO0
    have hka0 : ka ≤ 1000000 := by omega
    have hkb0 : kb ≤ 1000000 := by omega
    clear hka hkb
    have hb4 := bel_refl w4
    have RA : ∀ W, Below w4.heap.size w4 W → Calls Tryd.prog 91 #[.slice ao n ca, .int .i64 (ka : Int)] W fun r w' => ∃ so sn sc, r = .returned (.slice so sn sc) ∧ Ans W w' (val a n * 2 ^ ka) (.slice so sn sc) ∧ Below W.heap.size W w' := fun W h => by
      refine (raise_any ao n ca ka a W (hx.keeps (bel_trans hb3 (bel_trans hx4 h))) s1.1 (by omega) (by omega)).mono ?_
      rintro r w' ⟨v, rfl, hA⟩
      obtain ⟨so, sn, sc, rfl⟩ := hA.num.shape
      exact ⟨so, sn, sc, rfl, hA, hA.below⟩
    have RB : ∀ W, Below w4.heap.size w4 W → Calls Tryd.prog 91 #[.slice bo m cb, .int .i64 (kb : Int)] W fun r w' => ∃ so sn sc, r = .returned (.slice so sn sc) ∧ Ans W w' (val b m * 2 ^ kb) (.slice so sn sc) ∧ Below W.heap.size W w' := fun W h => by
      refine (raise_any bo m cb kb b W (hy.keeps (bel_trans hb3 (bel_trans hx4 h))) t1.1 (by omega) (by omega)).mono ?_
      rintro r w' ⟨v, rfl, hA⟩
      obtain ⟨so, sn, sc, rfl⟩ := hA.num.shape
      exact ⟨so, sn, sc, rfl, hA, hA.below⟩
    have HO : Hid (ord (val a n * 2 ^ ka) (val b m * 2 ^ kb) = ord (val a n * pw e) (val b m * pw f)) := HO0
    have HF : Hid (Below w.heap.size w w4) := bel_trans hb3 hx4
    clear CA CB hbv1 hbv2 hx4 hb1 hb3 hx hy hpp lx ly l1 l2 l3 HEQ HO0
    go_region_held3 (fun W => (W.cell? ⟨w.heap.size, 0, none⟩ = some (.bool an) ∧ W.cell? ⟨w.heap.size, 1, none⟩ = some (.slice ao n ca) ∧ W.cell? ⟨w.heap.size, 2, none⟩ = some (.int .i64 e)) ∧ W.cell? ⟨w.heap.size + 1, 0, none⟩ = some (.bool bn) ∧ W.cell? ⟨w.heap.size + 1, 1, none⟩ = some (.slice bo m cb) ∧ W.cell? ⟨w.heap.size + 1, 2, none⟩ = some (.int .i64 f))
      (first | assumption | exact ⟨⟨k0, k1, k2⟩, j0, j1, j2⟩ | exact keep66 hbv5 (keep66 hbv4 (keep66 (W := w4.drew) hbv3 ⟨⟨k0, k1, k2⟩, j0, j1, j2⟩)) | exact keep66 hbv4 (keep66 (W := w4.drew) hbv3 ⟨⟨k0, k1, k2⟩, j0, j1, j2⟩) | exact keep66 (W := w4.drew) hbv3 ⟨⟨k0, k1, k2⟩, j0, j1, j2⟩)
      (first | (go_at_call 90; refine (dcompare_num (hv3.num.keeps hbv4) hv4.num).mono ?_; rintro r w7 ⟨rfl, hbv5⟩) | (go_at_call 91; have _t := hbv3; refine (RB _ (bel_trans hb4.drew hbv3)).mono ?_; rintro r w6 ⟨so4, sn4, sc4, rfl, hv4, hbv4⟩) | (go_at_call 91; refine (RA _ hb4.drew).mono ?_; rintro r w5 ⟨so3, sn3, sc3, rfl, hv3, hbv3⟩))
    go_wp2
    go_ret
    exact ⟨ret_int HO.out, bel_trans (bel_trans (bel_trans HF.out (bel_trans hb4.drew hbv3)) hbv4) hbv5⟩
  · have hne : (e + (blen (val a n) : Int) != f + blen (val b m)) = true := by simp [heq]
    have HO : Hid (ord (e + blen (val a n)) (f + blen (val b m)) = ord (val a n * pw e) (val b m * pw f)) := ord_tops (hpp heq).1 (hpp heq).2 (by omega) (by omega) heq
    have HF : Hid (Below w.heap.size w w4) := bel_trans hb3 hx4
    have CA4 : ∀ W, Below w4.heap.size w4 W → _ := fun W h => CA W (bel_trans hx4 h)
    have CB4 : ∀ W, Below w4.heap.size w4 W → _ := fun W h => CB W (bel_trans hx4 h)
    have hb4 := bel_refl w4
    clear CA CB hbv1 hbv2 hx4 hb1 hb3 hx hy hpp lx ly heq
    go_wp2_with fail
    go_region_held3 (fun W => (W.cell? ⟨w.heap.size, 0, none⟩ = some (.bool an) ∧ W.cell? ⟨w.heap.size, 1, none⟩ = some (.slice ao n ca) ∧ W.cell? ⟨w.heap.size, 2, none⟩ = some (.int .i64 e)) ∧ W.cell? ⟨w.heap.size + 1, 0, none⟩ = some (.bool bn) ∧ W.cell? ⟨w.heap.size + 1, 1, none⟩ = some (.slice bo m cb) ∧ W.cell? ⟨w.heap.size + 1, 2, none⟩ = some (.int .i64 f))
      (first | assumption | exact ⟨⟨k0, k1, k2⟩, j0, j1, j2⟩ | exact keep66 hbv4 (keep66 (W := w4.drew) hbv3 ⟨⟨k0, k1, k2⟩, j0, j1, j2⟩) | exact keep66 (W := w4.drew) hbv3 ⟨⟨k0, k1, k2⟩, j0, j1, j2⟩)
      (first | (go_at_call 73; refine (cmpInt_any _ _ _).mono ?_; rintro r w7 ⟨rfl, rfl⟩) | (go_at_call 77; have _t := hbv3; refine (CB4 _ (bel_trans hb4.drew hbv3)).mono ?_; rintro r w6 ⟨rfl, hbv4⟩) | (go_at_call 77; refine (CA4 _ hb4.drew).mono ?_; rintro r w5 ⟨rfl, hbv3⟩))
    go_wp2
    go_ret
    exact ⟨ret_int HO.out, bel_trans (bel_trans HF.out (bel_trans hb4.drew hbv3)) hbv4⟩
theorem ord_three (a b : Int) : ord a b = 1 ∨ ord a b = 0 ∨ ord a b = -1 := by
  rcases Int.lt_trichotomy a b with h | h | h
  · exact .inr (.inr (ord_lt h))
  · exact .inr (.inl (ord_eq h))
  · exact .inl (ord_gt h)
theorem sgn_V {x : NumR} (sx : Sane x) : (sgn x.ng x.n = 0 ∧ x.V = 0 ∧ x.n = 0) ∨ (sgn x.ng x.n = 1 ∧ 0 < x.V ∧ 0 < x.n ∧ x.ng = false) ∨ (sgn x.ng x.n = -1 ∧ x.V < 0 ∧ 0 < x.n ∧ x.ng = true) := by
  by_cases h0 : x.n = 0
  · left
    refine ⟨by simp [sgn, h0], ?_, h0⟩
    show sg x.ng (val x.d x.n) * _ = 0
    rw [h0]
    show sg x.ng 0 * _ = 0
    rw [sg_zero, Int.zero_mul]
  · right
    have hp := Int.mul_pos (val_pos sx.1 (show 0 < x.n by omega)) (pw_pos x.e)
    have hV : x.V = sg x.ng (val x.d x.n) * pw x.e := rfl
    cases hg : x.ng
    · left
      rw [hg] at hV
      exact ⟨by simp [sgn, h0], by rw [hV]; exact hp, by omega, rfl⟩
    · right
      rw [hg] at hV
      refine ⟨by simp [sgn, h0], ?_, by omega, rfl⟩
      rw [hV]
      show -val x.d x.n * pw x.e < 0
      rw [Int.neg_mul]; omega
theorem ord_signs {x y : NumR} (sx : Sane x) (sy : Sane y) (h : sgn x.ng x.n ≠ sgn y.ng y.n) : ord (sgn x.ng x.n) (sgn y.ng y.n) = ord x.V y.V := by
  rcases sgn_V sx with ⟨a, b, _⟩ | ⟨a, b, _⟩ | ⟨a, b, _⟩ <;> rcases sgn_V sy with ⟨c, d, _⟩ | ⟨c, d, _⟩ | ⟨c, d, _⟩ <;> rw [a, c] at h ⊢ <;>
    first
      | exact absurd rfl h
      | (rw [ord_lt (by decide), ord_lt (by omega)])
      | (rw [ord_gt (by decide), ord_gt (by omega)])
theorem ord_neg (a b : Int) : ord (-a) (-b) = -ord a b := by
  rcases Int.lt_trichotomy a b with h | h | h
  · rw [ord_lt h, ord_gt (by omega)]; rfl
  · rw [ord_eq h, ord_eq (by omega)]; rfl
  · rw [ord_gt h, ord_lt (by omega)]
theorem ord_same {x y : NumR} (ox : okR x = true) (oy : okR y = true) (h : sgn x.ng x.n = sgn y.ng y.n) : ((0 < x.n ∧ 0 < y.n) ∨ (x.n = 0 ∧ y.n = 0 ∧ x.e = y.e)) ∧ sgn x.ng x.n * ord (val x.d x.n * pw x.e) (val y.d y.n * pw y.e) = ord x.V y.V := by
  have hV : x.V = sg x.ng (val x.d x.n) * pw x.e := rfl
  have hW : y.V = sg y.ng (val y.d y.n) * pw y.e := rfl
  rcases sgn_V (okR_sane ox) with ⟨a, b, c⟩ | ⟨a, b, c, d⟩ | ⟨a, b, c, d⟩ <;> rcases sgn_V (okR_sane oy) with ⟨a', b', c'⟩ | ⟨a', b', c', d'⟩ | ⟨a', b', c', d'⟩ <;> rw [a, a'] at h <;> first | (exfalso; omega) | skip
  · refine ⟨.inr ⟨c, c', ?_⟩, ?_⟩
    · rcases of_decide_eq_true ox with ⟨_, _, e1⟩ | ⟨e1, _⟩
      · rcases of_decide_eq_true oy with ⟨_, _, e2⟩ | ⟨e2, _⟩
        · omega
        · omega
      · omega
    · rw [a, b, b', Int.zero_mul, ord_eq rfl]
  · refine ⟨.inl ⟨c, c'⟩, ?_⟩
    rw [a, hV, hW, d, d', Int.one_mul]; rfl
  · refine ⟨.inl ⟨c, c'⟩, ?_⟩
    rw [a, hV, hW, d, d']
    show -1 * _ = ord (-val x.d x.n * _) (-val y.d y.n * _)
    rw [Int.neg_mul (val x.d x.n), Int.neg_mul (val y.d y.n), ord_neg]; omega
set_option maxRecDepth 100000 in
set_option maxHeartbeats 2000000 in
theorem dcompare_any (x y : NumR) (w : World) (hx : Row w x.ao x.n x.cap x.d) (hy : Row w y.ao y.n y.cap y.d) (ox : okR x = true) (oy : okR y = true) :
    Calls Tryd.prog 47 #[x.v, y.v] w fun r w' => r = .returned (.int .i64 (ord x.V y.V)) ∧ Below w.heap.size w w' := by
  have sx := okR_sane ox
  have sy := okR_sane oy
  have hso : sgn x.ng x.n ≠ sgn y.ng y.n → ord (sgn x.ng x.n) (sgn y.ng y.n) = ord x.V y.V := ord_signs sx sy
  have hse : sgn x.ng x.n = sgn y.ng y.n → ((0 < x.n ∧ 0 < y.n) ∨ (x.n = 0 ∧ y.n = 0 ∧ x.e = y.e)) ∧ sgn x.ng x.n * ord (val x.d x.n * pw x.e) (val y.d y.n * pw y.e) = ord x.V y.V := ord_same ox oy
  have hZ := fun W hb hz => dsizes_any x y W (hx.keeps hb) (hy.keeps hb) sx sy hz
  have hX := fun W => dsign_any x.ng x.ao x.n x.cap x.e W (by have := hx.le; have := hx.max; omega)
  have hY := fun W => dsign_any y.ng y.ao y.n y.cap y.e W (by have := hy.le; have := hy.max; omega)
  generalize hU : ord x.V y.V = U at hso hse ⊢
  clear hU ox oy sx sy
  unfold NumR.v at hZ ⊢
  obtain ⟨an, ao, n, ca, a, e⟩ := x
  obtain ⟨bn, bo, m, cb, b, f⟩ := y
  simp only at *
  have hb3 := bel_alloc2 w (.cells #[.bool an, .slice ao n ca, .int .i64 e] 26) (.cells #[.bool bn, .slice bo m cb, .int .i64 f] 26)
  have g0 := heap_a2 w (.cells #[.bool an, .slice ao n ca, .int .i64 e] 26) (.cells #[.bool bn, .slice bo m cb, .int .i64 f] 26)
  have g1 := heap_b2 w (.cells #[.bool an, .slice ao n ca, .int .i64 e] 26) (.cells #[.bool bn, .slice bo m cb, .int .i64 f] 26)
  go_enter Tryd.func47, Tryd.ntmps47
  go_wp2_with fail
  generalize (w.alloc (.cells #[.bool an, .slice ao n ca, .int .i64 e] 26)).alloc (.cells #[.bool bn, .slice bo m cb, .int .i64 f] 26) = wx at hb3 g0 g1 ⊢
  have k0 := blkC g0 0 rfl
  have k1 := blkC g0 1 rfl
  have k2 := blkC g0 2 rfl
  have j0 := blkC g1 0 rfl
  have j1 := blkC g1 1 rfl
  have j2 := blkC g1 2 rfl
  have hb1 := bel_refl wx
  go_region_held3 (fun W => (W.cell? ⟨w.heap.size, 0, none⟩ = some (.bool an) ∧ W.cell? ⟨w.heap.size, 1, none⟩ = some (.slice ao n ca) ∧ W.cell? ⟨w.heap.size, 2, none⟩ = some (.int .i64 e)) ∧ W.cell? ⟨w.heap.size + 1, 0, none⟩ = some (.bool bn) ∧ W.cell? ⟨w.heap.size + 1, 1, none⟩ = some (.slice bo m cb) ∧ W.cell? ⟨w.heap.size + 1, 2, none⟩ = some (.int .i64 f))
    (first | assumption | exact ⟨⟨k0, k1, k2⟩, j0, j1, j2⟩ | exact keep66 hbv2 (keep66 (W := wx.drew) hbv1 ⟨⟨k0, k1, k2⟩, j0, j1, j2⟩) | exact keep66 (W := wx.drew) hbv1 ⟨⟨k0, k1, k2⟩, j0, j1, j2⟩)
    (first | (go_at_call 54; have _t := hbv1; refine (hY _).mono ?_; rintro r w4 ⟨rfl, hbv2⟩) | (go_at_call 54; refine (hX _).mono ?_; rintro r w3 ⟨rfl, hbv1⟩))
  have hS4 := keep66 hbv2 (keep66 (W := wx.drew) hbv1 ⟨⟨k0, k1, k2⟩, j0, j1, j2⟩)
  have hf4 := bel_trans hb3 (bel_trans (bel_trans hb1.drew hbv1) hbv2)
  clear k0 k1 k2 j0 j1 j2 g0 g1 hbv1 hbv2 hb1 hb3
  obtain ⟨⟨k0, k1, k2⟩, j0, j1, j2⟩ := hS4
  have hb4 := bel_refl w4
  have hsv : sgn an n = 1 ∨ sgn an n = 0 ∨ sgn an n = -1 := by unfold sgn; split; (· exact .inr (.inl rfl)); (· cases an <;> simp)
  by_cases heq : sgn an n = sgn bn m
  · have hne : (sgn an n != sgn bn m) = false := by simp [heq]
    obtain ⟨z1, z2⟩ := hse heq
    have HZ : Hid (sgn an n * ord (val a n * pw e) (val b m * pw f) = U) := z2
    have hZ4 : ∀ W, Below w4.heap.size w4 W → _ := fun W h => hZ W (bel_trans hf4 h) z1
    have hO : ∀ o : Int, (o = 1 ∨ o = 0 ∨ o = -1) → IntKind.i64.wrap (sgn an n * o) = sgn an n * o := fun o ho => by
      rw [wrap_i64_eq]
      rcases hsv with h | h | h <;> rcases ho with q | q | q <;> rw [h, q] <;> decide
    have hw := hO _ (ord_three (val a n * pw e) (val b m * pw f))
    clear hso hse heq z2 hO hZ hsv
    go_wp2_with fail
    generalize ord (val a n * pw e) (val b m * pw f) = O at hZ4 hw HZ
    go_region_held3 (fun W => (W.cell? ⟨w.heap.size, 0, none⟩ = some (.bool an) ∧ W.cell? ⟨w.heap.size, 1, none⟩ = some (.slice ao n ca) ∧ W.cell? ⟨w.heap.size, 2, none⟩ = some (.int .i64 e)) ∧ W.cell? ⟨w.heap.size + 1, 0, none⟩ = some (.bool bn) ∧ W.cell? ⟨w.heap.size + 1, 1, none⟩ = some (.slice bo m cb) ∧ W.cell? ⟨w.heap.size + 1, 2, none⟩ = some (.int .i64 f))
      (first | assumption | exact ⟨⟨k0, k1, k2⟩, j0, j1, j2⟩ | exact keep66 hbv4 (keep66 (W := w4.drew) hbv3 ⟨⟨k0, k1, k2⟩, j0, j1, j2⟩) | exact keep66 (W := w4.drew) hbv3 ⟨⟨k0, k1, k2⟩, j0, j1, j2⟩)
      (first | (go_at_call 74; refine (hZ4 _ (bel_trans hb4.drew hbv3)).mono ?_; rintro r w6 ⟨rfl, hbv4⟩) | (go_at_call 54; refine (hX _).mono ?_; rintro r w5 ⟨rfl, hbv3⟩))
    go_wp2
    go_ret
    exact ⟨ret_int HZ.out, bel_trans (bel_trans hf4 (bel_trans hb4.drew hbv3)) hbv4⟩
  · have hne : (sgn an n != sgn bn m) = true := by simp [heq]
    have HO : Hid (ord (sgn an n) (sgn bn m) = U) := hso heq
    clear hso hse heq hZ hsv
    go_wp2_with fail
    go_region_held3 (fun W => (W.cell? ⟨w.heap.size, 0, none⟩ = some (.bool an) ∧ W.cell? ⟨w.heap.size, 1, none⟩ = some (.slice ao n ca) ∧ W.cell? ⟨w.heap.size, 2, none⟩ = some (.int .i64 e)) ∧ W.cell? ⟨w.heap.size + 1, 0, none⟩ = some (.bool bn) ∧ W.cell? ⟨w.heap.size + 1, 1, none⟩ = some (.slice bo m cb) ∧ W.cell? ⟨w.heap.size + 1, 2, none⟩ = some (.int .i64 f))
      (first | assumption | exact ⟨⟨k0, k1, k2⟩, j0, j1, j2⟩ | exact keep66 hbv4 (keep66 (W := w4.drew) hbv3 ⟨⟨k0, k1, k2⟩, j0, j1, j2⟩) | exact keep66 (W := w4.drew) hbv3 ⟨⟨k0, k1, k2⟩, j0, j1, j2⟩)
      (first | (go_at_call 73; refine (cmpInt_any _ _ _).mono ?_; rintro r w7 ⟨rfl, rfl⟩) | (go_at_call 54; have _t := hbv3; refine (hY _).mono ?_; rintro r w6 ⟨rfl, hbv4⟩) | (go_at_call 54; refine (hX _).mono ?_; rintro r w5 ⟨rfl, hbv3⟩))
    go_wp2
    go_ret
    exact ⟨ret_int HO.out, bel_trans (bel_trans hf4 (bel_trans hb4.drew hbv3)) hbv4⟩
set_option maxRecDepth 100000 in
set_option maxHeartbeats 1000000 in
theorem dcmp_any (x y : NumR) (w : World) (hx : Row w x.ao x.n x.cap x.d) (hy : Row w y.ao y.n y.cap y.d) :
    Calls Tryd.prog 22 #[x.v, y.v] w fun r w' => r = .returned (.tuple #[.int .i64 (if okR x && okR y then ord x.V y.V else 0), .int .i64 (if okR x && okR y then 0 else 11)]) ∧ Below w.heap.size w w' := by
  have hA := allOk2 x y
  have hN := fun W q hb => nums2 (w := W) (g := w.heap.size + 2) (x := x) (y := y) (t := 26) q (hx.keeps hb) (hy.keeps hb)
  have hC := fun (hk : (okR x && okR y) = true) W hb => dcompare_any x y W (hx.keeps hb) (hy.keeps hb) (by simp at hk; exact hk.1) (by simp at hk; exact hk.2)
  generalize ord x.V y.V = O at hC ⊢
  generalize pair2 x y = pr at hA hN
  generalize (okR x && okR y) = ok at hA hC ⊢
  unfold NumR.v at hC ⊢
  obtain ⟨an, ao, n, ca, a, e⟩ := x
  obtain ⟨bn, bo, m, cb, b, f⟩ := y
  simp only at *
  cases ok
  · go_enter Tryd.func22, Tryd.ntmps22
    go_wp2_with fail
    refine (dvalids_any _ _ _ _ _ (hN _ (h3_2 _ _ _ _) (bel_a3 _ _ _ _))).mono ?_
    rw [hA]
    rintro r w1 ⟨rfl, hb1⟩
    go_wp2
    go_ret2
    exact ⟨rfl, bel_trans (bel_a3 _ _ _ _) hb1⟩
  · go_enter Tryd.func22, Tryd.ntmps22
    go_wp2_with fail
    refine (dvalids_any _ _ _ _ _ (hN _ (h3_2 _ _ _ _) (bel_a3 _ _ _ _))).mono ?_
    rw [hA]
    rintro r w1 ⟨rfl, hb1⟩
    have hbw := bel_trans (bel_a3 w _ _ _) hb1
    have g0 := (hb1.block w.heap.size (by rw [size3]; omega)).trans (h3_0 _ _ _ _)
    have g1 := (hb1.block (w.heap.size + 1) (by rw [size3]; omega)).trans (h3_1 _ _ _ _)
    have k0 := blkC g0 0 rfl
    have k1 := blkC g0 1 rfl
    have k2 := blkC g0 2 rfl
    have j0 := blkC g1 0 rfl
    have j1 := blkC g1 1 rfl
    have j2 := blkC g1 2 rfl
    go_wp2_with fail
    refine (hC (by trivial) _ hbw).mono ?_
    rintro r w2 ⟨rfl, hb2⟩
    go_wp2
    go_ret2
    exact ⟨rfl, bel_trans hbw hb2⟩
end Go.Proofs.YtoehjolmniddlaaDoor

/-
  Package dyadic's calls on numbers that are told by their worth.
-/
namespace Go.Proofs.YtoehjolmniddlaaDoor
open Go Go.RowKit Go.Proofs.YtoehjolmniddlaaDoor.M
set_option linter.unusedSimpArgs false
set_option linter.unusedVariables false

/-- A number by its worth, laid open. -/
theorem DNum.open {w : World} {v : Value} {V : Int} (h : DNum w v V) (ok : Dok V) : ∃ x : NumR, v = x.v ∧ Row w x.ao x.n x.cap x.d ∧ okR x = true ∧ x.V = V := by
  obtain ⟨ng, s, m, e, rfl, hy, ao, n, cap, d, rfl, hR, hN, rfl⟩ := h
  refine ⟨⟨ng, ao, n, cap, d, e⟩, rfl, hR, ?_, hy.val.symm⟩
  obtain ⟨o1, o2, o3⟩ := hy.ok.1 ok
  refine decide_eq_true ?_
  by_cases h0 : n = 0
  · left
    have hz : val d n = 0 := by rw [h0]; rfl
    rcases hy.form with ⟨_, f2, f3⟩ | ⟨f1, _⟩
    · exact ⟨h0, f2, f3⟩
    · omega
  · right
    have hp := val_pos hN (show 0 < n by omega)
    rcases hy.form with ⟨f1, _⟩ | ⟨_, f2⟩
    · omega
    · refine ⟨by show 0 < n; omega, ⟨?_, hN⟩, ?_, o2, o3⟩
      · exact Num.len (w := w) (ao := ao) (cap := cap) ⟨_, _, _, _, rfl, hR, hN, rfl⟩ o1
      · obtain ⟨k, hk⟩ : ∃ k, n = 1 + k := ⟨n - 1, by omega⟩
        have := val_split d 1 k
        rw [← hk] at this
        rw [this, show val d 1 = d 0 by show 0 + d 0 * 1 = _; omega, show P 1 = 1073741824 from rfl] at f2
        show d 0 % 2 = 1
        omega
theorem DFit.yes {w w' : World} {V er : Int} {v : Value} (h : DFit w w' V v er) (ok : Dok V) : er = 0 ∧ DAns w w' V v := by
  rcases h.2 with ⟨_, h1, h2⟩ | ⟨hn, _⟩
  · exact ⟨h1, h2⟩
  · exact absurd ok hn
theorem add_D {w : World} {x y : Value} {A B : Int} (hx : DNum w x A) (hy : DNum w y B) (oA : Dok A) (oB : Dok B) (hT : Tab w) :
    Calls Tryd.prog 9 #[x, y] w fun r w' => ∃ v er, r = .returned (.tuple #[v, .int .i64 er]) ∧ DFit w w' (A + B) v er := by
  obtain ⟨x, rfl, hR, ok, rfl⟩ := hx.open oA
  obtain ⟨y, rfl, hR', ok', rfl⟩ := hy.open oB
  exact dadd_ok x y w hR hR' ok ok' hT
theorem mul_D {w : World} {x y : Value} {A B : Int} (hx : DNum w x A) (hy : DNum w y B) (oA : Dok A) (oB : Dok B) (hT : Tab w) :
    Calls Tryd.prog 19 #[x, y] w fun r w' => ∃ v er C, r = .returned (.tuple #[v, .int .i64 er]) ∧ C * 2 ^ 4194304 = A * B ∧ DFit w w' C v er := by
  obtain ⟨x, rfl, hR, ok, rfl⟩ := hx.open oA
  obtain ⟨y, rfl, hR', ok', rfl⟩ := hy.open oB
  refine (dmul_ok x y w hR hR' ok ok' hT).mono ?_
  rintro r w' ⟨v, er, rfl, hF⟩
  exact ⟨v, er, _, rfl, mulV_eq (by have := (okR_sane ok).2.2.1; omega) (by have := (okR_sane ok').2.2.1; omega), hF⟩
theorem cmp_D {w : World} {x y : Value} {A B : Int} (hx : DNum w x A) (hy : DNum w y B) (oA : Dok A) (oB : Dok B) :
    Calls Tryd.prog 22 #[x, y] w fun r w' => r = .returned (.tuple #[.int .i64 (ord A B), .int .i64 0]) ∧ Below w.heap.size w w' := by
  obtain ⟨x, rfl, hR, ok, rfl⟩ := hx.open oA
  obtain ⟨y, rfl, hR', ok', rfl⟩ := hy.open oB
  have := dcmp_any x y w hR hR'
  rwa [ok, ok'] at this
theorem valid_D {w : World} {x : Value} {A : Int} (hx : DNum w x A) (oA : Dok A) :
    Calls Tryd.prog 50 #[x] w fun r w' => r = .returned (.bool true) ∧ Below w.heap.size w w' := by
  obtain ⟨x, rfl, hR, ok, rfl⟩ := hx.open oA
  have := dvalid_any x.ng x.ao x.n x.cap x.d x.e w hR
  rwa [show okN x.ng x.d x.n x.e = true from ok] at this
theorem sameB_iff {a b : Nat → Int} {n m : Nat} (ha : Nrm a n) (hb : Nrm b m) : sameB a b n m = decide (val a n = val b m) := by
  by_cases h : val a n = val b m
  · rw [sameB_of ha hb h, decide_eq_true h]
  · rw [decide_eq_false h]
    refine decide_eq_false fun ⟨h1, h2⟩ => h ?_
    subst h1
    exact val_congr h2
end Go.Proofs.YtoehjolmniddlaaDoor

/-
  Package plumblaw3: alive.
-/
namespace Go.Proofs.YtoehjolmniddlaaDoor
open Go Go.RowKit Go.Proofs.YtoehjolmniddlaaDoor.M
set_option linter.unusedSimpArgs false
set_option linter.unusedVariables false

/-- A small number's form. -/
theorem dy_lit (ng : Bool) {m e : Int} (h0 : 0 < m) (h1 : m % 2 = 1) (he : -4194304 ≤ e) : Dy (sg ng m * pw e) ng m e := ⟨rfl, he, .inr ⟨h0, h1⟩⟩
theorem dok_lit {ng : Bool} {m e : Int} (h0 : 0 < m) (h1 : m % 2 = 1) (h2 : m < 1073741824) (he : -1048576 ≤ e) (he1 : e ≤ 1048576) : Dok (sg ng m * pw e) :=
  (dy_lit ng h0 h1 (by omega)).ok.2 ⟨by have := P2000_big2; omega, he, he1⟩
theorem dnum_lit {w : World} {g : Nat} (ng : Bool) {m e : Int} (h0 : 0 < m) (h1 : m % 2 = 1) (h2 : m < 1073741824) (he : -4194304 ≤ e) (hg : w.heap[g]? = some (.cells #[.int .i64 m] 3 (0, 0))) :
    DNum w (.agg #[.bool ng, .slice (some ⟨g, 0, none⟩) 1 1, .int .i64 e]) (sg ng m * pw e) := by
  refine ⟨ng, _, m, e, rfl, dy_lit ng h0 h1 he, _, 1, 1, fun _ => m, rfl, ?_, ⟨fun i _ => by show 0 ≤ m ∧ m < 1073741824; omega, .inr (by show m ≠ 0; omega)⟩, by show 0 + m * 1 = m; omega⟩
  exact ⟨Nat.le_refl _, by omega, fun h => by simp at h, fun _ => ⟨g, 0, rfl, (Array.getElem?_eq_some_iff.1 hg).1, fun i hi => by
    obtain rfl : i = 0 := by omega
    exact blkC hg 0 rfl⟩⟩
theorem pw_step {e k : Int} {l : Nat} (h : -4194304 ≤ e) (hk : k = e + l) : pw k = pw e * 2 ^ l := by rw [hk, pw_add h]
theorem pw_0 : pw 0 = pw (-1) * 2 := (pw_step (e := -1) (l := 1) (by omega) (by omega)).trans (by rw [Int.pow_succ, Int.pow_zero, Int.one_mul])
theorem live_x : mkV true 6 (-1) = sg true 3 * pw 0 := by
  unfold mkV
  rw [if_neg (by decide), if_neg (by decide), pw_0]
  generalize pw (-1) = p
  show -6 * p = -3 * (p * 2)
  omega
theorem live_y : pok 4609434218613702656 = true ∧ sg (pneg 4609434218613702656) (pmag 4609434218613702656) * pw (pexp 4609434218613702656) = sg false 3 * pw (-1) := by
  refine ⟨by decide, ?_⟩
  rw [show pneg 4609434218613702656 = false by decide, show pmag 4609434218613702656 = 6755399441055744 by decide, show pexp 4609434218613702656 = -52 by decide, pw_step (e := -52) (k := -1) (l := 51) (by omega) (by omega)]
  generalize pw (-52) = p
  show 6755399441055744 * p = 3 * (p * 2 ^ 51)
  rw [show (2 : Int) ^ 51 = 2251799813685248 by decide]
  omega
theorem live_s : sg true 3 * pw 0 + sg false 3 * pw (-1) = sg true 3 * pw (-1) := by
  rw [pw_0]
  generalize pw (-1) = p
  show -3 * (p * 2) + 3 * p = -3 * p
  omega
end Go.Proofs.YtoehjolmniddlaaDoor

/-
  The document's own answers (plumbref2): Shl, Shr, by contracts over the same values.
-/
namespace Go.Proofs.YtoehjolmniddlaaDoor
open Go Go.RowKit Go.Proofs.YtoehjolmniddlaaDoor.M
set_option linter.unusedSimpArgs false
set_option linter.unusedVariables false

end Go.Proofs.YtoehjolmniddlaaDoor

/-
  plumblaw2's Keep: lists of answers that are kept, in memory: what it is (Kp), Add, by its contract.
-/
namespace Go.Proofs.YtoehjolmniddlaaDoor
open Go Go.RowKit Go.Proofs.YtoehjolmniddlaaDoor.M
set_option linter.unusedSimpArgs false
set_option linter.unusedVariables false

/-- One put in another's place. -/
def updV {α : Type} (v : Nat → α) (i : Nat) (x : α) : Nat → α := fun j => if j = i then x else v j
theorem updV_same {α : Type} (v : Nat → α) (i : Nat) (x : α) : updV v i x i = x := by simp [updV]
theorem updV_other {α : Type} (v : Nat → α) {i j : Nat} (x : α) (h : j ≠ i) : updV v i x j = v j := by simp [updV, h]
/-- The first m of v. -/
def valsV (v : Nat → Value) (m : Nat) : List Value := (List.range m).map v
theorem valsV_length (v : Nat → Value) (m : Nat) : (valsV v m).length = m := by simp [valsV]
theorem valsV_get (v : Nat → Value) {m i : Nat} (h : i < m) : (valsV v m)[i]? = some (v i) := by simp [valsV, h]
theorem valsV_snoc (v : Nat → Value) (m : Nat) (x : Value) : valsV v m ++ [x] = valsV (updV v m x) (m + 1) := by
  apply List.ext_getElem?
  intro i
  by_cases h : i < m
  · rw [List.getElem?_append_left (by rw [valsV_length]; exact h), valsV_get v h, valsV_get _ (by omega), updV_other v x (by omega)]
  · by_cases e : i = m
    · subst e; rw [List.getElem?_append_right (by rw [valsV_length]; omega), valsV_length, valsV_get _ (by omega), updV_same]; simp
    · rw [List.getElem?_eq_none (by simp [valsV_length]; omega), List.getElem?_eq_none (by rw [valsV_length]; omega)]
/-- A list of slices that is the call's own. -/
def OutV (B : Nat) (w : World) (x : Value) (m : Nat) (v : Nat → Value) : Prop := w.ownsRow B 24 1 x m (valsV v m)
theorem OutV.shape {B : Nat} {w : World} {x : Value} {m : Nat} {v : Nat → Value} (h : OutV B w x m v) : ∃ xo xc, x = .slice xo m xc ∧ m ≤ xc ∧ xc ≤ 9223372036854775807 ∧ (0 < m → ∃ g, xo = some ⟨g, 0, none⟩) := by
  rcases h.2 with ⟨rfl, rfl⟩ | ⟨g, cap, cur, rfl, hb, hg, hn, hm, _⟩
  · exact ⟨none, 0, rfl, Nat.le_refl _, by decide, fun h => by omega⟩
  · exact ⟨_, cap, rfl, hn, by unfold maxLen at hm; exact hm, fun _ => ⟨g, rfl⟩⟩
theorem OutV.of_block {B : Nat} {w w' : World} {x : Value} {m : Nat} {v : Nat → Value} (h : OutV B w x m v) (hb : ∀ g, x.ownBlock = some g → w'.heap[g]? = w.heap[g]?) : OutV B w' x m v := by
  refine ⟨h.1, ?_⟩
  rcases h.2 with hn | ⟨g, cap, cur, rfl, hbb, hg, rest⟩
  · exact .inl hn
  · exact .inr ⟨g, cap, cur, rfl, hbb, (hb g rfl).trans hg, rest⟩
theorem Out.of_block {B : Nat} {w w' : World} {x : Value} {n : Nat} {d : Nat → Int} (h : Out B w x n d) (hb : ∀ g, x.ownBlock = some g → w'.heap[g]? = w.heap[g]?) : Out B w' x n d := by
  refine ⟨h.1, ?_⟩
  rcases h.2 with hn | ⟨g, cap, cur, rfl, hbb, hg, rest⟩
  · exact .inl hn
  · exact .inr ⟨g, cap, cur, rfl, hbb, (hb g rfl).trans hg, rest⟩
theorem Out.typed {B : Nat} {w : World} {x : Value} {n : Nat} {d : Nat → Int} (h : Out B w x n d) {g : Nat} (hg : x.ownBlock = some g) : ∃ cur z, w.heap[g]? = some (.cells cur 3 z) := by
  rcases h.2 with ⟨rfl, _⟩ | ⟨g', cap, cur, rfl, hbb, hg', rest⟩
  · simp [Value.ownBlock] at hg
  · simp only [Value.ownBlock, Option.some.injEq] at hg; subst hg; exact ⟨cur, _, hg'⟩
theorem OutV.typed {B : Nat} {w : World} {x : Value} {n : Nat} {v : Nat → Value} (h : OutV B w x n v) {g : Nat} (hg : x.ownBlock = some g) : ∃ cur z, w.heap[g]? = some (.cells cur 24 z) := by
  rcases h.2 with ⟨rfl, _⟩ | ⟨g', cap, cur, rfl, hbb, hg', rest⟩
  · simp [Value.ownBlock] at hg
  · simp only [Value.ownBlock, Option.some.injEq] at hg; subst hg; exact ⟨cur, _, hg'⟩
theorem OutV.ge {B : Nat} {w : World} {x : Value} {n : Nat} {v : Nat → Value} (h : OutV B w x n v) {g : Nat} (hg : x.ownBlock = some g) : B ≤ g ∧ g < w.heap.size := by
  rcases h.2 with ⟨rfl, _⟩ | ⟨g', cap, cur, rfl, hbb, hg', rest⟩
  · simp [Value.ownBlock] at hg
  · simp only [Value.ownBlock, Option.some.injEq] at hg; subst hg; exact ⟨hbb, (Array.getElem?_eq_some_iff.1 hg').1⟩
theorem Out.ge {B : Nat} {w : World} {x : Value} {n : Nat} {v : Nat → Int} (h : Out B w x n v) {g : Nat} (hg : x.ownBlock = some g) : B ≤ g ∧ g < w.heap.size := by
  rcases h.2 with ⟨rfl, _⟩ | ⟨g', cap, cur, rfl, hbb, hg', rest⟩
  · simp [Value.ownBlock] at hg
  · simp only [Value.ownBlock, Option.some.injEq] at hg; subst hg; exact ⟨hbb, (Array.getElem?_eq_some_iff.1 hg').1⟩
theorem info_slice : (Tryd.prog.info? 24).map (fun i => (i.zero, i.size, i.bytes)) = some (some (.slice none 0 0), 1, 24) := by kernel_rfl
theorem cell_one (w : World) (x : Value) (t : TypeId) {g : Nat} (hg : g = w.heap.size) : (w.alloc (.cells #[x] t)).cell? ⟨g, 0, none⟩ = some x := by
  subst hg
  rw [cell_of_row _ _ 0 _ _ _ (heap_alloc_new w _)]; rfl
theorem grown_out {B : Nat} {w w' : World} {row : Option Nat} {x : Value} {m : Nat} {v : Nat → Value} (h : OutV B w x m v) (hg : w.grownBy w' row) (hne : ∀ g, x.ownBlock = some g → row ≠ some g) : OutV B w' x m v :=
  h.of_block fun g hgx => hg.block g (h.ge hgx).2 fun e => hne g hgx e.symm
theorem OutV.alloc {B : Nat} {w : World} {x : Value} {m : Nat} {v : Nat → Value} (h : OutV B w x m v) (o : Obj) : OutV B (w.alloc o) x m v := h.of_block fun g hg => Below.heap_alloc _ _ _ (h.ge hg).2
/-- 'append' of ints, as it runs, and where the new slice lies. -/
theorem run_app {w : World} (ty : TypeId) (B : Nat) (v : Value) (n : Nat) (d : Nat → Int) (hO : Out B w v n d) (bo : Option Addr) (m cb : Nat) (e : Nat → Int) (hR : Row w bo m cb e) (hlen : n + m ≤ 1000000) (hB : B ≤ w.heap.size) :
    ∃ v' w', (Builtin.append_ #[24, 24] ty #[v, .slice bo m cb]).run Tryd.prog w = .ok v' w' ∧ Out B w' v' (n + m) (cat d n e) ∧ w.grownBy w' v.ownBlock ∧ (v'.ownBlock = v.ownBlock ∨ v'.ownBlock = some w.heap.size) := by
  obtain ⟨i0, hi, hz0, hz1, hz2⟩ := info_parts info_int
  cases bo with
  | none =>
    have hc := hR.nl rfl
    have hl := hR.le
    subst hc
    obtain rfl : m = 0 := by omega
    have hr := run_append_owned_none (P := Tryd.prog) w B 24 ty 3 i0 1 Tryd.underlying24 hi v n (vals d n) hO
    exact ⟨v, w, hr, hO.congr fun i hi => by simp [cat]; omega, ⟨rfl, rfl, rfl, Nat.le_refl _, fun _ _ _ => rfl⟩, .inl rfl⟩
  | some ad =>
    obtain ⟨v', w', hr, h2, h3, _, h5⟩ := run_append_own_at (P := Tryd.prog) w B 24 ty 3 i0 (.int .i64 0) 1 8 Tryd.underlying24 hi hz0 hz1 hz2 rfl (by decide) v n (vals d n) hO ad m cb (vals e m) (by rw [vals_length]; omega)
      (fun j u hu => by
        have hj : j < m := by have := (List.getElem?_eq_some_iff.1 hu).1; rwa [vals_length] at this
        obtain ⟨b, off, hb, _, hc⟩ := hR.spot (by omega)
        obtain rfl := Option.some.inj hb
        rw [vals_get e hj] at hu
        rw [add_none, hc j hj]; exact hu) (vals_one e m) (by unfold maxLen; omega) (by omega) hB
    rw [vals_cat] at h2
    exact ⟨v', w', hr, h2, h3, h5⟩
theorem wp_app {w : World} {o : Oper} {a : Act} {K : Act → World → Prop} {Q : Exit → Act → World → Prop} (s x : Operand) (ho : o.op = .call { callee := .builtin .append, args := #[s, x], argTypes := #[24, 24] })
    (B : Nat) (v : Value) (n : Nat) (d : Nat → Int) (hs : a.eval s = v) (hO : Out B w v n d) (bo : Option Addr) (m cb : Nat) (e : Nat → Int) (hx : a.eval x = .slice bo m cb) (hR : Row w bo m cb e) (hlen : n + m ≤ 1000000) (hB : B ≤ w.heap.size)
    (h : ∀ v' w', Out B w' v' (n + m) (cat d n e) → w.grownBy w' v.ownBlock → (v'.ownBlock = v.ownBlock ∨ v'.ownBlock = some w.heap.size) → K (a.put o.dst v') w') : o.wp Tryd.prog a w K Q := by
  obtain ⟨v', w', hr, h2, h3, h4⟩ := run_app o.type B v n d hO bo m cb e hR hlen hB
  unfold Oper.wp execOp
  simp only [ho, resolve, invoke, builtin, Sem.run_bind, Sem.run_pure, Result.andThen_ok, List.map_toArray, List.map_cons, List.map_nil, hs, hx, hr]
  exact h v' w' h2 h3 h4
theorem step_app {w : World} {ops : Array Oper} {o : Oper} {a : Act} {K : Act → World → Prop} {Q : Exit → Act → World → Prop} {E : Prop} (hgd : o.guard = none) (s x : Operand) (ho : o.op = .call { callee := .builtin .append, args := #[s, x], argTypes := #[24, 24] })
    (B : Nat) (v : Value) (n : Nat) (d : Nat → Int) (hs : a.eval s = v) (hO : Out B w v n d) (bo : Option Addr) (m cb : Nat) (e : Nat → Int) (hx : a.eval x = .slice bo m cb) (hR : Row w bo m cb e) (hlen : n + m ≤ 1000000) (hB : B ≤ w.heap.size)
    (h : ∀ v' w', Out B w' v' (n + m) (cat d n e) → w.grownBy w' v.ownBlock → (v'.ownBlock = v.ownBlock ∨ v'.ownBlock = some w.heap.size) → K (a.put o.dst v') w') : if Region.wanted o (yielded ops a.tmps) = true then Oper.wp Tryd.prog o a w K Q else E := by
  rw [if_pos (show Region.wanted o (yielded ops a.tmps) = true by simp [Region.wanted, hgd])]
  exact wp_app s x ho B v n d hs hO bo m cb e hx hR hlen hB h
end Go.Proofs.YtoehjolmniddlaaDoor

/-
  What is kept, with the blocks it lies in (Kept); Keep.Add and answer of a number (An); Lent and Back.
-/
namespace Go.Proofs.YtoehjolmniddlaaDoor
open Go Go.RowKit Go.Proofs.YtoehjolmniddlaaDoor.M
set_option linter.unusedSimpArgs false
set_option linter.unusedVariables false

/-- A number's list, from B on. -/
def An (B : Nat) (w : World) (v : Value) (V : Int) : Prop := ∃ t d, Out B w v t d ∧ Nrm d t ∧ val d t = V
theorem An.keeps {B : Nat} {w w' : World} {v : Value} {V : Int} (h : An B w v V) (k : Below w.heap.size w w') : An B w' v V := by
  obtain ⟨t, d, h1, h2⟩ := h
  exact ⟨t, d, h1.stays k, h2⟩
theorem An.lower {B B' : Nat} {w : World} {v : Value} {V : Int} (h : An B w v V) (hB : B' ≤ B) : An B' w v V := by
  obtain ⟨t, d, h1, h2⟩ := h
  exact ⟨t, d, h1.lower hB, h2⟩
theorem An.nil (B : Nat) (w : World) : An B w (.slice none 0 0) 0 := ⟨0, fun _ => 0, Out.nil _ _ _, ⟨fun i hi => by omega, .inl rfl⟩, rfl⟩
theorem Ans.an {w w' : World} {V : Int} {v : Value} (h : Ans w w' V v) : An w.heap.size w' v V := by
  obtain ⟨t, d, h1, h2, h3, h4⟩ := h
  exact ⟨t, d, h1, h2, h3⟩
theorem An.shape {B : Nat} {w : World} {v : Value} {V : Int} (h : An B w v V) : ∃ ao n cap, v = .slice ao n cap := by
  obtain ⟨t, d, h1, h2⟩ := h
  obtain ⟨ao, cap, e, _⟩ := h1.row
  exact ⟨ao, t, cap, e⟩
theorem An.num {B : Nat} {w : World} {v : Value} {V : Int} (h : An B w v V) : Num w v V := by
  obtain ⟨t, d, h1, h2, h3⟩ := h
  obtain ⟨ao, cap, rfl, hR⟩ := h1.row
  exact ⟨ao, t, cap, d, rfl, hR, h2, h3⟩
theorem An.ge {B : Nat} {w : World} {v : Value} {V : Int} (h : An B w v V) {g : Nat} (hg : v.ownBlock = some g) : B ≤ g ∧ g < w.heap.size := by
  obtain ⟨t, d, h1, h2, h3⟩ := h
  exact h1.ge hg
/-- The blocks behind an Add. -/
def S2 (S : Nat → Prop) (l : Value) (s : Nat) : Nat → Prop := fun g => S g ∨ l.ownBlock = some g ∨ s ≤ g
/-- A list and an error, of a number that may be too long. -/
def FitA (B : Nat) (w : World) (V : Int) (v : Value) (er : Int) : Prop := (V < P 2000 ∧ er = 0 ∧ An B w v V) ∨ (P 2000 ≤ V ∧ er = 2 ∧ v = .slice none 0 0)
theorem Fit.fitA {w w' : World} {V er : Int} {v : Value} (h : Fit w w' V v er) : FitA w.heap.size w' V v er := by
  rcases h.2 with ⟨h1, h2, h3⟩ | h
  · exact .inl ⟨h1, h2, h3.an⟩
  · exact .inr h
theorem FitA.keeps {B : Nat} {w w' : World} {v : Value} {V er : Int} (h : FitA B w V v er) (k : Below w.heap.size w w') : FitA B w' V v er := by
  rcases h with ⟨h1, h2, h3⟩ | h
  · exact .inl ⟨h1, h2, h3.keeps k⟩
  · exact .inr h
theorem FitA.lower {B B' : Nat} {w : World} {v : Value} {V er : Int} (h : FitA B w V v er) (hB : B' ≤ B) : FitA B' w V v er := by
  rcases h with ⟨h1, h2, h3⟩ | h
  · exact .inl ⟨h1, h2, h3.lower hB⟩
  · exact .inr h
theorem FitA.ge {B : Nat} {w : World} {v : Value} {V er : Int} (h : FitA B w V v er) {g : Nat} (hg : v.ownBlock = some g) : B ≤ g ∧ g < w.heap.size := by
  rcases h with ⟨h1, h2, h3⟩ | ⟨_, _, rfl⟩
  · exact h3.ge hg
  · simp [Value.ownBlock] at hg
theorem FitA.shape {B : Nat} {w : World} {v : Value} {V er : Int} (h : FitA B w V v er) : ∃ ao n cap, v = .slice ao n cap := by
  rcases h with ⟨h1, h2, h3⟩ | ⟨_, _, rfl⟩
  · exact h3.shape
  · exact ⟨_, _, _, rfl⟩
/-- A lent list: three marks behind it. -/
def lentD (a : Nat → Int) (n : Nat) : Nat → Int := cat a n (fun i => -71 - (i : Int))
theorem row3 (w : World) (x y z : Int) (f : Nat → Int) (h0 : f 0 = x) (h1 : f 1 = y) (h2 : f 2 = z) {g : Nat} (hg : g = w.heap.size) : Row (w.alloc (.cells #[.int .i64 x, .int .i64 y, .int .i64 z] 3)) (some ⟨g, 0, none⟩) 3 3 f := by
  subst hg
  refine (Blk.new w #[.int .i64 x, .int .i64 y, .int .i64 z] f (fun i hi => ?_)).row0 (Nat.le_refl _) (show 3 ≤ 9223372036854775807 by decide)
  match i, hi with
  | 0, _ => rw [h0]; rfl
  | 1, _ => rw [h1]; rfl
  | 2, _ => rw [h2]; rfl
theorem lentD_lt (a : Nat → Int) {n i : Nat} (h : i < n) : lentD a n i = a i := by simp [lentD, cat, h]
theorem lentD_marks (a : Nat → Int) (n : Nat) : lentD a n n = -71 ∧ lentD a n (n + 1) = -72 ∧ lentD a n (n + 2) = -73 := by
  refine ⟨by simp [lentD, cat], by simp [lentD, cat]; omega, by simp [lentD, cat]; omega⟩
/-- What Lent answers: a block of its own. -/
def LentA (w w' : World) (v : Value) (n : Nat) (a : Nat → Int) : Prop := ∃ g cap, v = .slice (some ⟨g, 0, none⟩) (n + 3) cap ∧ Out w.heap.size w' v (n + 3) (lentD a n) ∧ Below w.heap.size w w'
end Go.Proofs.YtoehjolmniddlaaDoor

/-
  Lent lists: what is read of them, and Back.
-/
namespace Go.Proofs.YtoehjolmniddlaaDoor
open Go Go.RowKit Go.Proofs.YtoehjolmniddlaaDoor.M
set_option linter.unusedSimpArgs false
set_option linter.unusedVariables false

theorem LentA.below {w w' : World} {v : Value} {n : Nat} {a : Nat → Int} (h : LentA w w' v n a) : Below w.heap.size w w' := by
  obtain ⟨g, cap, _, _, hb⟩ := h
  exact hb
theorem LentA.parts {w w' : World} {v : Value} {n : Nat} {a : Nat → Int} (h : LentA w w' v n a) : ∃ g cap, v = .slice (some ⟨g, 0, none⟩) (n + 3) cap ∧ Out w.heap.size w' (.slice (some ⟨g, 0, none⟩) (n + 3) cap) (n + 3) (lentD a n) := by
  obtain ⟨g, cap, rfl, h, _⟩ := h
  exact ⟨g, cap, rfl, h⟩
theorem lent_cap {B : Nat} {w : World} {g n cap : Nat} {d : Nat → Int} (h : Out B w (.slice (some ⟨g, 0, none⟩) (n + 3) cap) (n + 3) d) : n + 3 ≤ cap ∧ cap ≤ 9223372036854775807 := by
  obtain ⟨_, _, e, hR⟩ := h.row
  simp only [Value.slice.injEq] at e
  obtain ⟨rfl, _, rfl⟩ := e
  exact ⟨hR.le, hR.max⟩
theorem lent_row {B : Nat} {w : World} {g n cap : Nat} {a : Nat → Int} (h : Out B w (.slice (some ⟨g, 0, none⟩) (n + 3) cap) (n + 3) (lentD a n)) : Row w (some ⟨g, 0, none⟩) n cap a := by
  obtain ⟨_, _, e, hR⟩ := (h.cut (show n ≤ n + 3 by omega)).row
  simp only [Value.slice.injEq] at e
  obtain ⟨rfl, _, rfl⟩ := e
  exact hR.congr fun i hi => lentD_lt a hi
theorem lent_two {B B' : Nat} {w : World} {g n cap g' m cap' : Nat} {a b : Nat → Int} (h : Out B w (.slice (some ⟨g, 0, none⟩) (n + 3) cap) (n + 3) (lentD a n)) (h' : Out B' w (.slice (some ⟨g', 0, none⟩) (m + 3) cap') (m + 3) (lentD b m)) :
    Two w (some ⟨g, 0, none⟩) (some ⟨g', 0, none⟩) n m cap cap' a b := ⟨lent_row h, lent_row h'⟩
theorem lent_numA {B : Nat} {w : World} {g n cap : Nat} {a : Nat → Int} (h : Out B w (.slice (some ⟨g, 0, none⟩) (n + 3) cap) (n + 3) (lentD a n)) (hN : Nrm a n) : Num w (.slice (some ⟨g, 0, none⟩) n cap) (val a n) :=
  ⟨_, _, _, _, rfl, lent_row h, hN, rfl⟩
theorem Row.num0 {w : World} {ao : Option Addr} {n cap : Nat} {a : Nat → Int} (h : Row w ao n cap a) (hN : Nrm a n) : Num w (.slice ao n cap) (val a n) := ⟨_, _, _, _, rfl, h, hN, rfl⟩
theorem RowX.of0 {g : Nat} {w0 w : World} {ao : Option Addr} {n cap : Nat} {d : Nat → Int} (h : Row w0 ao n cap d) (hb : Below w0.heap.size w0 w) (hg : w0.heap.size ≤ g) : RowX g w ao n cap d :=
  ⟨h.le, h.max, fun hn => by
    obtain ⟨b, off, rfl, hlt, hc⟩ := h.spot hn
    exact ⟨b, off, rfl, Nat.lt_of_lt_of_le hlt hb.size, by omega, fun i hi => (hb.cell (p := ⟨b, off + i, none⟩) hlt).trans (hc i hi)⟩⟩
end Go.Proofs.YtoehjolmniddlaaDoor
