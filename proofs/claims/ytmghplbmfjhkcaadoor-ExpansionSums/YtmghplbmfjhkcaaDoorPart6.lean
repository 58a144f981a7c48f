/-
  Parts of the proof, one behind another.
-/
import Derived.Test.YtmghplbmfjhkcaaDoorPart5
import Derived.Deep.RegionHeld3
import Derived.Test.YtmghplbmfjhkcaaDoorPart3
import Derived.Deep.AppendLies
import Derived.Deep.RegionLaw
import Derived.Test.YtmghplbmfjhkcaaDoorPart4
import Derived.Test.YtmghplbmfjhkcaaDoorRows
import Derived.Test.YtmghplbmfjhkcaaDoorPart2
import Derived.ProofKit
import Derived.OpenShut
import Derived.ChangeOld
import Derived.LaidMore
import Derived.Deep.Strs
import Derived.Lib.LaidTab
import Derived.MakeChecks
import Derived.Stop.LaidErr
/-
  Package dyadic: compare, Cmp, by contracts.
-/
namespace Go.Proofs.YtmghplbmfjhkcaaDoor
open Go Go.RowKit Go.Proofs.YtmghplbmfjhkcaaDoor.M
set_option linter.unusedSimpArgs false
set_option linter.unusedVariables false

theorem ord_scale {a b p : Int} (hp : 0 < p) : ord (a * p) (b * p) = ord a b := by
  rcases Int.lt_trichotomy a b with h | h | h
  · rw [ord_lt h, ord_lt (Int.mul_lt_mul_of_pos_right h hp)]
  · rw [ord_eq h, ord_eq (by rw [h])]
  · rw [ord_gt h, ord_gt (Int.mul_lt_mul_of_pos_right h hp)]
theorem dcompare_num {w : World} {x y : Value} {A B : Int} (hx : Num w x A) (hy : Num w y B) :
    Calls Tryd.prog 79 #[x, y] w fun e w' => e = .returned (.int .i64 (ord A B)) ∧ Below w.heap.size w w' := by
  obtain ⟨ao, n, ca, a, rfl, hR, hN, rfl⟩ := hx
  obtain ⟨bo, m, cb, b, rfl, hR', hN', rfl⟩ := hy
  exact compare_any _ _ _ _ _ _ _ _ _ hR hR' hN hN'
/-- What reaches higher is greater. -/
theorem top_lt {a b e f : Int} (ha : 0 < a) (hb : 0 < b) (he : -4194304 ≤ e) (hf : -4194304 ≤ f) (h : e + blen a < f + blen b) : a * pw e < b * pw f := by
  have h1 := blen_lt a
  have h2 := (blen_pos hb)
  have hpe := pw_pos e
  have hpf := pw_pos f
  have c1 : a * pw e < 2 ^ blen a * pw e := Int.mul_lt_mul_of_pos_right h1 hpe
  have c2 : 2 ^ (blen b - 1) * pw f ≤ b * pw f := Int.mul_le_mul_of_nonneg_right h2.2 (Int.le_of_lt hpf)
  have c3 : 2 ^ blen a * pw e ≤ 2 ^ (blen b - 1) * pw f := by
    unfold pw
    rw [← Int.pow_add, ← Int.pow_add]
    exact two_le (by have := h2.1; omega)
  omega
theorem ord_tops {a b e f : Int} (ha : 0 < a) (hb : 0 < b) (he : -4194304 ≤ e) (hf : -4194304 ≤ f) (h : e + blen a ≠ f + blen b) : ord (e + blen a) (f + blen b) = ord (a * pw e) (b * pw f) := by
  rcases Int.lt_or_gt_of_ne h with h1 | h1
  · rw [ord_lt h1, ord_lt (top_lt ha hb he hf h1)]
  · rw [ord_gt h1, ord_gt (top_lt hb ha hf he h1)]
theorem ord_low {a b e f low : Int} (hl : -4194304 ≤ low) (he : low ≤ e) (hf : low ≤ f) : ord (a * 2 ^ (e - low).toNat) (b * 2 ^ (f - low).toNat) = ord (a * pw e) (b * pw f) := by
  rw [pw_sub hl he, pw_sub hl hf, ← Int.mul_assoc, ← Int.mul_assoc, ord_scale (pw_pos _)]
/-- Two numbers' own blocks, behind a call. -/
theorem keep66 {W w' : World} {g h : Nat} {a b c d e f : Value} (hb : Below W.heap.size W w') (hS : (W.cell? ⟨g, 0, none⟩ = some a ∧ W.cell? ⟨g, 1, none⟩ = some b ∧ W.cell? ⟨g, 2, none⟩ = some c) ∧ W.cell? ⟨h, 0, none⟩ = some d ∧ W.cell? ⟨h, 1, none⟩ = some e ∧ W.cell? ⟨h, 2, none⟩ = some f) :
    (w'.cell? ⟨g, 0, none⟩ = some a ∧ w'.cell? ⟨g, 1, none⟩ = some b ∧ w'.cell? ⟨g, 2, none⟩ = some c) ∧ w'.cell? ⟨h, 0, none⟩ = some d ∧ w'.cell? ⟨h, 1, none⟩ = some e ∧ w'.cell? ⟨h, 2, none⟩ = some f :=
  ⟨keepB hS.1 hb, keepB hS.2 hb⟩
set_option maxRecDepth 100000 in
set_option maxHeartbeats 2000000 in
theorem dsizes_any (x y : NumR) (w : World) (hx : Row w x.ao x.n x.cap x.d) (hy : Row w y.ao y.n y.cap y.d) (sx : Sane x) (sy : Sane y) (hz : (0 < x.n ∧ 0 < y.n) ∨ (x.n = 0 ∧ y.n = 0 ∧ x.e = y.e)) :
    Calls Tryd.prog 67 #[x.v, y.v] w fun r w' => r = .returned (.int .i64 (ord (val x.d x.n * pw x.e) (val y.d y.n * pw y.e))) ∧ Below w.heap.size w w' := by
  have hX := fun W hb => dtop_any x.ng x.ao x.n x.cap x.d x.e W (hx.keeps hb) sx.1 (by have := sx.2.1; omega) (by have := sx.2.2.1; omega) (by have := sx.2.2.2; omega)
  have hY := fun W hb => dtop_any y.ng y.ao y.n y.cap y.d y.e W (hy.keeps hb) sy.1 (by have := sy.2.1; omega) (by have := sy.2.2.1; omega) (by have := sy.2.2.2; omega)
  have lx := sx.len
  have ly := sy.len
  have hpp : x.e + blen (val x.d x.n) ≠ y.e + blen (val y.d y.n) → 0 < val x.d x.n ∧ 0 < val y.d y.n := fun hne => by
    rcases hz with ⟨h0, h1⟩ | ⟨h0, h1, h2⟩
    · exact ⟨val_pos sx.1 h0, val_pos sy.1 h1⟩
    · exact absurd (by rw [h0, h1, h2]; rfl) hne
  clear hz
  obtain ⟨an, ao, n, ca, a, e⟩ := x
  obtain ⟨bn, bo, m, cb, b, f⟩ := y
  obtain ⟨s1, s2, s3, s4⟩ := sx
  obtain ⟨t1, t2, t3, t4⟩ := sy
  unfold NumR.v
  simp only at *
  have hmin : ∀ (ts : Array TypeId) (t : TypeId) (x y : Int) (w : World), (Builtin.min_ ts t #[.int .i64 x, .int .i64 y]).run Tryd.prog w = .ok (.int .i64 (min x y)) w := fun ts t x y w => by rw [run_min_int2]; congr 2; omega
  have hb3 := bel_alloc2 w (.cells #[.bool an, .slice ao n ca, .int .i64 e] 27) (.cells #[.bool bn, .slice bo m cb, .int .i64 f] 27)
  have g0 := heap_a2 w (.cells #[.bool an, .slice ao n ca, .int .i64 e] 27) (.cells #[.bool bn, .slice bo m cb, .int .i64 f] 27)
  have g1 := heap_b2 w (.cells #[.bool an, .slice ao n ca, .int .i64 e] 27) (.cells #[.bool bn, .slice bo m cb, .int .i64 f] 27)
  go_enter Tryd.func67, Tryd.ntmps67
  go_wp2_with fail
  generalize (w.alloc (.cells #[.bool an, .slice ao n ca, .int .i64 e] 27)).alloc (.cells #[.bool bn, .slice bo m cb, .int .i64 f] 27) = wx at hb3 g0 g1 ⊢
  have k0 := blkC g0 0 rfl
  have k1 := blkC g0 1 rfl
  have k2 := blkC g0 2 rfl
  have j0 := blkC g1 0 rfl
  have j1 := blkC g1 1 rfl
  have j2 := blkC g1 2 rfl
  have hb1 := bel_refl wx
  have CA : ∀ W, Below wx.heap.size wx W → Calls Tryd.prog 60 #[.agg #[.bool an, .slice ao n ca, .int .i64 e]] W fun r w' => r = .returned (.int .i64 (e + blen (val a n))) ∧ Below W.heap.size W w' := fun W h => hX W (bel_trans hb3 h)
  have CB : ∀ W, Below wx.heap.size wx W → Calls Tryd.prog 60 #[.agg #[.bool bn, .slice bo m cb, .int .i64 f]] W fun r w' => r = .returned (.int .i64 (f + blen (val b m))) ∧ Below W.heap.size W w' := fun W h => hY W (bel_trans hb3 h)
  clear hX hY
  go_region_held3 (fun W => (W.cell? ⟨w.heap.size, 0, none⟩ = some (.bool an) ∧ W.cell? ⟨w.heap.size, 1, none⟩ = some (.slice ao n ca) ∧ W.cell? ⟨w.heap.size, 2, none⟩ = some (.int .i64 e)) ∧ W.cell? ⟨w.heap.size + 1, 0, none⟩ = some (.bool bn) ∧ W.cell? ⟨w.heap.size + 1, 1, none⟩ = some (.slice bo m cb) ∧ W.cell? ⟨w.heap.size + 1, 2, none⟩ = some (.int .i64 f))
    (first | assumption | exact ⟨⟨k0, k1, k2⟩, j0, j1, j2⟩ | exact keep66 hbv2 (keep66 (W := wx.drew) hbv1 ⟨⟨k0, k1, k2⟩, j0, j1, j2⟩) | exact keep66 (W := wx.drew) hbv1 ⟨⟨k0, k1, k2⟩, j0, j1, j2⟩)
    (first | (go_at_call 60; have _t := hbv1; refine (CB _ (bel_trans hb1.drew hbv1)).mono ?_; rintro r w4 ⟨rfl, hbv2⟩) | (go_at_call 60; refine (CA _ hb1.drew).mono ?_; rintro r w3 ⟨rfl, hbv1⟩))
  have hS4 := keep66 hbv2 (keep66 (W := wx.drew) hbv1 ⟨⟨k0, k1, k2⟩, j0, j1, j2⟩)
  have hx4 : Below wx.heap.size wx w4 := bel_trans (bel_trans hb1.drew hbv1) hbv2
  clear k0 k1 k2 j0 j1 j2 g0 g1
  obtain ⟨⟨k0, k1, k2⟩, j0, j1, j2⟩ := hS4
  by_cases heq : e + blen (val a n) = f + blen (val b m)
  · have hne : (e + (blen (val a n) : Int) != f + blen (val b m)) = false := by simp [heq]
    have HEQ : Hid (e + blen (val a n) = f + blen (val b m)) := heq
    clear heq
    go_wp2_with fail
    have l1 : min e f ≤ e := Int.min_le_left _ _
    have l2 : min e f ≤ f := Int.min_le_right _ _
    have l3 : e - min e f ≤ 150000 ∧ f - min e f ≤ 150000 ∧ -1100000 ≤ min e f := by have := HEQ.out; omega
    generalize min e f = low at l1 l2 l3 ⊢
    have HO0 := ord_low (a := val a n) (b := val b m) (by omega) l1 l2
    obtain ⟨ka, hka⟩ : ∃ ka : Nat, e - low = ka := ⟨(e - low).toNat, by omega⟩
    obtain ⟨kb, hkb⟩ : ∃ kb : Nat, f - low = kb := ⟨(f - low).toNat, by omega⟩
    have hwa : IntKind.i64.wrap (e - low) = (ka : Int) := by rw [wrap_i64_eq]; omega
    have hwb : IntKind.i64.wrap (f - low) = (kb : Int) := by rw [wrap_i64_eq]; omega
    rw [show (e - low).toNat = ka by omega, show (f - low).toNat = kb by omega] at HO0
    have hka0 : ka ≤ 1000000 := by omega
    have hkb0 : kb ≤ 1000000 := by omega
    clear hka hkb
    have hb4 := bel_refl w4
    have RA : ∀ W, Below w4.heap.size w4 W → Calls Tryd.prog 80 #[.slice ao n ca, .int .i64 (ka : Int)] W fun r w' => ∃ so sn sc, r = .returned (.slice so sn sc) ∧ Ans W w' (val a n * 2 ^ ka) (.slice so sn sc) ∧ Below W.heap.size W w' := fun W h => by
      refine (raise_any ao n ca ka a W (hx.keeps (bel_trans hb3 (bel_trans hx4 h))) s1.1 (by omega) (by omega)).mono ?_
      rintro r w' ⟨v, rfl, hA⟩
      obtain ⟨so, sn, sc, rfl⟩ := hA.num.shape
      exact ⟨so, sn, sc, rfl, hA, hA.below⟩
    have RB : ∀ W, Below w4.heap.size w4 W → Calls Tryd.prog 80 #[.slice bo m cb, .int .i64 (kb : Int)] W fun r w' => ∃ so sn sc, r = .returned (.slice so sn sc) ∧ Ans W w' (val b m * 2 ^ kb) (.slice so sn sc) ∧ Below W.heap.size W w' := fun W h => by
      refine (raise_any bo m cb kb b W (hy.keeps (bel_trans hb3 (bel_trans hx4 h))) t1.1 (by omega) (by omega)).mono ?_
      rintro r w' ⟨v, rfl, hA⟩
      obtain ⟨so, sn, sc, rfl⟩ := hA.num.shape
      exact ⟨so, sn, sc, rfl, hA, hA.below⟩
    have HO : Hid (ord (val a n * 2 ^ ka) (val b m * 2 ^ kb) = ord (val a n * pw e) (val b m * pw f)) := HO0
    have HF : Hid (Below w.heap.size w w4) := bel_trans hb3 hx4
    clear CA CB hbv1 hbv2 hx4 hb1 hb3 hx hy hpp lx ly l1 l2 l3 HEQ HO0
    go_region_held3 (fun W => (W.cell? ⟨w.heap.size, 0, none⟩ = some (.bool an) ∧ W.cell? ⟨w.heap.size, 1, none⟩ = some (.slice ao n ca) ∧ W.cell? ⟨w.heap.size, 2, none⟩ = some (.int .i64 e)) ∧ W.cell? ⟨w.heap.size + 1, 0, none⟩ = some (.bool bn) ∧ W.cell? ⟨w.heap.size + 1, 1, none⟩ = some (.slice bo m cb) ∧ W.cell? ⟨w.heap.size + 1, 2, none⟩ = some (.int .i64 f))
      (first | assumption | exact ⟨⟨k0, k1, k2⟩, j0, j1, j2⟩ | exact keep66 hbv5 (keep66 hbv4 (keep66 (W := w4.drew) hbv3 ⟨⟨k0, k1, k2⟩, j0, j1, j2⟩)) | exact keep66 hbv4 (keep66 (W := w4.drew) hbv3 ⟨⟨k0, k1, k2⟩, j0, j1, j2⟩) | exact keep66 (W := w4.drew) hbv3 ⟨⟨k0, k1, k2⟩, j0, j1, j2⟩)
      (first | (go_at_call 79; refine (dcompare_num (hv3.num.keeps hbv4) hv4.num).mono ?_; rintro r w7 ⟨rfl, hbv5⟩) | (go_at_call 80; have _t := hbv3; refine (RB _ (bel_trans hb4.drew hbv3)).mono ?_; rintro r w6 ⟨so4, sn4, sc4, rfl, hv4, hbv4⟩) | (go_at_call 80; refine (RA _ hb4.drew).mono ?_; rintro r w5 ⟨so3, sn3, sc3, rfl, hv3, hbv3⟩))
    go_wp2
    go_ret
    exact ⟨ret_int HO.out, bel_trans (bel_trans (bel_trans HF.out (bel_trans hb4.drew hbv3)) hbv4) hbv5⟩
  · have hne : (e + (blen (val a n) : Int) != f + blen (val b m)) = true := by simp [heq]
    have HO : Hid (ord (e + blen (val a n)) (f + blen (val b m)) = ord (val a n * pw e) (val b m * pw f)) := ord_tops (hpp heq).1 (hpp heq).2 (by omega) (by omega) heq
    have HF : Hid (Below w.heap.size w w4) := bel_trans hb3 hx4
    have CA4 : ∀ W, Below w4.heap.size w4 W → _ := fun W h => CA W (bel_trans hx4 h)
    have CB4 : ∀ W, Below w4.heap.size w4 W → _ := fun W h => CB W (bel_trans hx4 h)
    have hb4 := bel_refl w4
    clear CA CB hbv1 hbv2 hx4 hb1 hb3 hx hy hpp lx ly heq
    go_wp2_with fail
    go_region_held3 (fun W => (W.cell? ⟨w.heap.size, 0, none⟩ = some (.bool an) ∧ W.cell? ⟨w.heap.size, 1, none⟩ = some (.slice ao n ca) ∧ W.cell? ⟨w.heap.size, 2, none⟩ = some (.int .i64 e)) ∧ W.cell? ⟨w.heap.size + 1, 0, none⟩ = some (.bool bn) ∧ W.cell? ⟨w.heap.size + 1, 1, none⟩ = some (.slice bo m cb) ∧ W.cell? ⟨w.heap.size + 1, 2, none⟩ = some (.int .i64 f))
      (first | assumption | exact ⟨⟨k0, k1, k2⟩, j0, j1, j2⟩ | exact keep66 hbv4 (keep66 (W := w4.drew) hbv3 ⟨⟨k0, k1, k2⟩, j0, j1, j2⟩) | exact keep66 (W := w4.drew) hbv3 ⟨⟨k0, k1, k2⟩, j0, j1, j2⟩)
      (first | (go_at_call 66; refine (cmpInt_any _ _ _).mono ?_; rintro r w7 ⟨rfl, rfl⟩) | (go_at_call 60; have _t := hbv3; refine (CB4 _ (bel_trans hb4.drew hbv3)).mono ?_; rintro r w6 ⟨rfl, hbv4⟩) | (go_at_call 60; refine (CA4 _ hb4.drew).mono ?_; rintro r w5 ⟨rfl, hbv3⟩))
    go_wp2
    go_ret
    exact ⟨ret_int HO.out, bel_trans (bel_trans HF.out (bel_trans hb4.drew hbv3)) hbv4⟩
theorem ord_three (a b : Int) : ord a b = 1 ∨ ord a b = 0 ∨ ord a b = -1 := by
  rcases Int.lt_trichotomy a b with h | h | h
  · exact .inr (.inr (ord_lt h))
  · exact .inr (.inl (ord_eq h))
  · exact .inl (ord_gt h)
theorem sgn_V {x : NumR} (sx : Sane x) : (sgn x.ng x.n = 0 ∧ x.V = 0 ∧ x.n = 0) ∨ (sgn x.ng x.n = 1 ∧ 0 < x.V ∧ 0 < x.n ∧ x.ng = false) ∨ (sgn x.ng x.n = -1 ∧ x.V < 0 ∧ 0 < x.n ∧ x.ng = true) := by
  by_cases h0 : x.n = 0
  · left
    refine ⟨by simp [sgn, h0], ?_, h0⟩
    show sg x.ng (val x.d x.n) * _ = 0
    rw [h0]
    show sg x.ng 0 * _ = 0
    rw [sg_zero, Int.zero_mul]
  · right
    have hp := Int.mul_pos (val_pos sx.1 (show 0 < x.n by omega)) (pw_pos x.e)
    have hV : x.V = sg x.ng (val x.d x.n) * pw x.e := rfl
    cases hg : x.ng
    · left
      rw [hg] at hV
      exact ⟨by simp [sgn, h0], by rw [hV]; exact hp, by omega, rfl⟩
    · right
      rw [hg] at hV
      refine ⟨by simp [sgn, h0], ?_, by omega, rfl⟩
      rw [hV]
      show -val x.d x.n * pw x.e < 0
      rw [Int.neg_mul]; omega
theorem ord_signs {x y : NumR} (sx : Sane x) (sy : Sane y) (h : sgn x.ng x.n ≠ sgn y.ng y.n) : ord (sgn x.ng x.n) (sgn y.ng y.n) = ord x.V y.V := by
  rcases sgn_V sx with ⟨a, b, _⟩ | ⟨a, b, _⟩ | ⟨a, b, _⟩ <;> rcases sgn_V sy with ⟨c, d, _⟩ | ⟨c, d, _⟩ | ⟨c, d, _⟩ <;> rw [a, c] at h ⊢ <;>
    first
      | exact absurd rfl h
      | (rw [ord_lt (by decide), ord_lt (by omega)])
      | (rw [ord_gt (by decide), ord_gt (by omega)])
theorem ord_neg (a b : Int) : ord (-a) (-b) = -ord a b := by
  rcases Int.lt_trichotomy a b with h | h | h
  · rw [ord_lt h, ord_gt (by omega)]; rfl
  · rw [ord_eq h, ord_eq (by omega)]; rfl
  · rw [ord_gt h, ord_lt (by omega)]
theorem ord_same {x y : NumR} (ox : okR x = true) (oy : okR y = true) (h : sgn x.ng x.n = sgn y.ng y.n) : ((0 < x.n ∧ 0 < y.n) ∨ (x.n = 0 ∧ y.n = 0 ∧ x.e = y.e)) ∧ sgn x.ng x.n * ord (val x.d x.n * pw x.e) (val y.d y.n * pw y.e) = ord x.V y.V := by
  have hV : x.V = sg x.ng (val x.d x.n) * pw x.e := rfl
  have hW : y.V = sg y.ng (val y.d y.n) * pw y.e := rfl
  rcases sgn_V (okR_sane ox) with ⟨a, b, c⟩ | ⟨a, b, c, d⟩ | ⟨a, b, c, d⟩ <;> rcases sgn_V (okR_sane oy) with ⟨a', b', c'⟩ | ⟨a', b', c', d'⟩ | ⟨a', b', c', d'⟩ <;> rw [a, a'] at h <;> first | (exfalso; omega) | skip
  · refine ⟨.inr ⟨c, c', ?_⟩, ?_⟩
    · rcases of_decide_eq_true ox with ⟨_, _, e1⟩ | ⟨e1, _⟩
      · rcases of_decide_eq_true oy with ⟨_, _, e2⟩ | ⟨e2, _⟩
        · omega
        · omega
      · omega
    · rw [a, b, b', Int.zero_mul, ord_eq rfl]
  · refine ⟨.inl ⟨c, c'⟩, ?_⟩
    rw [a, hV, hW, d, d', Int.one_mul]; rfl
  · refine ⟨.inl ⟨c, c'⟩, ?_⟩
    rw [a, hV, hW, d, d']
    show -1 * _ = ord (-val x.d x.n * _) (-val y.d y.n * _)
    rw [Int.neg_mul (val x.d x.n), Int.neg_mul (val y.d y.n), ord_neg]; omega
set_option maxRecDepth 100000 in
set_option maxHeartbeats 2000000 in
theorem dcompare_any (x y : NumR) (w : World) (hx : Row w x.ao x.n x.cap x.d) (hy : Row w y.ao y.n y.cap y.d) (ox : okR x = true) (oy : okR y = true) :
    Calls Tryd.prog 46 #[x.v, y.v] w fun r w' => r = .returned (.int .i64 (ord x.V y.V)) ∧ Below w.heap.size w w' := by
  have sx := okR_sane ox
  have sy := okR_sane oy
  have hso : sgn x.ng x.n ≠ sgn y.ng y.n → ord (sgn x.ng x.n) (sgn y.ng y.n) = ord x.V y.V := ord_signs sx sy
  have hse : sgn x.ng x.n = sgn y.ng y.n → ((0 < x.n ∧ 0 < y.n) ∨ (x.n = 0 ∧ y.n = 0 ∧ x.e = y.e)) ∧ sgn x.ng x.n * ord (val x.d x.n * pw x.e) (val y.d y.n * pw y.e) = ord x.V y.V := ord_same ox oy
  have hZ := fun W hb hz => dsizes_any x y W (hx.keeps hb) (hy.keeps hb) sx sy hz
  have hX := fun W => dsign_any x.ng x.ao x.n x.cap x.e W (by have := hx.le; have := hx.max; omega)
  have hY := fun W => dsign_any y.ng y.ao y.n y.cap y.e W (by have := hy.le; have := hy.max; omega)
  generalize hU : ord x.V y.V = U at hso hse ⊢
  clear hU ox oy sx sy
  unfold NumR.v at hZ ⊢
  obtain ⟨an, ao, n, ca, a, e⟩ := x
  obtain ⟨bn, bo, m, cb, b, f⟩ := y
  simp only at *
  have hb3 := bel_alloc2 w (.cells #[.bool an, .slice ao n ca, .int .i64 e] 27) (.cells #[.bool bn, .slice bo m cb, .int .i64 f] 27)
  have g0 := heap_a2 w (.cells #[.bool an, .slice ao n ca, .int .i64 e] 27) (.cells #[.bool bn, .slice bo m cb, .int .i64 f] 27)
  have g1 := heap_b2 w (.cells #[.bool an, .slice ao n ca, .int .i64 e] 27) (.cells #[.bool bn, .slice bo m cb, .int .i64 f] 27)
  go_enter Tryd.func46, Tryd.ntmps46
  go_wp2_with fail
  generalize (w.alloc (.cells #[.bool an, .slice ao n ca, .int .i64 e] 27)).alloc (.cells #[.bool bn, .slice bo m cb, .int .i64 f] 27) = wx at hb3 g0 g1 ⊢
  have k0 := blkC g0 0 rfl
  have k1 := blkC g0 1 rfl
  have k2 := blkC g0 2 rfl
  have j0 := blkC g1 0 rfl
  have j1 := blkC g1 1 rfl
  have j2 := blkC g1 2 rfl
  have hb1 := bel_refl wx
  go_region_held3 (fun W => (W.cell? ⟨w.heap.size, 0, none⟩ = some (.bool an) ∧ W.cell? ⟨w.heap.size, 1, none⟩ = some (.slice ao n ca) ∧ W.cell? ⟨w.heap.size, 2, none⟩ = some (.int .i64 e)) ∧ W.cell? ⟨w.heap.size + 1, 0, none⟩ = some (.bool bn) ∧ W.cell? ⟨w.heap.size + 1, 1, none⟩ = some (.slice bo m cb) ∧ W.cell? ⟨w.heap.size + 1, 2, none⟩ = some (.int .i64 f))
    (first | assumption | exact ⟨⟨k0, k1, k2⟩, j0, j1, j2⟩ | exact keep66 hbv2 (keep66 (W := wx.drew) hbv1 ⟨⟨k0, k1, k2⟩, j0, j1, j2⟩) | exact keep66 (W := wx.drew) hbv1 ⟨⟨k0, k1, k2⟩, j0, j1, j2⟩)
    (first | (go_at_call 43; have _t := hbv1; refine (hY _).mono ?_; rintro r w4 ⟨rfl, hbv2⟩) | (go_at_call 43; refine (hX _).mono ?_; rintro r w3 ⟨rfl, hbv1⟩))
  have hS4 := keep66 hbv2 (keep66 (W := wx.drew) hbv1 ⟨⟨k0, k1, k2⟩, j0, j1, j2⟩)
  have hf4 := bel_trans hb3 (bel_trans (bel_trans hb1.drew hbv1) hbv2)
  clear k0 k1 k2 j0 j1 j2 g0 g1 hbv1 hbv2 hb1 hb3
  obtain ⟨⟨k0, k1, k2⟩, j0, j1, j2⟩ := hS4
  have hb4 := bel_refl w4
  have hsv : sgn an n = 1 ∨ sgn an n = 0 ∨ sgn an n = -1 := by unfold sgn; split; (· exact .inr (.inl rfl)); (· cases an <;> simp)
  by_cases heq : sgn an n = sgn bn m
  · have hne : (sgn an n != sgn bn m) = false := by simp [heq]
    obtain ⟨z1, z2⟩ := hse heq
    have HZ : Hid (sgn an n * ord (val a n * pw e) (val b m * pw f) = U) := z2
    have hZ4 : ∀ W, Below w4.heap.size w4 W → _ := fun W h => hZ W (bel_trans hf4 h) z1
    have hO : ∀ o : Int, (o = 1 ∨ o = 0 ∨ o = -1) → IntKind.i64.wrap (sgn an n * o) = sgn an n * o := fun o ho => by
      rw [wrap_i64_eq]
      rcases hsv with h | h | h <;> rcases ho with q | q | q <;> rw [h, q] <;> decide
    have hw := hO _ (ord_three (val a n * pw e) (val b m * pw f))
    clear hso hse heq z2 hO hZ hsv
    go_wp2_with fail
    generalize ord (val a n * pw e) (val b m * pw f) = O at hZ4 hw HZ
    go_region_held3 (fun W => (W.cell? ⟨w.heap.size, 0, none⟩ = some (.bool an) ∧ W.cell? ⟨w.heap.size, 1, none⟩ = some (.slice ao n ca) ∧ W.cell? ⟨w.heap.size, 2, none⟩ = some (.int .i64 e)) ∧ W.cell? ⟨w.heap.size + 1, 0, none⟩ = some (.bool bn) ∧ W.cell? ⟨w.heap.size + 1, 1, none⟩ = some (.slice bo m cb) ∧ W.cell? ⟨w.heap.size + 1, 2, none⟩ = some (.int .i64 f))
      (first | assumption | exact ⟨⟨k0, k1, k2⟩, j0, j1, j2⟩ | exact keep66 hbv4 (keep66 (W := w4.drew) hbv3 ⟨⟨k0, k1, k2⟩, j0, j1, j2⟩) | exact keep66 (W := w4.drew) hbv3 ⟨⟨k0, k1, k2⟩, j0, j1, j2⟩)
      (first | (go_at_call 67; refine (hZ4 _ (bel_trans hb4.drew hbv3)).mono ?_; rintro r w6 ⟨rfl, hbv4⟩) | (go_at_call 43; refine (hX _).mono ?_; rintro r w5 ⟨rfl, hbv3⟩))
    go_wp2
    go_ret
    exact ⟨ret_int HZ.out, bel_trans (bel_trans hf4 (bel_trans hb4.drew hbv3)) hbv4⟩
  · have hne : (sgn an n != sgn bn m) = true := by simp [heq]
    have HO : Hid (ord (sgn an n) (sgn bn m) = U) := hso heq
    clear hso hse heq hZ hsv
    go_wp2_with fail
    go_region_held3 (fun W => (W.cell? ⟨w.heap.size, 0, none⟩ = some (.bool an) ∧ W.cell? ⟨w.heap.size, 1, none⟩ = some (.slice ao n ca) ∧ W.cell? ⟨w.heap.size, 2, none⟩ = some (.int .i64 e)) ∧ W.cell? ⟨w.heap.size + 1, 0, none⟩ = some (.bool bn) ∧ W.cell? ⟨w.heap.size + 1, 1, none⟩ = some (.slice bo m cb) ∧ W.cell? ⟨w.heap.size + 1, 2, none⟩ = some (.int .i64 f))
      (first | assumption | exact ⟨⟨k0, k1, k2⟩, j0, j1, j2⟩ | exact keep66 hbv4 (keep66 (W := w4.drew) hbv3 ⟨⟨k0, k1, k2⟩, j0, j1, j2⟩) | exact keep66 (W := w4.drew) hbv3 ⟨⟨k0, k1, k2⟩, j0, j1, j2⟩)
      (first | (go_at_call 66; refine (cmpInt_any _ _ _).mono ?_; rintro r w7 ⟨rfl, rfl⟩) | (go_at_call 43; have _t := hbv3; refine (hY _).mono ?_; rintro r w6 ⟨rfl, hbv4⟩) | (go_at_call 43; refine (hX _).mono ?_; rintro r w5 ⟨rfl, hbv3⟩))
    go_wp2
    go_ret
    exact ⟨ret_int HO.out, bel_trans (bel_trans hf4 (bel_trans hb4.drew hbv3)) hbv4⟩
set_option maxRecDepth 100000 in
set_option maxHeartbeats 1000000 in
theorem dcmp_any (x y : NumR) (w : World) (hx : Row w x.ao x.n x.cap x.d) (hy : Row w y.ao y.n y.cap y.d) :
    Calls Tryd.prog 25 #[x.v, y.v] w fun r w' => r = .returned (.tuple #[.int .i64 (if okR x && okR y then ord x.V y.V else 0), .int .i64 (if okR x && okR y then 0 else 11)]) ∧ Below w.heap.size w w' := by
  have hA := allOk2 x y
  have hN := fun W q hb => nums2 (w := W) (g := w.heap.size + 2) (x := x) (y := y) (t := 27) q (hx.keeps hb) (hy.keeps hb)
  have hC := fun (hk : (okR x && okR y) = true) W hb => dcompare_any x y W (hx.keeps hb) (hy.keeps hb) (by simp at hk; exact hk.1) (by simp at hk; exact hk.2)
  generalize ord x.V y.V = O at hC ⊢
  generalize pair2 x y = pr at hA hN
  generalize (okR x && okR y) = ok at hA hC ⊢
  unfold NumR.v at hC ⊢
  obtain ⟨an, ao, n, ca, a, e⟩ := x
  obtain ⟨bn, bo, m, cb, b, f⟩ := y
  simp only at *
  cases ok
  · go_enter Tryd.func25, Tryd.ntmps25
    go_wp2_with fail
    refine (dvalids_any _ _ _ _ _ (hN _ (h3_2 _ _ _ _) (bel_a3 _ _ _ _))).mono ?_
    rw [hA]
    rintro r w1 ⟨rfl, hb1⟩
    go_wp2
    go_ret2
    exact ⟨rfl, bel_trans (bel_a3 _ _ _ _) hb1⟩
  · go_enter Tryd.func25, Tryd.ntmps25
    go_wp2_with fail
    refine (dvalids_any _ _ _ _ _ (hN _ (h3_2 _ _ _ _) (bel_a3 _ _ _ _))).mono ?_
    rw [hA]
    rintro r w1 ⟨rfl, hb1⟩
    have hbw := bel_trans (bel_a3 w _ _ _) hb1
    have g0 := (hb1.block w.heap.size (by rw [size3]; omega)).trans (h3_0 _ _ _ _)
    have g1 := (hb1.block (w.heap.size + 1) (by rw [size3]; omega)).trans (h3_1 _ _ _ _)
    have k0 := blkC g0 0 rfl
    have k1 := blkC g0 1 rfl
    have k2 := blkC g0 2 rfl
    have j0 := blkC g1 0 rfl
    have j1 := blkC g1 1 rfl
    have j2 := blkC g1 2 rfl
    go_wp2_with fail
    refine (hC (by trivial) _ hbw).mono ?_
    rintro r w2 ⟨rfl, hb2⟩
    go_wp2
    go_ret2
    exact ⟨rfl, bel_trans hbw hb2⟩
end Go.Proofs.YtmghplbmfjhkcaaDoor

/-
  Package dyadic's calls on numbers that are told by their worth.
-/
namespace Go.Proofs.YtmghplbmfjhkcaaDoor
open Go Go.RowKit Go.Proofs.YtmghplbmfjhkcaaDoor.M
set_option linter.unusedSimpArgs false
set_option linter.unusedVariables false

/-- A number by its worth, laid open. -/
theorem DNum.open {w : World} {v : Value} {V : Int} (h : DNum w v V) (ok : Dok V) : ∃ x : NumR, v = x.v ∧ Row w x.ao x.n x.cap x.d ∧ okR x = true ∧ x.V = V := by
  obtain ⟨ng, s, m, e, rfl, hy, ao, n, cap, d, rfl, hR, hN, rfl⟩ := h
  refine ⟨⟨ng, ao, n, cap, d, e⟩, rfl, hR, ?_, hy.val.symm⟩
  obtain ⟨o1, o2, o3⟩ := hy.ok.1 ok
  refine decide_eq_true ?_
  by_cases h0 : n = 0
  · left
    have hz : val d n = 0 := by rw [h0]; rfl
    rcases hy.form with ⟨_, f2, f3⟩ | ⟨f1, _⟩
    · exact ⟨h0, f2, f3⟩
    · omega
  · right
    have hp := val_pos hN (show 0 < n by omega)
    rcases hy.form with ⟨f1, _⟩ | ⟨_, f2⟩
    · omega
    · refine ⟨by show 0 < n; omega, ⟨?_, hN⟩, ?_, o2, o3⟩
      · exact Num.len (w := w) (ao := ao) (cap := cap) ⟨_, _, _, _, rfl, hR, hN, rfl⟩ o1
      · obtain ⟨k, hk⟩ : ∃ k, n = 1 + k := ⟨n - 1, by omega⟩
        have := val_split d 1 k
        rw [← hk] at this
        rw [this, show val d 1 = d 0 by show 0 + d 0 * 1 = _; omega, show P 1 = 1073741824 from rfl] at f2
        show d 0 % 2 = 1
        omega
theorem DFit.yes {w w' : World} {V er : Int} {v : Value} (h : DFit w w' V v er) (ok : Dok V) : er = 0 ∧ DAns w w' V v := by
  rcases h.2 with ⟨_, h1, h2⟩ | ⟨hn, _⟩
  · exact ⟨h1, h2⟩
  · exact absurd ok hn
theorem add_D {w : World} {x y : Value} {A B : Int} (hx : DNum w x A) (hy : DNum w y B) (oA : Dok A) (oB : Dok B) (hT : Tab w) :
    Calls Tryd.prog 9 #[x, y] w fun r w' => ∃ v er, r = .returned (.tuple #[v, .int .i64 er]) ∧ DFit w w' (A + B) v er := by
  obtain ⟨x, rfl, hR, ok, rfl⟩ := hx.open oA
  obtain ⟨y, rfl, hR', ok', rfl⟩ := hy.open oB
  exact dadd_ok x y w hR hR' ok ok' hT
theorem sub_D {w : World} {x y : Value} {A B : Int} (hx : DNum w x A) (hy : DNum w y B) (oA : Dok A) (oB : Dok B) (hT : Tab w) :
    Calls Tryd.prog 10 #[x, y] w fun r w' => ∃ v er, r = .returned (.tuple #[v, .int .i64 er]) ∧ DFit w w' (A - B) v er := by
  obtain ⟨x, rfl, hR, ok, rfl⟩ := hx.open oA
  obtain ⟨y, rfl, hR', ok', rfl⟩ := hy.open oB
  exact dsub_ok x y w hR hR' ok ok' hT
theorem cmp_D {w : World} {x y : Value} {A B : Int} (hx : DNum w x A) (hy : DNum w y B) (oA : Dok A) (oB : Dok B) :
    Calls Tryd.prog 25 #[x, y] w fun r w' => r = .returned (.tuple #[.int .i64 (ord A B), .int .i64 0]) ∧ Below w.heap.size w w' := by
  obtain ⟨x, rfl, hR, ok, rfl⟩ := hx.open oA
  obtain ⟨y, rfl, hR', ok', rfl⟩ := hy.open oB
  have := dcmp_any x y w hR hR'
  rwa [ok, ok'] at this
end Go.Proofs.YtmghplbmfjhkcaaDoor

/-
  Package plumblaw3: alive.
-/
namespace Go.Proofs.YtmghplbmfjhkcaaDoor
open Go Go.RowKit Go.Proofs.YtmghplbmfjhkcaaDoor.M
set_option linter.unusedSimpArgs false
set_option linter.unusedVariables false

end Go.Proofs.YtmghplbmfjhkcaaDoor

/-
  The document's own answers (plumbref2): Shl, Shr, by contracts over the same values.
-/
namespace Go.Proofs.YtmghplbmfjhkcaaDoor
open Go Go.RowKit Go.Proofs.YtmghplbmfjhkcaaDoor.M
set_option linter.unusedSimpArgs false
set_option linter.unusedVariables false

end Go.Proofs.YtmghplbmfjhkcaaDoor

/-
  plumblaw2's Keep: lists of answers that are kept, in memory: what it is (Kp), Add, by its contract.
-/
namespace Go.Proofs.YtmghplbmfjhkcaaDoor
open Go Go.RowKit Go.Proofs.YtmghplbmfjhkcaaDoor.M
set_option linter.unusedSimpArgs false
set_option linter.unusedVariables false

/-- The first m of v. -/
def valsV (v : Nat → Value) (m : Nat) : List Value := (List.range m).map v
/-- A list of slices that is the call's own. -/
def OutV (B : Nat) (w : World) (x : Value) (m : Nat) (v : Nat → Value) : Prop := w.ownsRow B 22 1 x m (valsV v m)
theorem OutV.shape {B : Nat} {w : World} {x : Value} {m : Nat} {v : Nat → Value} (h : OutV B w x m v) : ∃ xo xc, x = .slice xo m xc ∧ m ≤ xc ∧ xc ≤ 9223372036854775807 ∧ (0 < m → ∃ g, xo = some ⟨g, 0, none⟩) := by
  rcases h.2 with ⟨rfl, rfl⟩ | ⟨g, cap, cur, rfl, hb, hg, hn, hm, _⟩
  · exact ⟨none, 0, rfl, Nat.le_refl _, by decide, fun h => by omega⟩
  · exact ⟨_, cap, rfl, hn, by unfold maxLen at hm; exact hm, fun _ => ⟨g, rfl⟩⟩
theorem OutV.of_block {B : Nat} {w w' : World} {x : Value} {m : Nat} {v : Nat → Value} (h : OutV B w x m v) (hb : ∀ g, x.ownBlock = some g → w'.heap[g]? = w.heap[g]?) : OutV B w' x m v := by
  refine ⟨h.1, ?_⟩
  rcases h.2 with hn | ⟨g, cap, cur, rfl, hbb, hg, rest⟩
  · exact .inl hn
  · exact .inr ⟨g, cap, cur, rfl, hbb, (hb g rfl).trans hg, rest⟩
theorem Out.of_block {B : Nat} {w w' : World} {x : Value} {n : Nat} {d : Nat → Int} (h : Out B w x n d) (hb : ∀ g, x.ownBlock = some g → w'.heap[g]? = w.heap[g]?) : Out B w' x n d := by
  refine ⟨h.1, ?_⟩
  rcases h.2 with hn | ⟨g, cap, cur, rfl, hbb, hg, rest⟩
  · exact .inl hn
  · exact .inr ⟨g, cap, cur, rfl, hbb, (hb g rfl).trans hg, rest⟩
theorem OutV.ge {B : Nat} {w : World} {x : Value} {n : Nat} {v : Nat → Value} (h : OutV B w x n v) {g : Nat} (hg : x.ownBlock = some g) : B ≤ g ∧ g < w.heap.size := by
  rcases h.2 with ⟨rfl, _⟩ | ⟨g', cap, cur, rfl, hbb, hg', rest⟩
  · simp [Value.ownBlock] at hg
  · simp only [Value.ownBlock, Option.some.injEq] at hg; subst hg; exact ⟨hbb, (Array.getElem?_eq_some_iff.1 hg').1⟩
theorem Out.ge {B : Nat} {w : World} {x : Value} {n : Nat} {v : Nat → Int} (h : Out B w x n v) {g : Nat} (hg : x.ownBlock = some g) : B ≤ g ∧ g < w.heap.size := by
  rcases h.2 with ⟨rfl, _⟩ | ⟨g', cap, cur, rfl, hbb, hg', rest⟩
  · simp [Value.ownBlock] at hg
  · simp only [Value.ownBlock, Option.some.injEq] at hg; subst hg; exact ⟨hbb, (Array.getElem?_eq_some_iff.1 hg').1⟩
theorem OutV.alloc {B : Nat} {w : World} {x : Value} {m : Nat} {v : Nat → Value} (h : OutV B w x m v) (o : Obj) : OutV B (w.alloc o) x m v := h.of_block fun g hg => Below.heap_alloc _ _ _ (h.ge hg).2
end Go.Proofs.YtmghplbmfjhkcaaDoor

/-
  What is kept, with the blocks it lies in (Kept); Keep.Add and answer of a number (An); Lent and Back.
-/
namespace Go.Proofs.YtmghplbmfjhkcaaDoor
open Go Go.RowKit Go.Proofs.YtmghplbmfjhkcaaDoor.M
set_option linter.unusedSimpArgs false
set_option linter.unusedVariables false

/-- A number's list, from B on. -/
def An (B : Nat) (w : World) (v : Value) (V : Int) : Prop := ∃ t d, Out B w v t d ∧ Nrm d t ∧ val d t = V
theorem An.keeps {B : Nat} {w w' : World} {v : Value} {V : Int} (h : An B w v V) (k : Below w.heap.size w w') : An B w' v V := by
  obtain ⟨t, d, h1, h2⟩ := h
  exact ⟨t, d, h1.stays k, h2⟩
theorem An.lower {B B' : Nat} {w : World} {v : Value} {V : Int} (h : An B w v V) (hB : B' ≤ B) : An B' w v V := by
  obtain ⟨t, d, h1, h2⟩ := h
  exact ⟨t, d, h1.lower hB, h2⟩
theorem An.nil (B : Nat) (w : World) : An B w (.slice none 0 0) 0 := ⟨0, fun _ => 0, Out.nil _ _ _, ⟨fun i hi => by omega, .inl rfl⟩, rfl⟩
theorem Ans.an {w w' : World} {V : Int} {v : Value} (h : Ans w w' V v) : An w.heap.size w' v V := by
  obtain ⟨t, d, h1, h2, h3, h4⟩ := h
  exact ⟨t, d, h1, h2, h3⟩
theorem An.shape {B : Nat} {w : World} {v : Value} {V : Int} (h : An B w v V) : ∃ ao n cap, v = .slice ao n cap := by
  obtain ⟨t, d, h1, h2⟩ := h
  obtain ⟨ao, cap, e, _⟩ := h1.row
  exact ⟨ao, t, cap, e⟩
theorem An.num {B : Nat} {w : World} {v : Value} {V : Int} (h : An B w v V) : Num w v V := by
  obtain ⟨t, d, h1, h2, h3⟩ := h
  obtain ⟨ao, cap, rfl, hR⟩ := h1.row
  exact ⟨ao, t, cap, d, rfl, hR, h2, h3⟩
theorem An.ge {B : Nat} {w : World} {v : Value} {V : Int} (h : An B w v V) {g : Nat} (hg : v.ownBlock = some g) : B ≤ g ∧ g < w.heap.size := by
  obtain ⟨t, d, h1, h2, h3⟩ := h
  exact h1.ge hg
/-- A list and an error, of a number that may be too long. -/
def FitA (B : Nat) (w : World) (V : Int) (v : Value) (er : Int) : Prop := (V < P 2000 ∧ er = 0 ∧ An B w v V) ∨ (P 2000 ≤ V ∧ er = 2 ∧ v = .slice none 0 0)
theorem FitA.keeps {B : Nat} {w w' : World} {v : Value} {V er : Int} (h : FitA B w V v er) (k : Below w.heap.size w w') : FitA B w' V v er := by
  rcases h with ⟨h1, h2, h3⟩ | h
  · exact .inl ⟨h1, h2, h3.keeps k⟩
  · exact .inr h
theorem FitA.lower {B B' : Nat} {w : World} {v : Value} {V er : Int} (h : FitA B w V v er) (hB : B' ≤ B) : FitA B' w V v er := by
  rcases h with ⟨h1, h2, h3⟩ | h
  · exact .inl ⟨h1, h2, h3.lower hB⟩
  · exact .inr h
theorem FitA.ge {B : Nat} {w : World} {v : Value} {V er : Int} (h : FitA B w V v er) {g : Nat} (hg : v.ownBlock = some g) : B ≤ g ∧ g < w.heap.size := by
  rcases h with ⟨h1, h2, h3⟩ | ⟨_, _, rfl⟩
  · exact h3.ge hg
  · simp [Value.ownBlock] at hg
theorem FitA.shape {B : Nat} {w : World} {v : Value} {V er : Int} (h : FitA B w V v er) : ∃ ao n cap, v = .slice ao n cap := by
  rcases h with ⟨h1, h2, h3⟩ | ⟨_, _, rfl⟩
  · exact h3.shape
  · exact ⟨_, _, _, rfl⟩
/-- A lent list: three marks behind it. -/
def lentD (a : Nat → Int) (n : Nat) : Nat → Int := cat a n (fun i => -71 - (i : Int))
/-- What Lent answers: a block of its own. -/
def LentA (w w' : World) (v : Value) (n : Nat) (a : Nat → Int) : Prop := ∃ g cap, v = .slice (some ⟨g, 0, none⟩) (n + 3) cap ∧ Out w.heap.size w' v (n + 3) (lentD a n) ∧ Below w.heap.size w w'
end Go.Proofs.YtmghplbmfjhkcaaDoor

/-
  Lent lists: what is read of them, and Back.
-/
namespace Go.Proofs.YtmghplbmfjhkcaaDoor
open Go Go.RowKit Go.Proofs.YtmghplbmfjhkcaaDoor.M
set_option linter.unusedSimpArgs false
set_option linter.unusedVariables false

theorem LentA.below {w w' : World} {v : Value} {n : Nat} {a : Nat → Int} (h : LentA w w' v n a) : Below w.heap.size w w' := by
  obtain ⟨g, cap, _, _, hb⟩ := h
  exact hb
theorem LentA.parts {w w' : World} {v : Value} {n : Nat} {a : Nat → Int} (h : LentA w w' v n a) : ∃ g cap, v = .slice (some ⟨g, 0, none⟩) (n + 3) cap ∧ Out w.heap.size w' (.slice (some ⟨g, 0, none⟩) (n + 3) cap) (n + 3) (lentD a n) := by
  obtain ⟨g, cap, rfl, h, _⟩ := h
  exact ⟨g, cap, rfl, h⟩
end Go.Proofs.YtmghplbmfjhkcaaDoor

/-
  The document's own Low, Pow, Root, by contracts over the same values.
-/
namespace Go.Proofs.YtmghplbmfjhkcaaDoor
open Go Go.RowKit Go.Proofs.YtmghplbmfjhkcaaDoor.M
set_option linter.unusedSimpArgs false
set_option linter.unusedVariables false

end Go.Proofs.YtmghplbmfjhkcaaDoor

/-
  Package plumbref3: Norm, by its contract: the one form of a number, however long.
-/
namespace Go.Proofs.YtmghplbmfjhkcaaDoor
open Go Go.RowKit Go.Proofs.YtmghplbmfjhkcaaDoor.M
set_option linter.unusedSimpArgs false
set_option linter.unusedVariables false

end Go.Proofs.YtmghplbmfjhkcaaDoor

/-
  Package plumblaw3: Norm, num, by contracts: a valid number of any one, not too great.
-/
namespace Go.Proofs.YtmghplbmfjhkcaaDoor
open Go Go.RowKit Go.Proofs.YtmghplbmfjhkcaaDoor.M
set_option linter.unusedSimpArgs false
set_option linter.unusedVariables false

end Go.Proofs.YtmghplbmfjhkcaaDoor

/-
  Plain mathematics: numbers that are not too great have a valid form. No Go text in sight.
-/
namespace Go.Proofs.YtmghplbmfjhkcaaDoor
open Go Go.RowKit Go.Proofs.YtmghplbmfjhkcaaDoor.M
set_option linter.unusedSimpArgs false
set_option linter.unusedVariables false

/-- V is a multiple of 2^-B, below 2^B, signs aside. -/
def Bd (B : Nat) (V : Int) : Prop := ∃ m : Int, V = m * pw (-(B : Int)) ∧ -(2 ^ (2 * B)) < m ∧ m < 2 ^ (2 * B)
theorem Bd.ok {B : Nat} {V : Int} (h : Bd B V) (hB : B ≤ 29000) : Dok V := by
  obtain ⟨m, rfl, h1, h2⟩ := h
  by_cases h0 : m = 0
  · rw [h0, Int.zero_mul]; exact dok_zero
  · have key : ∀ (ng : Bool) (M : Int), 0 < M → M < 2 ^ (2 * B) → Dok (sg ng M * pw (-(B : Int))) := fun ng M hM hlt => by
      obtain ⟨l, hl⟩ := isLow_ex hM
      have hy := Dy.of ng hl hM (show -4194304 ≤ -(B : Int) by omega)
      obtain ⟨c1, c2, c3⟩ := isLow_odd hl hM
      have hl2 : l < 2 * B := by
        have h3 : (1 : Int) * 2 ^ l ≤ M / 2 ^ l * 2 ^ l := Int.mul_le_mul_of_nonneg_right (by omega) (Int.le_of_lt (two_pos l))
        rw [c3] at h3
        exact two_lt_iff (by omega)
      refine hy.ok.2 ⟨?_, by omega, by omega⟩
      have h4 : M / 2 ^ l ≤ M := Int.ediv_le_self _ (by omega)
      have h5 : (2 : Int) ^ (2 * B) ≤ 2 ^ (30 * 2000) := two_le (by omega)
      rw [P_two]
      omega
    by_cases hp : 0 < m
    · exact key false m hp h2
    · have := key true (-m) (by omega) (by omega)
      rwa [show sg true (-m) = m by simp [sg]] at this
theorem Bd.up {B C : Nat} {V : Int} (h : Bd B V) (hBC : B ≤ C) (hC : C ≤ 4194304) : Bd C V := by
  obtain ⟨m, rfl, h1, h2⟩ := h
  have hp := two_pos (C - B)
  have e : pw (-(B : Int)) = pw (-(C : Int)) * 2 ^ (C - B) := by
    rw [← pw_add (by omega)]; congr 1; omega
  have hle : (2 : Int) ^ (2 * B) * 2 ^ (C - B) ≤ 2 ^ (2 * C) := by rw [← Int.pow_add]; exact two_le (by omega)
  refine ⟨m * 2 ^ (C - B), by rw [e]; grind, ?_, ?_⟩
  · have : -(2 ^ (2 * B)) * 2 ^ (C - B) < m * 2 ^ (C - B) := Int.mul_lt_mul_of_pos_right h1 hp
    rw [Int.neg_mul] at this
    omega
  · have := Int.mul_lt_mul_of_pos_right h2 hp
    omega
theorem Bd.add {B : Nat} {V W : Int} (h : Bd B V) (k : Bd B W) (hB : B < 4194304) : Bd (B + 1) (V + W) := by
  obtain ⟨m, rfl, h1, h2⟩ := h
  obtain ⟨n, rfl, k1, k2⟩ := k
  have e : pw (-(B : Int)) = pw (-((B + 1 : Nat) : Int)) * 2 := by
    have := pw_add (e := -((B + 1 : Nat) : Int)) (by omega) 1
    rw [Int.pow_succ, Int.pow_zero, Int.one_mul] at this
    rw [← this]; congr 1; omega
  have e2 : (2 : Int) ^ (2 * (B + 1)) = 2 ^ (2 * B) * 4 := by rw [show 2 * (B + 1) = 2 * B + 2 by omega, Int.pow_add]; rfl
  refine ⟨2 * (m + n), by rw [e]; grind, ?_, ?_⟩ <;> rw [e2] <;> omega
theorem Bd.neg {B : Nat} {V : Int} (h : Bd B V) : Bd B (-V) := by
  obtain ⟨m, rfl, h1, h2⟩ := h
  exact ⟨-m, by rw [Int.neg_mul], by omega, by omega⟩
theorem Bd.mul {B : Nat} {V W U : Int} (h : Bd B V) (k : Bd B W) (hU : U * 2 ^ 4194304 = V * W) (hB : B ≤ 1000000) : Bd (2 * B) U := by
  obtain ⟨m, rfl, h1, h2⟩ := h
  obtain ⟨n, rfl, k1, k2⟩ := k
  have e : U = m * n * pw (-((2 * B : Nat) : Int)) := by
    refine scale_inj ?_
    rw [hU, Int.mul_assoc (m * n), show -((2 * B : Nat) : Int) = -(B : Int) + -(B : Int) by omega, ← pw_mul (by omega) (by omega)]; grind
  refine ⟨m * n, e, ?_, ?_⟩
  all_goals
    have hab : (m * n).natAbs < ((2 : Int) ^ (2 * (2 * B))).natAbs := by
      rw [Int.natAbs_mul, show 2 * (2 * B) = 2 * B + 2 * B by omega, Int.pow_add, Int.natAbs_mul]
      exact Nat.mul_lt_mul'' (by have := two_pos (2 * B); omega) (by have := two_pos (2 * B); omega)
    have := two_pos (2 * (2 * B))
    omega
theorem bd_num {ng : Bool} {M e : Int} (h0 : 0 ≤ M) (h1 : M < P 30) (e0 : -3000 < e) (e1 : e < 3000) : Bd 4000 (sg ng M * pw e) := by
  have hs : pw e = pw (-((4000 : Nat) : Int)) * 2 ^ (e + 4000).toNat := by
    rw [← pw_add (by omega)]; congr 1; omega
  have hp := two_pos (e + 4000).toNat
  have hlt : M * 2 ^ (e + 4000).toNat < 2 ^ (2 * 4000) := by
    have a : M * 2 ^ (e + 4000).toNat < P 30 * 2 ^ (e + 4000).toNat := Int.mul_lt_mul_of_pos_right h1 hp
    rw [P_two, ← Int.pow_add] at a
    have b : (2 : Int) ^ (30 * 30 + (e + 4000).toNat) ≤ 2 ^ (2 * 4000) := two_le (by omega)
    omega
  have hn : 0 ≤ M * 2 ^ (e + 4000).toNat := Int.mul_nonneg h0 (Int.le_of_lt hp)
  refine ⟨sg ng (M * 2 ^ (e + 4000).toNat), by rw [hs, sg_sgn, sg_sgn]; grind, ?_, ?_⟩
  all_goals
    generalize M * 2 ^ (e + 4000).toNat = X at *
    generalize (2 : Int) ^ (2 * 4000) = T at *
    cases ng <;> simp only [sg] <;> simp <;> omega
end Go.Proofs.YtmghplbmfjhkcaaDoor

/-
  What a row gives of its arguments: a slice of ints that came in, as the walks want it.
-/
namespace Go.Proofs.YtmghplbmfjhkcaaDoor
open Go Go.ChangeShapes Go.WideShapes Go.ChangeAt Go.RowKit Go.Proofs.YtmghplbmfjhkcaaDoor.M
set_option linter.unusedSimpArgs false
set_option linter.unusedVariables false

theorem rng_of {x : Int} (h : (Lit.int .i64 x).wf = true) : rng x := by
  simp [Lit.wf, IntKind.min, IntKind.max, IntKind.signed, IntKind.bits] at h
  unfold rng; omega
theorem row_of {H : Type} {enc : TypeId × Value → H} {W : World} {a : Option Addr} {len cap : Nat} {d : DataW H} {p : List MemPlace}
    (h0 : DataW.Trod enc Tryd.prog W 0 (fun _ => true) true 22 (.slice a len cap) d p) : ∃ z : Nat → Int, Row W a len cap z ∧ ∀ i, i < len → rng (z i) := by
  obtain ⟨fuel, hf⟩ := h0
  rcases open_ints Tryd.underlying22 Tryd.underlying3 (by kernel_rfl) hf with ⟨hcs, _⟩ | ⟨x, l, c, zs, hcs, _, hl, hm, hz, _, hcell, hwz⟩
  · simp [Value.cells] at hcs
    obtain ⟨rfl, rfl, rfl⟩ := hcs
    exact ⟨fun _ => 0, Row.nil _ _, fun i hi => by omega⟩
  · simp [Value.cells] at hcs
    obtain ⟨rfl, rfl, rfl⟩ := hcs
    have hz' : zs.length = cap := by simpa using hz
    refine ⟨fun i => zs.getD i 0, ⟨hl, by unfold maxLen at hm; exact hm, (fun e => by cases e), fun hn => ?_⟩, fun i hi => ?_⟩
    · obtain ⟨b, off, spot⟩ := x
      have hc := hcell 0 (by omega)
      have hspot : spot = none := by simpa [Addr.add] using World.cell?_spot hc
      subst hspot
      refine ⟨b, off, rfl, World.block_lt_of_cell? W _ (by simpa [Addr.add] using hc), fun i hi => ?_⟩
      rw [← add_none]; exact hcell i (by omega)
    · refine rng_of (hwz _ ?_)
      simp [List.getD, show i < zs.length by omega]
end Go.Proofs.YtmghplbmfjhkcaaDoor

/-
  What a row's list gives: the library's table of trailing zeros.
-/
namespace Go.Proofs.YtmghplbmfjhkcaaDoor
open Go Go.RowKit Go.ChangeShapes Go.Proofs.YtmghplbmfjhkcaaDoor.M
set_option linter.unusedSimpArgs false
set_option linter.unusedVariables false

theorem gTab : Tryd.prog.globalNamed "math/bits.deBruijn64tab" = some 2 := by kernel_rfl
theorem gTabType : (Tryd.prog.globals[(2 : Nat)]?).map (·.type) = some 85 := by kernel_rfl
theorem cellsTab : Tryd.prog.cellsOf 85 = 64 := by kernel_rfl
theorem cellsByte : Tryd.prog.cellsOf 5 = 1 := by kernel_rfl
def tabInts : List Int := Lib.deBruijn64tab.map Int.ofNat
theorem tab_get : ∀ j, j < 64 → tabInts.getD j 0 = ((Lib.deBruijn64tab.getD j 0 : Nat) : Int) := by decide +kernel
end Go.Proofs.YtmghplbmfjhkcaaDoor

/-
  What a row's list of package-level variables gives: the layouts' cells, and the cells of the library's table for b_trailing zeros.
-/
namespace Go.Proofs.YtmghplbmfjhkcaaDoor
open Go Go.RowKit Go.ChangeShapes Go.Proofs.YtmghplbmfjhkcaaDoor.M
set_option linter.unusedSimpArgs false
set_option linter.unusedVariables false

theorem cellsInt : Tryd.prog.cellsOf 3 = 1 := by kernel_rfl
theorem cellsLayout : Tryd.prog.cellsOf 71 = 3 := by kernel_rfl
theorem g64 : Tryd.prog.globalNamed "plumb/bits.binary64" = some 0 := by kernel_rfl
theorem g64Type : (Tryd.prog.globals[(0 : Nat)]?).map (·.type) = some 71 := by kernel_rfl
set_option maxRecDepth 100000 in
/-- A layout's three cells, off its reading. -/
theorem three {W : World} {name : String} {g : Nat} {a b c : Int} {rest : List (String × DataW Unit)} (hg : Tryd.prog.globalNamed name = some g) (hty : (Tryd.prog.globals[g]?).map (·.type) = some 71)
    (h : laidMet Tryd.prog ((name, .agg [.lit (.int .i64 a), .lit (.int .i64 b), .lit (.int .i64 c)]) :: rest) W) :
    W.cell? ⟨g, 0, none⟩ = some (.int .i64 a) ∧ W.cell? ⟨g, 1, none⟩ = some (.int .i64 b) ∧ W.cell? ⟨g, 2, none⟩ = some (.int .i64 c) := by
  obtain ⟨ps, ⟨g', t', cs, fuel, p, q, hg', ht', hvar, hd, _, _⟩, _⟩ := h
  obtain rfl := Option.some.inj (hg.symm.trans hg')
  obtain rfl := Option.some.inj (hty.symm.trans ht')
  obtain ⟨y0, y1, y2, n, hx, hl, h0, h1, h2⟩ := Go.Deep.trod_struct3 Tryd.underlying71 hd
  obtain ⟨k0, e0, f0, _⟩ := DataW.trod_int Tryd.underlying3 h0
  obtain ⟨k1, e1, f1, _⟩ := DataW.trod_int Tryd.underlying3 h1
  obtain ⟨k2, e2, f2, _⟩ := DataW.trod_int Tryd.underlying3 h2
  rw [f0, f1, f2] at hx
  simp only [Prod.mk.injEq, DataW.agg.injEq, List.cons.injEq, DataW.lit.injEq, Lit.int.injEq, true_and, and_true] at hx
  obtain ⟨⟨rfl, rfl, rfl⟩, _⟩ := hx
  rw [cellsLayout] at hl
  rw [cellsInt] at e0 e1 e2
  have v := fun i => World.var?_cell hg hvar i
  obtain ⟨l⟩ := cs
  simp only at hl e0 e1 e2
  match l, hl with
  | [c0, c1, c2], _ =>
    simp at e0 e1 e2
    subst e0 e1 e2
    exact ⟨by simpa using v 0, by simpa using v 1, by simpa using v 2⟩

end Go.Proofs.YtmghplbmfjhkcaaDoor

/-
  What a row gives: a number that came in, as the walks want it; the library's table and the layout of binary64.
-/
namespace Go.Proofs.YtmghplbmfjhkcaaDoor
open Go Go.ChangeShapes Go.WideShapes Go.ChangeAt Go.RowKit Go.Proofs.YtmghplbmfjhkcaaDoor.M
set_option linter.unusedSimpArgs false
set_option linter.unusedVariables false

/-- What the laws want of the package's variables. -/
structure Hold (w : World) : Prop where
  lay : Lay64 w
  tab : Tab w
theorem Hold.keeps {w w' : World} (h : Hold w) (hb : Below w.heap.size w w') : Hold w' := ⟨h.lay.keeps hb, h.tab.keeps hb⟩
theorem hold_of {W : World} (h : laidMetH Tryd.prog [("math/bits.deBruijn32tab", Rows.laid_math_bits_deBruijn32tab), ("math/bits.deBruijn64tab", Rows.laid_math_bits_deBruijn64tab), ("plumb/bits.binary64", Rows.laid_plumb_bits_binary64)] W) : Hold W := by
  rw [MakeChecks.laidMetH_plain _ _ _ (by kernel_rfl)] at h
  have h' : laidMet Tryd.prog (("math/bits.deBruijn64tab", Lib.tabData .u8 tabInts) :: [("plumb/bits.binary64", Rows.laid_plumb_bits_binary64)]) W := h.tail
  have t := Lib.tabIs_of_head gTab gTabType Tryd.underlying85 Tryd.underlying5 cellsByte cellsTab h'
  obtain ⟨a0, a1, a2⟩ := three g64 g64Type h'.tail
  refine ⟨⟨a0, a1, a2⟩, fun j hj => ?_⟩
  rw [← tab_get j hj]
  exact t.cell gTab j (by exact hj)
end Go.Proofs.YtmghplbmfjhkcaaDoor

/-
  Package dyadic's calls on numbers that are not too great: what they answer is told outright.
-/
namespace Go.Proofs.YtmghplbmfjhkcaaDoor
open Go Go.RowKit Go.Proofs.YtmghplbmfjhkcaaDoor.M
set_option linter.unusedSimpArgs false
set_option linter.unusedVariables false

theorem dans_shape {w w' : World} {V : Int} {v : Value} (h : DAns w w' V v) : ∃ ng so sn sc e, v = .agg #[.bool ng, .slice so sn sc, .int .i64 e] := by
  obtain ⟨ng, s, m, e, h1, _, hA⟩ := h
  obtain ⟨so, sn, sc, rfl⟩ := hA.num.shape
  exact ⟨_, _, _, _, _, h1⟩
theorem add_B {w : World} {x y : Value} {A B : Int} {k : Nat} (hx : DNum w x A) (hy : DNum w y B) (bA : Bd k A) (bB : Bd k B) (hk : k ≤ 28000) (hT : Tab w) :
    Calls Tryd.prog 9 #[x, y] w fun r w' => ∃ v, r = .returned (.tuple #[v, .int .i64 0]) ∧ DAns w w' (A + B) v := by
  refine (add_D hx hy (bA.ok (by omega)) (bB.ok (by omega)) hT).mono ?_
  rintro r w' ⟨v, er, rfl, hF⟩
  obtain ⟨rfl, hD⟩ := hF.yes ((bA.add bB (by omega)).ok (by omega))
  exact ⟨v, rfl, hD⟩
theorem sub_B {w : World} {x y : Value} {A B : Int} {k : Nat} (hx : DNum w x A) (hy : DNum w y B) (bA : Bd k A) (bB : Bd k B) (hk : k ≤ 28000) (hT : Tab w) :
    Calls Tryd.prog 10 #[x, y] w fun r w' => ∃ v, r = .returned (.tuple #[v, .int .i64 0]) ∧ DAns w w' (A - B) v := by
  refine (sub_D hx hy (bA.ok (by omega)) (bB.ok (by omega)) hT).mono ?_
  rintro r w' ⟨v, er, rfl, hF⟩
  have hb := bA.add bB.neg (by omega)
  rw [← Int.sub_eq_add_neg] at hb
  obtain ⟨rfl, hD⟩ := hF.yes (hb.ok (by omega))
  exact ⟨v, rfl, hD⟩
end Go.Proofs.YtmghplbmfjhkcaaDoor

/-
  plumblaw4.num, by its contract: a valid number of any one.
-/
namespace Go.Proofs.YtmghplbmfjhkcaaDoor
open Go Go.RowKit Go.Proofs.YtmghplbmfjhkcaaDoor.M
set_option linter.unusedSimpArgs false
set_option linter.unusedVariables false

end Go.Proofs.YtmghplbmfjhkcaaDoor

/-
  plumblaw4.order, by its contract.
-/
namespace Go.Proofs.YtmghplbmfjhkcaaDoor
open Go Go.RowKit Go.Proofs.YtmghplbmfjhkcaaDoor.M
set_option linter.unusedSimpArgs false
set_option linter.unusedVariables false

/-- A pattern's value, in the scale. -/
def patV (b : Int) : Int := sg (pneg b) (pmag b) * pw (pexp b)
/-- How a number stands to a pattern. -/
def ordP (A b : Int) : Int := if pok b = true then ord A (patV b) else if b < 0 then 1 else -1
end Go.Proofs.YtmghplbmfjhkcaaDoor

/-
  Plain mathematics: what binary64 answers, by rungs. No Go text in sight.
-/
namespace Go.Proofs.YtmghplbmfjhkcaaDoor
open Go Go.Proofs.YtmghplbmfjhkcaaDoor.M
set_option linter.unusedSimpArgs false
set_option linter.unusedVariables false

/-- The value of a rung, in the scale. -/
def vS (r : Nat) : Int := (V Ieee.double r : Int) * pw (-1074)
theorem vS_lt {r s : Nat} (h : r < s) : vS r < vS s := Int.mul_lt_mul_of_pos_right (by have := V_lt Ieee.double h; omega) (pw_pos _)
/-- A size among the rungs: at r0 or above it, and how far to the next one. -/
structure Rung (A : Int) (r0 : Nat) (left : Int) : Prop where
  lo : vS r0 ≤ A
  hi : A < vS (r0 + 1)
  l0 : left = 0 ↔ A = vS r0
  l1 : left = 1 ↔ vS r0 < A ∧ 2 * A < vS r0 + vS (r0 + 1)
  l2 : left = 2 ↔ 2 * A = vS r0 + vS (r0 + 1)
  l3 : left = 3 ↔ vS r0 + vS (r0 + 1) < 2 * A
/-- The rung that it is rounded to. -/
def rTo (way : Int) (ng : Bool) (r0 : Nat) (left : Int) : Int := if (r0 : Int) < 9218868437227405312 then (r0 : Int) + (if rUp way ng (decide (r0 % 2 = 1)) left then 1 else 0) else bRung way ng
theorem rUp_left {way : Int} {ng odd : Bool} (h : rUp way ng odd 0 = true) : False := by
  unfold rUp at h
  split at h
  · simp at h
  · split at h
    · simp at h
    · split at h <;> simp at h
theorem rUp_more {way : Int} {ng odd : Bool} {left : Int} (h : rUp way ng odd left = true) : rUp way ng true 3 = true := by
  unfold rUp at *
  split at h
  · rename_i h1; rw [if_pos h1]; rfl
  · rename_i h1
    rw [if_neg h1]
    split at h
    · rename_i h2; rw [if_pos h2]; simp at h; simp [h.2]
    · rename_i h2
      rw [if_neg h2]
      split at h
      · rename_i h3; rw [if_pos h3]; simp at h; simp [h.2]
      · cases h
theorem left_rung {A : Int} {u a r0 : Nat} {left : Int} (h : M.Left A u (2 ^ a * pw (-1074)) left) (h1 : V Ieee.double r0 = u * 2 ^ a) (h2 : V Ieee.double (r0 + 1) = (u + 1) * 2 ^ a) : Rung A r0 left := by
  obtain ⟨lo, hi, l0, l1, l2, l3⟩ := h
  have e1 : vS r0 = (u : Int) * (2 ^ a * pw (-1074)) := by
    unfold vS
    rw [h1]
    push_cast
    rw [Int.mul_assoc]
  have e2 : vS (r0 + 1) = (u : Int) * (2 ^ a * pw (-1074)) + 2 ^ a * pw (-1074) := by
    unfold vS
    rw [h2]
    push_cast
    rw [Int.add_mul, Int.add_mul, Int.one_mul, Int.mul_assoc]
  generalize (2 : Int) ^ a * pw (-1074) = q at *
  generalize (u : Int) * q = U at *
  exact ⟨by omega, by omega, by rw [e1]; exact l0, by rw [e1, e2, l1]; constructor <;> intro h <;> omega, by rw [e1, e2, l2]; constructor <;> intro h <;> omega, by rw [e1, e2, l3]; constructor <;> intro h <;> omega⟩
theorem r64_spec {way : Int} {ng sd : Bool} {A : Int} {mag : Nat} {exp : Int} {cut : Bool} (hA : Held A mag exp cut) (hm : mag < 2 ^ 64) (h0 : mag ≠ 0) (he : -4194304 ≤ exp) (hc : cut = true → 2 ^ 60 ≤ mag) :
    ∃ (r0 : Nat) (left : Int), Rung A r0 left ∧ r64 way ng sd mag exp cut = (patS (ng && (decide (0 < rTo way ng r0 left) || sd)) (rTo way ng r0 left), decide (left ≠ 0) || decide (9218868437227405312 ≤ (r0 : Int))) := by
  have e64 : (2 : Nat) ^ 64 = 18446744073709551616 := by decide
  obtain ⟨b1, b2, b3, b4⟩ := M.bitLen_spec mag hm h0
  have hbits := rU_bits (size := 53) (low := -1074) (exp := exp) (by decide) hm h0
  have hE1 : -1074 ≤ rE 53 (-1074) mag exp := by unfold rE; omega
  have hcs : cut = true → 0 < rE 53 (-1074) mag exp - exp := fun h => by
    have h1 := hc h
    have h2 : 60 < Lib.bitLen mag := by
      have := (Nat.pow_lt_pow_iff_right (by decide : 1 < 2)).1 (Nat.lt_of_le_of_lt h1 b2)
      exact this
    unfold rE
    omega
  have hL := left_of hA hcs (by omega) he
  obtain ⟨E, hE⟩ : ∃ E, rE 53 (-1074) mag exp = E := ⟨_, rfl⟩
  have HR : r64 way ng sd mag exp cut = (let E := rE 53 (-1074) mag exp
    let u := rU mag (E - exp)
    let left := rL mag cut (E - exp)
    let U := u + (if rUp way ng (decide (u % 2 = 1)) left then 1 else 0)
    let neg := ng && (decide (0 < U) || sd)
    if jk 52 2047 (-1074) U E then (jp neg U E, decide (left ≠ 0)) else (patS neg (bRung way neg), true)) := rfl
  simp only at HR
  rw [hE] at hbits hE1 hL HR
  obtain ⟨u, hu⟩ : ∃ u, rU mag (E - exp) = u := ⟨_, rfl⟩
  obtain ⟨left, hl⟩ : ∃ l, rL mag cut (E - exp) = l := ⟨_, rfl⟩
  rw [hu] at hbits hL HR
  rw [hl] at hL HR
  obtain ⟨a, ha⟩ : ∃ a, (E - -1074).toNat = a := ⟨_, rfl⟩
  have e53 : (2 : Nat) ^ (53 : Int).toNat = 9007199254740992 := by decide
  have e52 : (2 : Nat) ^ ((53 : Int).toNat - 1) = 4503599627370496 := by decide
  rw [e53, e52] at hbits
  have eB : Ieee.double.binade = 4503599627370496 := by decide
  have hV := V_rung Ieee.double a u (by rw [eB]; omega) (fun h => by rw [eB]; exact hbits.2 (by omega))
  rw [eB] at hV
  have hpw : pw E = 2 ^ a * pw (-1074) := by rw [pw_sub (e := E) (low := -1074) (by decide) hE1, ha]
  rw [hpw] at hL
  refine ⟨a * 4503599627370496 + u, left, left_rung hL hV.1 hV.2, ?_⟩
  rw [HR]
  have hodd : decide ((a * 4503599627370496 + u) % 2 = 1) = decide (u % 2 = 1) := by congr 1; apply propext; omega
  unfold rTo
  rw [hodd]
  obtain ⟨R, hR⟩ : ∃ R, rUp way ng (decide (u % 2 = 1)) left = R := ⟨_, rfl⟩
  rw [hR]
  obtain ⟨U, hU⟩ : ∃ U, u + (if R = true then 1 else 0) = U := ⟨_, rfl⟩
  rw [hU]
  have hR1 : R = true → left ≠ 0 := fun h hz => by rw [hz, h] at hR; exact rUp_left hR
  have hR2 : R = true → rUp way ng true 3 = true := fun h => rUp_more (hR.trans h)
  have hUle : U ≤ 9007199254740992 := by rw [← hU]; split <;> omega
  have hcast : ((a * 4503599627370496 + u : Nat) : Int) + (if R = true then 1 else 0) = ((a * 4503599627370496 + U : Nat) : Int) := by
    rw [← hU]
    cases R <;> simp only [if_true, if_false, Bool.false_eq_true] <;> omega
  rw [hcast]
  by_cases hU0 : U = 0
  · have hu0 : u = 0 := by rw [← hU] at hU0; omega
    have ha0 : a = 0 := by
      rcases Nat.eq_zero_or_pos a with h | h
      · exact h
      · have := hbits.2 (by omega); omega
    subst hU0 hu0 ha0
    have hj : jk 52 2047 (-1074) ((0 : Nat) : Int) E = true := rfl
    rw [hj]
    rw [if_pos rfl, if_pos (by decide)]
    have hd : decide (9218868437227405312 ≤ ((0 * 4503599627370496 + 0 : Nat) : Int)) = false := by decide
    rw [hd, Bool.or_false]
    cases ng <;> cases sd <;> rfl
  · have hjr := join_rung Ieee.double 52 (by decide) dB 2047 (-1074) (by decide) U E (by omega) (by rw [show (2 : Nat) ^ (52 + 1) = 9007199254740992 by decide]; exact hUle) hE1 (fun h => by rw [show (2 : Nat) ^ 52 = 4503599627370496 by decide]; have := hbits.2 h; rw [← hU]; omega)
    simp only at hjr
    rw [ha, show (2 : Nat) ^ 52 = 4503599627370496 by decide, show (2047 : Int) * 2 ^ 52 = 9218868437227405312 by decide] at hjr
    obtain ⟨j1, j2⟩ := hjr
    have hpos : decide (0 < U) = true := decide_eq_true (by omega)
    rw [show jk ((52 : Nat) : Int) 2047 (-1074) (U : Int) E = jk 52 2047 (-1074) (U : Int) E from rfl] at j1
    rw [j1, hpos, Bool.true_or, Bool.and_true]
    by_cases hf : ((a * 4503599627370496 + U : Nat) : Int) < 9218868437227405312
    · have huU : u ≤ U := by rw [← hU]; omega
      have hf0 : ((a * 4503599627370496 + u : Nat) : Int) < 9218868437227405312 := by omega
      rw [decide_eq_true hf, if_pos rfl, if_pos hf0, decide_eq_false (p := 9218868437227405312 ≤ ((a * 4503599627370496 + u : Nat) : Int)) (by omega), Bool.or_false]
      have hd : decide (0 < ((a * 4503599627370496 + U : Nat) : Int)) = true := decide_eq_true (by omega)
      rw [hd, Bool.true_or, Bool.and_true]
      congr 1
      have hjk : jk 52 2047 (-1074) (U : Int) E = true := by rw [j1]; exact decide_eq_true hf
      have hjv := j2 hf
      rw [show jv ((52 : Nat) : Int) 2047 (-1074) (U : Int) E = jv 52 2047 (-1074) (U : Int) E from rfl] at hjv
      unfold jp patS
      rw [hjk, hjv, Bool.true_and]
    · rw [decide_eq_false hf, if_neg (by simp)]
      by_cases hf0 : ((a * 4503599627370496 + u : Nat) : Int) < 9218868437227405312
      · have hRt : R = true := by
          cases R
          · exfalso; simp at hU; omega
          · rfl
        have hUe : ((a * 4503599627370496 + U : Nat) : Int) = 9218868437227405312 := by rw [hRt] at hU; simp at hU; omega
        rw [if_pos hf0, hUe, decide_eq_true (hR1 hRt), Bool.true_or]
        congr 1
        have : bRung way ng = 9218868437227405312 := by unfold bRung; rw [hR2 hRt, if_pos rfl]
        rw [this]
        simp
      · rw [if_neg hf0, decide_eq_true (p := 9218868437227405312 ≤ ((a * 4503599627370496 + u : Nat) : Int)) (by omega), Bool.or_true]
        congr 1
        have hd : decide (0 < bRung way ng) = true := by unfold bRung; split <;> decide
        rw [hd, Bool.true_or, Bool.and_true]
end Go.Proofs.YtmghplbmfjhkcaaDoor
