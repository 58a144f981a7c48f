/-
  Parts of the proof, one behind another.
-/
import Derived.Test.YtmpioejllfedoaaDoorPart9
import Derived.Test.YtmpioejllfedoaaDoorPart8
import Derived.Test.YtmpioejllfedoaaDoorPart7
import Derived.Test.YtmpioejllfedoaaDoorPart14
import Derived.Test.YtmpioejllfedoaaDoorPart13
import Derived.Test.YtmpioejllfedoaaDoorPart15
/-
  Package span: Meet, by its contract.
-/
namespace Go.Proofs.YtmpioejllfedoaaDoor
open Go Go.RowKit Go.Proofs.YtmpioejllfedoaaDoor.M
set_option linter.unusedSimpArgs false
set_option linter.unusedVariables false

set_option maxRecDepth 100000 in
set_option maxHeartbeats 4000000 in
theorem spanMeet {a b c d : Int} (ha : rng a) (hb : rng b) (hc' : rng c) (hd : rng d) (w : World) (L : Lays w) :
    Calls Tryd.prog 24 #[spn a b, spn c d] w fun e w' => ∃ X Y : Int, e = .returned (.tuple #[.agg #[.int .i64 X, .int .i64 Y], .bool ((vld a b && vld c d) && vld (maxP a c) (minP b d)), .int .i64 (errA (vld a b && vld c d))]) ∧ ((vld a b && vld c d) = true → vld (maxP a c) (minP b d) = true → X = canon (maxP a c) ∧ Y = canon (minP b d)) ∧ Below w.heap.size w w' := by
  have R1 := fun W => spanReadX a b W
  have R2 := fun W => spanReadX c d W
  have V1 : Hid (∀ W, Calls Tryd.prog 21 #[ivl a b] W fun e w' => e = .returned (.bool (vld a b)) ∧ Below W.heap.size W w') := fun W => ivlValid ha hb W
  have V2 : Hid (∀ W, Calls Tryd.prog 21 #[ivl c d] W fun e w' => e = .returned (.bool (vld c d)) ∧ Below W.heap.size W w') := fun W => ivlValid hc' hd W
  unfold spn ivl at *
  obtain ⟨q0, q1, q2, hs, hb3⟩ := heap3 w (.cells #[.int .i64 a, .int .i64 b] 23) (.cells #[.int .i64 c, .int .i64 d] 23) (.cells #[.int .i64 0, .int .i64 0] 23)
  go_enter Tryd.func24, Tryd.ntmps24
  go_wp2_with fail
  have k0 := blkC q0 0 rfl
  have k1 := blkC q0 1 rfl
  have k2 := blkC q1 0 rfl
  have k3 := blkC q1 1 rfl
  generalize ((w.alloc (.cells #[.int .i64 a, .int .i64 b] 23)).alloc (.cells #[.int .i64 c, .int .i64 d] 23)).alloc (.cells #[.int .i64 0, .int .i64 0] 23) = wx at *
  have hst : ∀ (p : Addr) (n : Nat) (m : Mode) (w : World), (store p (.float .f64 n) m).run Tryd.prog w = stored Tryd.prog w p (.float .f64 n) m := fun p n m w => run_store _ w p _ m rfl
  have hc : (w.heap.size < w.heap.size + 3 ∧ w.heap.size + 1 < w.heap.size + 3 ∧ w.heap.size + 3 ≤ wx.drew.heap.size) ∧ wx.drew.cell? ⟨w.heap.size, 0, none⟩ = some (.int .i64 a) ∧ wx.drew.cell? ⟨w.heap.size, 1, none⟩ = some (.int .i64 b) ∧ wx.drew.cell? ⟨w.heap.size + 1, 0, none⟩ = some (.int .i64 c) ∧ wx.drew.cell? ⟨w.heap.size + 1, 1, none⟩ = some (.int .i64 d) := ⟨⟨by omega, by omega, by show _ ≤ wx.heap.size; omega⟩, k0, k1, k2, k3⟩
  rename_i Q' K haK
  have H : ∀ (gi gj : Nat) (W : World), W.heap[gi]? = some (.cells #[.float .f64 (wd a), .float .f64 (wd b)] 50 (0, 0)) → W.heap[gj]? = some (.cells #[.float .f64 (wd c), .float .f64 (wd d)] 50 (0, 0)) → Below wx.heap.size wx W →
      Exit.then K Q' Exit.normal { tmps := #[.agg #[.int .i64 a, .int .i64 b], .agg #[.int .i64 c, .int .i64 d], .pointer (some ⟨w.heap.size, 0, none⟩), .pointer (some ⟨w.heap.size + 1, 0, none⟩), .pointer (some ⟨w.heap.size + 1 + 1, 0, none⟩), .bool false, .int .i64 0, .pointer (some ⟨gi, 0, none⟩), .pointer (some ⟨gj, 0, none⟩), undef, .agg #[.int .i64 a, .int .i64 b], .agg #[.float .f64 (wd a), .float .f64 (wd b)], .agg #[.int .i64 c, .int .i64 d], .agg #[.float .f64 (wd c), .float .f64 (wd d)], undef, undef, undef, undef, undef, undef, undef, undef, undef, undef, undef, undef, undef, undef, undef, undef, undef, undef, undef, undef, undef, undef, undef, undef, undef, undef], defers := [] } W := by
    intro gi gj W hgi hgj hbW
    clear hc k0 k1 k2 k3 q0 q1 R1 R2
    have i0 := blkC hgi 0 rfl
    have i1 := blkC hgi 1 rfl
    go_wp2_with fail
    refine (V1.out _).mono ?_
    rintro _ w1 ⟨rfl, hb4⟩
    have hgi1 := (hb4.block _ (Array.getElem?_eq_some_iff.1 hgi).1).trans hgi
    have hgj1 := (hb4.block _ (Array.getElem?_eq_some_iff.1 hgj).1).trans hgj
    clear i0 i1
    have j0 := blkC hgj1 0 rfl
    have j1 := blkC hgj1 1 rfl
    by_cases h1 : vld a b = false
    · rw [h1]
      have hbR := bel_trans hbW hb4
      have d2 := (hbR.block _ (Array.getElem?_eq_some_iff.1 q2).1).trans q2
      have d3 := q_heap_set d2 0 (.int .i64 0)
      have d4 := q_heap_set d3 1 (.int .i64 0)
      have f0 := blkC d2 0 rfl
      have z0 := blkF d2 0
      have f1 := blkC d3 1 rfl
      have z1 := blkF d3 1
      have e0 := blkC d4 0 rfl
      have e1 := blkC d4 1 rfl
      have hbe := ((bel_trans hb3 hbR).setCell (p := ⟨w.heap.size + 1 + 1, 0, none⟩) (show w.heap.size ≤ w.heap.size + 1 + 1 by omega) (.int .i64 0)).setCell (p := ⟨w.heap.size + 1 + 1, 1, none⟩) (show w.heap.size ≤ w.heap.size + 1 + 1 by omega) (.int .i64 0)
      clear d2 d3 d4
      go_wp2
      refine bodyPost_ret (v := .tuple #[.agg #[.int .i64 0, .int .i64 0], .bool false, .int .i64 1]) (by simp [results, Tryd.results24, go_sem, e0, e1]) rfl ⟨_, _, by rw [h1]; rfl, (fun hx => by rw [h1] at hx; cases hx), hbe⟩
    replace h1 : vld a b = true := by simpa using h1
    rw [h1]
    go_wp2_with fail
    refine (V2.out _).mono ?_
    rintro _ w2 ⟨rfl, hb5⟩
    have hgi2 := (hb5.block _ (Array.getElem?_eq_some_iff.1 hgi1).1).trans hgi1
    have hgj2 := (hb5.block _ (Array.getElem?_eq_some_iff.1 hgj1).1).trans hgj1
    clear j0 j1
    have hbR := bel_trans hbW (bel_trans hb4 hb5)
    by_cases h2 : vld c d = false
    · rw [h2]
      have d2 := (hbR.block _ (Array.getElem?_eq_some_iff.1 q2).1).trans q2
      have d3 := q_heap_set d2 0 (.int .i64 0)
      have d4 := q_heap_set d3 1 (.int .i64 0)
      have f0 := blkC d2 0 rfl
      have z0 := blkF d2 0
      have f1 := blkC d3 1 rfl
      have z1 := blkF d3 1
      have e0 := blkC d4 0 rfl
      have e1 := blkC d4 1 rfl
      have hbe := ((bel_trans hb3 hbR).setCell (p := ⟨w.heap.size + 1 + 1, 0, none⟩) (show w.heap.size ≤ w.heap.size + 1 + 1 by omega) (.int .i64 0)).setCell (p := ⟨w.heap.size + 1 + 1, 1, none⟩) (show w.heap.size ≤ w.heap.size + 1 + 1 by omega) (.int .i64 0)
      clear d2 d3 d4
      go_wp2
      refine bodyPost_ret (v := .tuple #[.agg #[.int .i64 0, .int .i64 0], .bool false, .int .i64 1]) (by simp [results, Tryd.results24, go_sem, e0, e1]) rfl ⟨_, _, by rw [h2, Bool.and_false]; rfl, (fun hx => by rw [h2, Bool.and_false] at hx; cases hx), hbe⟩
    replace h2 : vld c d = true := by simpa using h2
    rw [h2]
    obtain ⟨va, vb, _, _, _⟩ := vld_iff.1 h1
    obtain ⟨vc, vd, _, _, _⟩ := vld_iff.1 h2
    obtain ⟨nx, _, _, _⟩ := maxP_nn ⟨ha, va⟩ ⟨hc', vc⟩
    obtain ⟨ny, _, _, _⟩ := minP_nn ⟨hb, vb⟩ ⟨hd, vd⟩
    have RX := fun ts t W => run_maxF (P := Tryd.prog) ⟨ha, va⟩ ⟨hc', vc⟩ ts t W
    have RN := fun ts t W => run_minF (P := Tryd.prog) ⟨hb, vb⟩ ⟨hd, vd⟩ ts t W
    have V3 : Hid (∀ W, Calls Tryd.prog 21 #[.agg #[.float .f64 (wd (maxP a c)), .float .f64 (wd (minP b d))]] W fun e w' => e = .returned (.bool (vld (maxP a c) (minP b d))) ∧ Below W.heap.size W w') := fun W => ivlValid nx.1 ny.1 W
    have CT : Hid (∀ W, Lays W → Calls Tryd.prog 22 #[.agg #[.float .f64 (wd (maxP a c)), .float .f64 (wd (minP b d))]] W fun e w' => e = .returned (.agg #[.int .i64 (canon (maxP a c)), .int .i64 (canon (minP b d))]) ∧ Below W.heap.size W w') := fun W LW => spanTold nx ny W LW
    have L2 := L.below' (bel_trans hb3 hbR)
    have i0 := blkC hgi2 0 rfl
    have i1 := blkC hgi2 1 rfl
    have j0 := blkC hgj2 0 rfl
    have j1 := blkC hgj2 1 rfl
    go_wp2_with fail
    have hba := bel_alloc w2 (.cells #[.float .f64 (wd (maxP a c)), .float .f64 (wd (minP b d))] 50)
    have hgb : (w2.alloc (.cells #[.float .f64 (wd (maxP a c)), .float .f64 (wd (minP b d))] 50)).heap[w2.heap.size]? = some (.cells #[.float .f64 (wd (maxP a c)), .float .f64 (wd (minP b d))] 50 (0, 0)) := by show (w2.heap.push _)[w2.heap.size]? = _; simp
    generalize w2.alloc (.cells #[.float .f64 (wd (maxP a c)), .float .f64 (wd (minP b d))] 50) = w3 at *
    clear i0 i1 j0 j1 RX RN hst
    refine (V3.out _).mono ?_
    rintro _ w4 ⟨rfl, hb6⟩
    replace hbR := bel_trans hbR (bel_trans hba hb6)
    replace L2 := L.below' (bel_trans hb3 hbR)
    have hgb1 := (hb6.block _ (Array.getElem?_eq_some_iff.1 hgb).1).trans hgb
    by_cases h3 : vld (maxP a c) (minP b d) = false
    · rw [h3]
      have d2 := (hbR.block _ (Array.getElem?_eq_some_iff.1 q2).1).trans q2
      have d3 := q_heap_set d2 0 (.int .i64 0)
      have d4 := q_heap_set d3 1 (.int .i64 0)
      have f0 := blkC d2 0 rfl
      have z0 := blkF d2 0
      have f1 := blkC d3 1 rfl
      have z1 := blkF d3 1
      have e0 := blkC d4 0 rfl
      have e1 := blkC d4 1 rfl
      have hbe := ((bel_trans hb3 hbR).setCell (p := ⟨w.heap.size + 1 + 1, 0, none⟩) (show w.heap.size ≤ w.heap.size + 1 + 1 by omega) (.int .i64 0)).setCell (p := ⟨w.heap.size + 1 + 1, 1, none⟩) (show w.heap.size ≤ w.heap.size + 1 + 1 by omega) (.int .i64 0)
      clear d2 d3 d4
      go_wp2
      refine bodyPost_ret (v := .tuple #[.agg #[.int .i64 0, .int .i64 0], .bool false, .int .i64 0]) (by simp [results, Tryd.results24, go_sem, e0, e1]) rfl ⟨_, _, by rw [h1, h2, h3]; rfl, (fun _ hx => by rw [h3] at hx; cases hx), hbe⟩
    replace h3 : vld (maxP a c) (minP b d) = true := by simpa using h3
    rw [h3]
    have m0 := blkC hgb1 0 rfl
    have m1 := blkC hgb1 1 rfl
    go_wp2_with fail
    refine (CT.out _ L2).mono ?_
    rintro _ w5 ⟨rfl, hb7⟩
    replace hbR := bel_trans hbR hb7
    have d2 := (hbR.block _ (Array.getElem?_eq_some_iff.1 q2).1).trans q2
    have d3 := q_heap_set d2 0 (.int .i64 (canon (maxP a c)))
    have d4 := q_heap_set d3 1 (.int .i64 (canon (minP b d)))
    have f0 := blkC d2 0 rfl
    have z0 := blkF d2 0
    have f1 := blkC d3 1 rfl
    have z1 := blkF d3 1
    have e0 := blkC d4 0 rfl
    have e1 := blkC d4 1 rfl
    have hbe := ((bel_trans hb3 hbR).setCell (p := ⟨w.heap.size + 1 + 1, 0, none⟩) (show w.heap.size ≤ w.heap.size + 1 + 1 by omega) (.int .i64 (canon (maxP a c)))).setCell (p := ⟨w.heap.size + 1 + 1, 1, none⟩) (show w.heap.size ≤ w.heap.size + 1 + 1 by omega) (.int .i64 (canon (minP b d)))
    clear d2 d3 d4
    go_wp2
    refine bodyPost_ret (v := .tuple #[.agg #[.int .i64 (canon (maxP a c)), .int .i64 (canon (minP b d))], .bool true, .int .i64 0]) (by simp [results, Tryd.results24, go_sem, e0, e1]) rfl ⟨_, _, by rw [h1, h2, h3]; rfl, (fun _ _ => ⟨rfl, rfl⟩), hbe⟩
  go_region_held3 (fun W => (w.heap.size < w.heap.size + 3 ∧ w.heap.size + 1 < w.heap.size + 3 ∧ w.heap.size + 3 ≤ W.heap.size) ∧ W.cell? ⟨w.heap.size, 0, none⟩ = some (.int .i64 a) ∧ W.cell? ⟨w.heap.size, 1, none⟩ = some (.int .i64 b) ∧ W.cell? ⟨w.heap.size + 1, 0, none⟩ = some (.int .i64 c) ∧ W.cell? ⟨w.heap.size + 1, 1, none⟩ = some (.int .i64 d))
    (first | assumption | (repeat (first | exact hc | refine s4_drew ?_ | refine s4_alloc _ ?_ | refine s4_set (by first | omega | (simp; omega)) ?_)))
    (first
      | (go_at_call 20; have _t := T1; refine (R2 _).mono ?_; rintro _ _ ⟨rfl, rfl⟩)
      | (go_at_call 20; refine (R1 _).mono ?_; rintro _ _ ⟨rfl, rfl⟩; have T1 : True := trivial))
  all_goals
    refine H _ _ _ ?_ ?_ hl6_b
    all_goals first
      | exact hl6_0 hs rfl
      | exact hl6_1 hs rfl
      | exact hl6_2 hs rfl
      | exact hl6_3 hs rfl
      | exact hl6_4 hs rfl
      | exact hl6_5 hs rfl
end Go.Proofs.YtmpioejllfedoaaDoor

/-
  Package span: Has, by its contract.
-/
namespace Go.Proofs.YtmpioejllfedoaaDoor
open Go Go.RowKit Go.Proofs.YtmpioejllfedoaaDoor.M
set_option linter.unusedSimpArgs false
set_option linter.unusedVariables false

end Go.Proofs.YtmpioejllfedoaaDoor

/-
  Package round: root, by its contract.
-/
namespace Go.Proofs.YtmpioejllfedoaaDoor
open Go Go.RowKit Go.Proofs.YtmpioejllfedoaaDoor.M
set_option linter.unusedSimpArgs false
set_option linter.unusedVariables false

end Go.Proofs.YtmpioejllfedoaaDoor

/-
  Package round: Root, by its contract; and on numbers told by their worth.
-/
namespace Go.Proofs.YtmpioejllfedoaaDoor
open Go Go.RowKit Go.Proofs.YtmpioejllfedoaaDoor.M
set_option linter.unusedSimpArgs false
set_option linter.unusedVariables false

end Go.Proofs.YtmpioejllfedoaaDoor

/-
  Package span: Around, by the least interval around a number; plumblaw8's tight.
-/
namespace Go.Proofs.YtmpioejllfedoaaDoor
open Go Go.RowKit Go.Proofs.YtmpioejllfedoaaDoor.M
set_option linter.unusedSimpArgs false
set_option linter.unusedVariables false

set_option maxRecDepth 100000 in
set_option maxHeartbeats 1000000 in
theorem around_V {w : World} {ng : Bool} {so : Option Addr} {sn sc : Nat} {e V : Int} (h : DNum w (.agg #[.bool ng, .slice so sn sc, .int .i64 e]) V) (ok : Dok V) (H : Hold4 w) :
    ∀ W, Below w.heap.size w W → Calls Tryd.prog 6 #[.agg #[.bool ng, .slice so sn sc, .int .i64 e]] W fun r w' => r = .returned (.tuple #[spn (cLo V) (cHi V), .int .i64 0]) ∧ Below W.heap.size W w' := by
  obtain ⟨x, h1, rfl, rfl, h4⟩ := to_four h ok H
  obtain ⟨r1, r2⟩ := around_c (to_rd h1)
  rw [← r1, ← r2]
  clear r1 r2
  intro W hb
  · have C1 : Hid (∀ W', Below W.heap.size W W' → Calls Tryd.prog 16 #[.agg #[.bool x.ng, .slice so sn sc, .int .i64 e], .int .i64 1] W' fun e w' => e = .returned (.tuple #[.int .i64 (toR 1 x).1, .bool (toR 1 x).2, .int .i64 0]) ∧ Below W'.heap.size W' w') := fun W' hb' => h4 1 W' (by omega) (bel_trans hb hb')
    have C2 : Hid (∀ W', Below W.heap.size W W' → Calls Tryd.prog 16 #[.agg #[.bool x.ng, .slice so sn sc, .int .i64 e], .int .i64 2] W' fun e w' => e = .returned (.tuple #[.int .i64 (toR 2 x).1, .bool (toR 2 x).2, .int .i64 0]) ∧ Below W'.heap.size W' w') := fun W' hb' => h4 2 W' (by omega) (bel_trans hb hb')
    unfold spn
    generalize (toR 1 x).1 = X at *
    generalize (toR 2 x).1 = Y at *
    generalize (toR 1 x).2 = o1 at *
    generalize (toR 2 x).2 = o2 at *
    generalize x.ng = ng at *
    clear h4 h1 h
    have hb2 := bel_alloc2 W (.cells #[.bool ng, .slice so sn sc, .int .i64 e] 26) (.cells #[.int .i64 0, .int .i64 0] 23)
    have p0 := heap_a2 W (.cells #[.bool ng, .slice so sn sc, .int .i64 e] 26) (.cells #[.int .i64 0, .int .i64 0] 23)
    have p1 := heap_b2 W (.cells #[.bool ng, .slice so sn sc, .int .i64 e] 26) (.cells #[.int .i64 0, .int .i64 0] 23)
    go_enter Tryd.func6, Tryd.ntmps6
    go_wp2_with fail
    generalize (W.alloc (.cells #[.bool ng, .slice so sn sc, .int .i64 e] 26)).alloc (.cells #[.int .i64 0, .int .i64 0] 23) = wx at *
    refine (C1.out _ hb2).mono ?_
    rintro _ w1 ⟨rfl, hb3⟩
    have p01 := (hb3.block _ (Array.getElem?_eq_some_iff.1 p0).1).trans p0
    have p11 := (hb3.block _ (Array.getElem?_eq_some_iff.1 p1).1).trans p1
    have c0 := blkC p01 0 rfl
    have c1 := blkC p01 1 rfl
    have c2 := blkC p01 2 rfl
    have hbw := bel_trans hb2 hb3
    go_wp2_with fail
    refine (C2.out _ hbw).mono ?_
    rintro _ w2 ⟨rfl, hb4⟩
    have d2 := (hb4.block _ (Array.getElem?_eq_some_iff.1 p11).1).trans p11
    have d3 := q_heap_set d2 0 (.int .i64 X)
    have d4 := q_heap_set d3 1 (.int .i64 Y)
    have f0 := blkC d2 0 rfl
    have z0 := blkF d2 0
    have f1 := blkC d3 1 rfl
    have z1 := blkF d3 1
    have e0 := blkC d4 0 rfl
    have e1 := blkC d4 1 rfl
    have hbe : Below W.heap.size W ((w2.setCell ⟨W.heap.size + 1, 0, none⟩ (.int .i64 X)).setCell ⟨W.heap.size + 1, 1, none⟩ (.int .i64 Y)) := ((bel_trans hbw hb4).setCell (p := ⟨W.heap.size + 1, 0, none⟩) (Nat.le_succ _) _).setCell (p := ⟨W.heap.size + 1, 1, none⟩) (Nat.le_succ _) _
    clear p0 p1 p01 p11 c0 c1 c2 d2 d3 d4
    go_wp2
    refine bodyPost_ret (v := .tuple #[.agg #[.int .i64 X, .int .i64 Y], .int .i64 0]) (by simp [results, Tryd.results6, go_sem, e0, e1]) rfl ⟨rfl, hbe⟩
end Go.Proofs.YtmpioejllfedoaaDoor

/-
  plumblaw8's within, square, has, by their contracts (tools/s_within.py).
-/
namespace Go.Proofs.YtmpioejllfedoaaDoor
open Go Go.RowKit Go.Proofs.YtmpioejllfedoaaDoor.M
set_option linter.unusedSimpArgs false
set_option linter.unusedVariables false

set_option maxRecDepth 100000 in
set_option maxHeartbeats 4000000 in
theorem within_yes {a b c d : Int} (na : nn a) (nb : nn b) (nc : nn c) (nd : nn d) (ca : canon a = a) (cb : canon b = b) (cc : canon c = c) (cd : canon d = d) (va : vld a b = true) (vc : vld c d = true) (k0 : key c ≤ key a) (k1 : key b ≤ key d) (w : World) (H : Hold4 w) :
    Calls Tryd.prog 10 #[.agg #[.int .i64 a, .int .i64 b], .agg #[.int .i64 c, .int .i64 d]] w fun e w' => e = .returned (.bool true) ∧ Below w.heap.size w w' := by
  obtain ⟨m1, m2, m3, m4⟩ := maxP_nn na nc
  obtain ⟨m5, m6, m7, m8⟩ := minP_nn nb nd
  obtain ⟨m9, n2, n3, n4⟩ := minP_nn na nc
  obtain ⟨n5, n6, n7, n8⟩ := maxP_nn nb nd
  have e1 : canon (maxP a c) = a := (canon_key m1 na (by omega)).trans ca
  have e2 : canon (minP b d) = b := (canon_key m5 nb (by omega)).trans cb
  have e3 : canon (minP a c) = c := (canon_key m9 nc (by omega)).trans cc
  have e4 : canon (maxP b d) = d := (canon_key n5 nd (by omega)).trans cd
  obtain ⟨_, _, v1, v2, v3⟩ := vld_iff.1 va
  have vm : vld (maxP a c) (minP b d) = true := vld_iff.2 ⟨m1.2, m5.2, by omega, by omega, by omega⟩
  have CM : Hid (∀ W, Hold4 W → Calls Tryd.prog 24 #[.agg #[.int .i64 a, .int .i64 b], .agg #[.int .i64 c, .int .i64 d]] W fun e w' => e = .returned (.tuple #[.agg #[.int .i64 a, .int .i64 b], .bool true, .int .i64 0]) ∧ Below W.heap.size W w') := fun W h => by
    refine (spanMeet na.1 nb.1 nc.1 nd.1 W h.env.lays).mono ?_
    rintro _ w' ⟨X, Y, rfl, hXY, hb⟩
    obtain ⟨rfl, rfl⟩ := hXY (by rw [va, vc]; rfl) vm
    rw [va, vc, vm, e1, e2]
    exact ⟨rfl, hb⟩
  have CJ : Hid (∀ W, Hold4 W → Calls Tryd.prog 25 #[.agg #[.int .i64 a, .int .i64 b], .agg #[.int .i64 c, .int .i64 d]] W fun e w' => e = .returned (.tuple #[.agg #[.int .i64 c, .int .i64 d], .int .i64 0]) ∧ Below W.heap.size W w') := fun W h => by
    have := spanJoin na.1 nb.1 nc.1 nd.1 W h.env.lays
    rw [va, vc, e3, e4] at this
    exact this
  clear m1 m2 m3 m4 m5 m6 m7 m8 m9 n2 n3 n4 n5 n6 n7 n8 e1 e2 e3 e4 v1 v2 v3 vm na nb nc nd ca cb cc cd va vc k0 k1
  have hb := bel_refl w
  go_enter Tryd.func10, Tryd.ntmps10
  have s_k := heap_a1 w (.cells #[.int .i64 a, .int .i64 b] 23)
  have H := H.keeps (bel_alloc w (.cells #[.int .i64 a, .int .i64 b] 23))
  have hb := bel_trans hb (bel_alloc w (.cells #[.int .i64 a, .int .i64 b] 23))
  have s_k := heap_past (.cells #[.int .i64 c, .int .i64 d] 23) s_k
  have t_k := heap_b2 w (.cells #[.int .i64 a, .int .i64 b] 23) (.cells #[.int .i64 c, .int .i64 d] 23)
  have H := H.keeps (bel_alloc (w.alloc (.cells #[.int .i64 a, .int .i64 b] 23)) (.cells #[.int .i64 c, .int .i64 d] 23))
  have hb := bel_trans hb (bel_alloc (w.alloc (.cells #[.int .i64 a, .int .i64 b] 23)) (.cells #[.int .i64 c, .int .i64 d] 23))
  have f_s0 := blkC s_k 0 rfl
  have f_s1 := blkC s_k 1 rfl
  have f_t0 := blkC t_k 0 rfl
  have f_t1 := blkC t_k 1 rfl
  go_wp2_with fail
  clear f_s0 f_s1 f_t0 f_t1
  generalize ((w.alloc (.cells #[.int .i64 a, .int .i64 b] 23)).alloc (.cells #[.int .i64 c, .int .i64 d] 23)) = x1 at s_k t_k H hb ⊢
  refine (CM.out _ H).mono ?_
  rintro _ y2 ⟨rfl, hw⟩
  have s_k := blk_up hw s_k
  have t_k := blk_up hw t_k
  have H := H.keeps hw
  have hb := bel_trans hb hw
  have s_k := heap_past (.cells #[.int .i64 a, .int .i64 b] 23) s_k
  have t_k := heap_past (.cells #[.int .i64 a, .int .i64 b] 23) t_k
  have m_k := heap_a1 y2 (.cells #[.int .i64 a, .int .i64 b] 23)
  have H := H.keeps (bel_alloc y2 (.cells #[.int .i64 a, .int .i64 b] 23))
  have hb := bel_trans hb (bel_alloc y2 (.cells #[.int .i64 a, .int .i64 b] 23))
  have f_s0 := blkC s_k 0 rfl
  have f_s1 := blkC s_k 1 rfl
  have f_t0 := blkC t_k 0 rfl
  have f_t1 := blkC t_k 1 rfl
  go_wp2_with fail
  clear f_s0 f_s1 f_t0 f_t1
  generalize (y2.alloc (.cells #[.int .i64 a, .int .i64 b] 23)) = x3 at s_k t_k m_k H hb ⊢
  refine (CJ.out _ H).mono ?_
  rintro _ y4 ⟨rfl, hw⟩
  have s_k := blk_up hw s_k
  have t_k := blk_up hw t_k
  have m_k := blk_up hw m_k
  have H := H.keeps hw
  have hb := bel_trans hb hw
  have s_k := heap_past (.cells #[.int .i64 c, .int .i64 d] 23) s_k
  have t_k := heap_past (.cells #[.int .i64 c, .int .i64 d] 23) t_k
  have m_k := heap_past (.cells #[.int .i64 c, .int .i64 d] 23) m_k
  have j_k := heap_a1 y4 (.cells #[.int .i64 c, .int .i64 d] 23)
  have H := H.keeps (bel_alloc y4 (.cells #[.int .i64 c, .int .i64 d] 23))
  have hb := bel_trans hb (bel_alloc y4 (.cells #[.int .i64 c, .int .i64 d] 23))
  have f_s0 := blkC s_k 0 rfl
  have f_s1 := blkC s_k 1 rfl
  have f_t0 := blkC t_k 0 rfl
  have f_t1 := blkC t_k 1 rfl
  have f_m0 := blkC m_k 0 rfl
  have f_m1 := blkC m_k 1 rfl
  have f_j0 := blkC j_k 0 rfl
  have f_j1 := blkC j_k 1 rfl
  go_wp2_with fail
  clear f_s0 f_s1 f_t0 f_t1 f_m0 f_m1 f_j0 f_j1
  generalize (y4.alloc (.cells #[.int .i64 c, .int .i64 d] 23)) = x5 at s_k t_k m_k j_k H hb ⊢
  go_ret
  exact ⟨rfl, hb⟩
set_option maxRecDepth 100000 in
theorem square_any {a b m0 m1 : Int} (w : World) (H : Hold4 w)
    (CM : Hid (∀ W, Hold4 W → Calls Tryd.prog 8 #[.agg #[.int .i64 a, .int .i64 b], .agg #[.int .i64 a, .int .i64 b]] W fun e w' => e = .returned (.tuple #[.agg #[.int .i64 m0, .int .i64 m1], .int .i64 0]) ∧ Below W.heap.size W w')) :
    Calls Tryd.prog 11 #[.agg #[.int .i64 a, .int .i64 b]] w fun e w' => e = .returned (.agg #[.int .i64 m0, .int .i64 m1]) ∧ Below w.heap.size w w' := by
  have hb := bel_refl w
  go_enter Tryd.func11, Tryd.ntmps11
  have s_k := heap_a1 w (.cells #[.int .i64 a, .int .i64 b] 23)
  have H := H.keeps (bel_alloc w (.cells #[.int .i64 a, .int .i64 b] 23))
  have hb := bel_trans hb (bel_alloc w (.cells #[.int .i64 a, .int .i64 b] 23))
  have s_k := heap_past (.cells #[.int .i64 0, .int .i64 0] 23) s_k
  have r_k := heap_b2 w (.cells #[.int .i64 a, .int .i64 b] 23) (.cells #[.int .i64 0, .int .i64 0] 23)
  have H := H.keeps (bel_alloc (w.alloc (.cells #[.int .i64 a, .int .i64 b] 23)) (.cells #[.int .i64 0, .int .i64 0] 23))
  have hb := bel_trans hb (bel_alloc (w.alloc (.cells #[.int .i64 a, .int .i64 b] 23)) (.cells #[.int .i64 0, .int .i64 0] 23))
  have f_s0 := blkC s_k 0 rfl
  have f_s1 := blkC s_k 1 rfl
  go_wp2_with fail
  clear f_s0 f_s1
  generalize ((w.alloc (.cells #[.int .i64 a, .int .i64 b] 23)).alloc (.cells #[.int .i64 0, .int .i64 0] 23)) = x1 at s_k r_k H hb ⊢
  refine (CM.out _ H).mono ?_
  rintro _ y2 ⟨rfl, hw⟩
  have s_k := blk_up hw s_k
  have r_k := blk_up hw r_k
  have H := H.keeps hw
  have hb := bel_trans hb hw
  have m_k := heap_a1 y2 (.cells #[.int .i64 m0, .int .i64 m1] 23)
  have r_k := heap_past (.cells #[.int .i64 m0, .int .i64 m1] 23) r_k
  have hb := bel_trans hb (bel_alloc y2 (.cells #[.int .i64 m0, .int .i64 m1] 23))
  have f0 := blkC m_k 0 rfl
  have f1 := blkC m_k 1 rfl
  have d3 := q_heap_set r_k 0 (.int .i64 m0)
  have d4 := q_heap_set d3 1 (.int .i64 m1)
  have r0 := blkC r_k 0 rfl
  have z0 := blkF r_k 0
  have r1 := blkC d3 1 rfl
  have z1 := blkF d3 1
  have e0 := blkC d4 0 rfl
  have e1 := blkC d4 1 rfl
  have hbe := (hb.setCell (p := ⟨w.heap.size + 1, 0, none⟩) (show w.heap.size ≤ w.heap.size + 1 by omega) (.int .i64 m0)).setCell (p := ⟨w.heap.size + 1, 1, none⟩) (show w.heap.size ≤ w.heap.size + 1 by omega) (.int .i64 m1)
  clear d3 d4 s_k
  go_wp2
  refine bodyPost_ret (v := .agg #[.int .i64 m0, .int .i64 m1]) (by simp [results, Tryd.results11, go_sem, e0, e1]) rfl ⟨rfl, hbe⟩
end Go.Proofs.YtmpioejllfedoaaDoor

/-
  Ends rounded outward lie around their numbers; intervals that hold a number. Plain mathematics.
-/
namespace Go.Proofs.YtmpioejllfedoaaDoor
open Go Go.RowKit Go.Proofs.YtmpioejllfedoaaDoor.M
set_option linter.unusedSimpArgs false
set_option linter.unusedVariables false

theorem le_sgF {x y : Int} (h : x ≤ y) : (⟨0, sg false x⟩ : En).le ⟨0, sg false y⟩ := .inr ⟨rfl, h⟩
theorem le_sgT {x y : Int} (h : y ≤ x) : (⟨0, sg true x⟩ : En).le ⟨0, sg true y⟩ := .inr ⟨rfl, Int.neg_le_neg h⟩
theorem le_up (x : Int) : (⟨0, x⟩ : En).le ⟨1, 0⟩ := .inl (by show (0 : Int) < 1; decide)
theorem le_dn (x : Int) : (⟨-1, 0⟩ : En).le ⟨0, x⟩ := .inl (by show (-1 : Int) < 0; decide)
theorem of_pat (g : Bool) {r : Nat} (h : (r : Int) < 9218868437227405312) : eOf (patS (g && decide (0 < (r : Int))) (r : Int)) = ⟨0, sg g (vS r)⟩ := by
  obtain ⟨a, b, c⟩ := patS_parts (ng := g && decide (0 < (r : Int))) (r := (r : Int)) (by omega) (by omega)
  rw [of_fin (by rw [b]; omega)]
  refine En.eq rfl ?_
  show patV _ = sg g (vS r)
  rw [patV_dec a ((pok_rg a).2 (by rw [b]; exact h)), b, c, Int.toNat_natCast]
  by_cases h0 : 0 < r
  · rw [decide_eq_true (by omega), Bool.and_true]
  · have : r = 0 := by omega
    subst this
    rw [vS_zero]
    cases g <;> rfl
theorem of_patI (g : Bool) : eOf (patS (g && decide ((0 : Int) < 9218868437227405312)) 9218868437227405312) = ⟨if g then -1 else 1, 0⟩ := by
  cases g
  · rw [of_inf (by decide)]; rfl
  · rw [of_inf (by decide)]; rfl
theorem vS_mono {r s : Nat} (h : r ≤ s) : vS r ≤ vS s := by
  rcases Nat.lt_or_eq_of_le h with g | g
  · exact Int.le_of_lt (vS_lt g)
  · rw [g]; exact Int.le_refl _
theorem b_low : bRung 1 false = 9218868437227405311 ∧ bRung 1 true = 9218868437227405312 ∧ bRung 2 false = 9218868437227405312 ∧ bRung 2 true = 9218868437227405311 := ⟨by decide, by decide, by decide, by decide⟩
theorem rTo_high {ng : Bool} {r0 : Nat} {left : Int} (way : Int) (h : ¬ (r0 : Int) < 9218868437227405312) : rTo way ng r0 left = bRung way ng := by
  unfold rTo; rw [if_neg h]
/-- The rung that the way down (up) takes for a size A with a sign: its end lies below (above) the number. -/
theorem low_end {g : Bool} {A : Int} {r0 : Nat} {left : Int} (hR : Rung A r0 left) :
    (eOf (patS (g && decide (0 < rTo 1 g r0 left)) (rTo 1 g r0 left))).le ⟨0, sg g A⟩ ∧ (⟨0, sg g A⟩ : En).le (eOf (patS (g && decide (0 < rTo 2 g r0 left)) (rTo 2 g r0 left))) := by
  obtain ⟨h1, h2, h3⟩ := And.intro hR.lo (And.intro hR.hi hR.l0)
  obtain ⟨b1, b2, b3, b4⟩ := b_low
  by_cases hr : (r0 : Int) < 9218868437227405312
  · obtain ⟨u1, u2, u3, u4, u5⟩ := rUp_dn (decide (r0 % 2 = 1)) left
    rw [rTo_low 1 hr, rTo_low 2 hr]
    by_cases hl : left = 0
    · have hA := h3.1 hl
      rw [u5 1 g hl, u5 2 g hl, hA]
      simp only [Bool.false_eq_true, if_false, Int.add_zero]
      rw [of_pat g hr]
      exact ⟨En.le_refl _, En.le_refl _⟩
    · have hup : ∀ s : Bool, (eOf (patS (s && decide (0 < (r0 : Int) + 1)) ((r0 : Int) + 1))) = if (r0 : Int) + 1 < 9218868437227405312 then ⟨0, sg s (vS (r0 + 1))⟩ else ⟨if s then -1 else 1, 0⟩ := fun s => by
        by_cases q : (r0 : Int) + 1 < 9218868437227405312
        · rw [if_pos q]
          have := of_pat s (r := r0 + 1) (by omega)
          rw [Int.natCast_add] at this
          exact this
        · rw [if_neg q]
          have e : (r0 : Int) + 1 = 9218868437227405312 := by omega
          rw [e]
          exact of_patI s
      cases g
      · rw [u1, u4 hl]
        simp only [Bool.false_eq_true, if_false, if_true, Int.add_zero]
        rw [of_pat false hr, hup false]
        refine ⟨le_sgF h1, ?_⟩
        split
        · exact le_sgF (Int.le_of_lt h2)
        · exact le_up _
      · rw [u2 hl, u3]
        simp only [Bool.false_eq_true, if_false, if_true, Int.add_zero]
        rw [of_pat true hr, hup true]
        refine ⟨?_, le_sgT h1⟩
        split
        · exact le_sgT (Int.le_of_lt h2)
        · exact le_dn _
  · rw [rTo_high 1 hr, rTo_high 2 hr]
    have hm := of_pat g (r := 9218868437227405311) (by decide)
    have hv : vS 9218868437227405311 ≤ A := Int.le_trans (vS_mono (by omega)) h1
    have hm' : eOf (patS (g && decide ((0 : Int) < 9218868437227405311)) 9218868437227405311) = ⟨0, sg g (vS 9218868437227405311)⟩ := hm
    clear hm
    generalize vS 9218868437227405311 = X at hm' hv
    cases g
    · rw [b1, b3, hm', of_patI false]
      exact ⟨le_sgF hv, le_up _⟩
    · rw [b2, b4, hm', of_patI true]
      exact ⟨le_dn _, le_sgT hv⟩
theorem of_zero : eOf 0 = ⟨0, 0⟩ := by rw [of_fin (by decide), patV_zero.1]
theorem c_btw (V : Int) : (eOf (cLo V)).le ⟨0, V⟩ ∧ (⟨0, V⟩ : En).le (eOf (cHi V)) := by
  by_cases h0 : V = 0
  · subst h0
    rw [c_zero.1, c_zero.2, of_zero]
    exact ⟨En.le_refl _, En.le_refl _⟩
  · obtain ⟨g, A, r0, left, e, hA, hR, c1, c2⟩ := c_rung h0
    rw [c1, c2, e]
    exact low_end hR
theorem le_of {p q : Int} (hp : nn p) (hq : nn q) (h : (eOf p).le (eOf q)) : key p ≤ key q := by
  have := (e_mono h).1
  rw [(e_of hp).1, (e_of hq).1, (key_canon hp).1, (key_canon hq).1] at this
  exact this
theorem c_le (V : Int) : key (cLo V) ≤ key (cHi V) := le_of (c_nn V).1 (c_nn V).2 ((c_btw V).1.le_trans (c_btw V).2)
theorem e_le (a : En) : key (eLo a) ≤ key (eHi a) := by
  unfold eLo eHi
  split
  · exact Int.le_refl _
  · split
    · exact Int.le_refl _
    · exact c_le _
theorem c_fin (V : Int) : key (cLo V) < 9218868437227405312 ∧ -9218868437227405312 < key (cHi V) := by
  obtain ⟨h1, h2⟩ := c_btw V
  have n1 := (c_nn V).1
  have n2 := (c_nn V).2
  have i1 := of_le nn_inf.1 n1
  have i2 := of_le n2 nn_inf.2
  rw [key_infs.1] at i1
  rw [key_infs.2] at i2
  rw [of_inf (show rg 9218868437227405312 = 9218868437227405312 by decide)] at i1
  rw [of_inf (show rg (-4503599627370496) = 9218868437227405312 by decide)] at i2
  constructor
  · refine Int.lt_of_not_ge fun q => ?_
    have := (i1 q).le_trans h1
    unfold En.le at this
    simp at this
  · refine Int.lt_of_not_ge fun q => ?_
    have := h2.le_trans (i2 q)
    unfold En.le at this
    simp at this
theorem e_vld {e f : En} (h : e.le f) (h1 : e.i ≤ 0) (h2 : 0 ≤ f.i) : vld (eLo e) (eHi f) = true := by
  have n1 := (e_nn e).1
  have n2 := (e_nn f).2
  refine vld_iff.2 ⟨n1.2, n2.2, Int.le_trans (e_mono h).1 (e_le f), ?_, ?_⟩
  · unfold eLo
    rw [if_neg (by omega)]
    split
    · decide
    · exact (c_fin _).1
  · unfold eHi
    split
    · decide
    · rw [if_neg (by omega)]
      exact (c_fin _).2
/-- An interval that holds a number. -/
structure Holds (e f : En) (V : Int) : Prop where
  lo : e.le ⟨0, V⟩
  hi : (⟨0, V⟩ : En).le f
theorem Holds.vld {e f : En} {V : Int} (h : Holds e f V) : vld (eLo e) (eHi f) = true := by
  refine e_vld (h.lo.le_trans h.hi) ?_ ?_
  · have := h.lo; unfold En.le at this; simp at this; omega
  · have := h.hi; unfold En.le at this; simp at this; omega
theorem Holds.keys {e f : En} {V : Int} (h : Holds e f V) : key (eLo e) ≤ key (cLo V) ∧ key (cHi V) ≤ key (eHi f) := by
  have h1 := (e_mono h.lo).1
  have h2 := (e_mono h.hi).2
  unfold eLo at h1 ⊢
  unfold eHi at h2 ⊢
  exact ⟨h1, h2⟩
theorem plus_fin {a c : En} (ha : a.i = 0) (hc : c.i = 0) : ePlus a c = ⟨0, a.v + c.v⟩ := by
  unfold ePlus; rw [if_neg (fun k => k ha), if_neg (fun k => k hc)]
theorem plus_l {a c : En} (ha : a.i ≠ 0) : ePlus a c = a := if_pos ha
theorem plus_r {a c : En} (ha : a.i = 0) (hc : c.i ≠ 0) : ePlus a c = c := by
  unfold ePlus; rw [if_neg (fun k => k ha), if_pos hc]
theorem Holds.plus {a b c d : En} {x y : Int} (h : Holds a b x) (k : Holds c d y) : Holds (ePlus a c) (ePlus b d) (x + y) := by
  have h1 := h.lo
  have h2 := h.hi
  have k1 := k.lo
  have k2 := k.hi
  unfold En.le at h1 h2 k1 k2
  simp only at h1 h2 k1 k2
  constructor
  · by_cases ia : a.i = 0
    · by_cases ic : c.i = 0
      · rw [plus_fin ia ic]; exact .inr ⟨rfl, by show a.v + c.v ≤ x + y; omega⟩
      · rw [plus_r ia ic]; exact .inl (by show c.i < 0; omega)
    · rw [plus_l ia]; exact .inl (by show a.i < 0; omega)
  · by_cases ib : b.i = 0
    · by_cases id : d.i = 0
      · rw [plus_fin ib id]; exact .inr ⟨rfl, by show x + y ≤ b.v + d.v; omega⟩
      · rw [plus_r ib id]; exact .inl (by show 0 < d.i; omega)
    · rw [plus_l ib]; exact .inl (by show 0 < b.i; omega)
theorem Holds.neg {a b : En} {x : Int} (h : Holds a b x) : Holds (eNeg b) (eNeg a) (-x) := by
  have h1 := h.lo
  have h2 := h.hi
  unfold En.le at h1 h2
  simp only at h1 h2
  constructor
  · unfold eNeg En.le; simp only; omega
  · unfold eNeg En.le; simp only; omega
theorem Holds.times {a b c d : En} {x y : Int} (ha : a.ok) (hb : b.ok) (hc : c.ok) (hd : d.ok) (h : Holds a b x) (k : Holds c d y) : Holds (eTmLo a b c d) (eTmHi a b c d) (mulS x y) := by
  have := tm_btw ha hb hc hd (.inl rfl) (.inl rfl) h.lo h.hi k.lo k.hi
  rw [times_fin rfl rfl] at this
  exact ⟨this.1, this.2⟩
theorem Holds.square {a b : En} {x : Int} (ha : a.ok) (hb : b.ok) (h : Holds a b x) : Holds (eSqLo a b) (eSqHi a b) (mulS x x) := by
  have := sq_btw ha hb (.inl rfl) h.lo h.hi
  rw [times_fin rfl rfl] at this
  exact ⟨this.1, this.2⟩
theorem Holds.of {lo hi b : Int} (hl : nn lo) (hh : nn hi) (hb : nn b) (pb : pok b = true) (h : key lo ≤ key b) (k : key b ≤ key hi) : Holds (eOf lo) (eOf hi) (patV b) := by
  have hf : ¬ rg b = 9218868437227405312 := by have := (pok_rg hb.1).1 pb; omega
  have h1 := of_le hl hb h
  have h2 := of_le hb hh k
  rw [of_fin hf] at h1 h2
  exact ⟨h1, h2⟩
theorem Holds.vldP {lo hi : Int} {V : Int} (hl : nn lo) (hh : nn hi) (h : Holds (eOf lo) (eOf hi) V) : M.vld lo hi = true := by
  have hv := h.vld
  rw [(e_of hl).1, (e_of hh).2] at hv
  obtain ⟨v1, v2, v3, v4, v5⟩ := vld_iff.1 hv
  rw [(key_canon hl).1] at v3 v4
  rw [(key_canon hh).1] at v3 v5
  exact vld_iff.2 ⟨hl.2, hh.2, v3, v4, v5⟩
/-- A single number's interval. -/
theorem min_self (a : En) : eMin a a = a := by unfold eMin; split <;> rfl
theorem max_self (a : En) : eMax a a = a := by unfold eMax; split <;> rfl
theorem tm_self (a c : En) : eTmLo a a c c = eTimes a c ∧ eTmHi a a c c = eTimes a c := by
  unfold eTmLo eTmHi
  rw [min_self, min_self, min_self, max_self, max_self, max_self]
  exact ⟨rfl, rfl⟩
theorem sq_self {a : En} (h : a.ok) : eSqLo a a = eTimes a a ∧ eSqHi a a = eTimes a a := by
  unfold eSqLo eSqHi
  rw [min_self, max_self]
  refine ⟨?_, rfl⟩
  split
  · rename_i s
    have h0 : eSg a = 0 := by omega
    unfold eTimes
    rw [h0, Int.zero_mul, if_pos rfl]
  · rfl
theorem of_canon {p : Int} (h : nn p) : eOf (canon p) = eOf p := by
  by_cases h0 : cls p = 0
  · have hz := (cls_rg h.1).2.1 h0
    have hc : canon p = 0 := by unfold canon; rw [if_neg h.2, if_pos h0]
    rw [hc, of_zero, of_fin (by omega)]
    rcases rg_zero h.1 hz with rfl | rfl
    · rw [patV_zero.1]
    · rw [patV_zero.2]
  · have hc : canon p = p := by unfold canon; rw [if_neg h.2, if_neg h0]
    rw [hc]
theorem of_c {b : Int} (hb : rng b) (pb : pok b = true) : eOf (cLo (patV b)) = ⟨0, patV b⟩ ∧ eOf (cHi (patV b)) = ⟨0, patV b⟩ := by
  have nb : nn b := ⟨hb, pok_clsF hb pb⟩
  have hf : ¬ rg b = 9218868437227405312 := by have := (pok_rg hb).1 pb; omega
  obtain ⟨e1, e2⟩ := e_of nb
  rw [of_fin hf] at e1 e2
  have e1' : cLo (patV b) = canon b := e1
  have e2' : cHi (patV b) = canon b := e2
  rw [e1', e2', of_canon nb, of_fin hf]
  exact ⟨rfl, rfl⟩
end Go.Proofs.YtmpioejllfedoaaDoor

/-
  plumblaw8's alive: span.Add and Sign at constants.
-/
namespace Go.Proofs.YtmpioejllfedoaaDoor
open Go Go.RowKit Go.Proofs.YtmpioejllfedoaaDoor.M
set_option linter.unusedSimpArgs false
set_option linter.unusedVariables false

theorem abs1 (W : World) : Calls Tryd.prog 50 #[.float .f64 4607182418800017408] W fun e w' => e = .returned (.float .f64 4607182418800017408) ∧ w' = W := by
  have := mathAbs (b := 4607182418800017408) (by unfold rng; omega) W
  rw [show wd 4607182418800017408 = 4607182418800017408 by decide, show rg 4607182418800017408 = 4607182418800017408 by decide, show wd 4607182418800017408 = 4607182418800017408 by decide] at this
  exact this
theorem abs2 (W : World) : Calls Tryd.prog 50 #[.float .f64 4611686018427387904] W fun e w' => e = .returned (.float .f64 4611686018427387904) ∧ w' = W := by
  have := mathAbs (b := 4611686018427387904) (by unfold rng; omega) W
  rw [show wd 4611686018427387904 = 4611686018427387904 by decide, show rg 4611686018427387904 = 4611686018427387904 by decide, show wd 4611686018427387904 = 4611686018427387904 by decide] at this
  exact this
set_option maxRecDepth 100000 in
theorem sum11 (w : World) :
    Calls Tryd.prog 33 #[.float .f64 4607182418800017408, .float .f64 4607182418800017408] w fun e w' => e = .returned (.agg #[.float .f64 4611686018427387904, .float .f64 4611686018427387904]) ∧ w' = (w.alloc (.cells #[.float .f64 4611686018427387904, .float .f64 4611686018427387904] 50)).alloc (.cells #[.float .f64 4611686018427387904, .float .f64 4611686018427387904] 50) := by
  have hst : ∀ (p : Addr) (n : Nat) (m : Mode) (w : World), (store p (.float .f64 n) m).run Tryd.prog w = stored Tryd.prog w p (.float .f64 n) m := fun p n m w => run_store _ w p _ m rfl
  have o : FloatKind.f64.format.order 4607182418800017408 4607182418800017408 = some .eq := by decide +kernel
  have h1 : ∀ w : World, (binOp .add 48 (.float .f64 4607182418800017408) (.float .f64 4607182418800017408)).run Tryd.prog w = .ok (.float .f64 4611686018427387904) w := fun w => by kernel_rfl
  have h2 : ∀ w : World, (binOp .sub 48 (.float .f64 4611686018427387904) (.float .f64 4607182418800017408)).run Tryd.prog w = .ok (.float .f64 4607182418800017408) w := fun w => by kernel_rfl
  have h3 : ∀ w : World, (binOp .sub 48 (.float .f64 4607182418800017408) (.float .f64 4607182418800017408)).run Tryd.prog w = .ok (.float .f64 0) w := fun w => by kernel_rfl
  have hg := hl_last (w.alloc (.cells #[.float .f64 4611686018427387904, .float .f64 4611686018427387904] 50)) (.cells #[.float .f64 4611686018427387904, .float .f64 4611686018427387904] 50) rfl
  have hg0 : ((w.alloc (.cells #[.float .f64 4611686018427387904, .float .f64 4611686018427387904] 50)).alloc (.cells #[.float .f64 4611686018427387904, .float .f64 4611686018427387904] 50)).heap[w.heap.size]? = some (.cells #[.float .f64 4611686018427387904, .float .f64 4611686018427387904] 50 (0, 0)) := heap_a2 w _ _
  have e0 := blkC hg0 0 rfl
  have e1 := blkC hg0 1 rfl
  go_enter Tryd.func33, Tryd.ntmps33
  go_wp2_with (first | (go_at_call 50; refine (abs1 _).mono ?_; rintro _ _ ⟨rfl, rfl⟩)  | (go_at_call 51; refine (besideZ _ _).mono ?_; rintro _ _ ⟨rfl, rfl⟩))
  refine bodyPost_ret (v := .agg #[.float .f64 4611686018427387904, .float .f64 4611686018427387904]) (by simp [results, Tryd.results33, go_sem, e0, e1]) rfl ⟨rfl, rfl⟩
set_option maxRecDepth 100000 in
theorem sum12 (w : World) :
    Calls Tryd.prog 33 #[.float .f64 4607182418800017408, .float .f64 4611686018427387904] w fun e w' => e = .returned (.agg #[.float .f64 4613937818241073152, .float .f64 4613937818241073152]) ∧ w' = (w.alloc (.cells #[.float .f64 4613937818241073152, .float .f64 4613937818241073152] 50)).alloc (.cells #[.float .f64 4613937818241073152, .float .f64 4613937818241073152] 50) := by
  have hst : ∀ (p : Addr) (n : Nat) (m : Mode) (w : World), (store p (.float .f64 n) m).run Tryd.prog w = stored Tryd.prog w p (.float .f64 n) m := fun p n m w => run_store _ w p _ m rfl
  have o : FloatKind.f64.format.order 4607182418800017408 4611686018427387904 = some .lt := by decide +kernel
  have h1 : ∀ w : World, (binOp .add 48 (.float .f64 4611686018427387904) (.float .f64 4607182418800017408)).run Tryd.prog w = .ok (.float .f64 4613937818241073152) w := fun w => by kernel_rfl
  have h2 : ∀ w : World, (binOp .sub 48 (.float .f64 4613937818241073152) (.float .f64 4611686018427387904)).run Tryd.prog w = .ok (.float .f64 4607182418800017408) w := fun w => by kernel_rfl
  have h3 : ∀ w : World, (binOp .sub 48 (.float .f64 4607182418800017408) (.float .f64 4607182418800017408)).run Tryd.prog w = .ok (.float .f64 0) w := fun w => by kernel_rfl
  have hg := hl_last (w.alloc (.cells #[.float .f64 4613937818241073152, .float .f64 4613937818241073152] 50)) (.cells #[.float .f64 4613937818241073152, .float .f64 4613937818241073152] 50) rfl
  have hg0 : ((w.alloc (.cells #[.float .f64 4613937818241073152, .float .f64 4613937818241073152] 50)).alloc (.cells #[.float .f64 4613937818241073152, .float .f64 4613937818241073152] 50)).heap[w.heap.size]? = some (.cells #[.float .f64 4613937818241073152, .float .f64 4613937818241073152] 50 (0, 0)) := heap_a2 w _ _
  have e0 := blkC hg0 0 rfl
  have e1 := blkC hg0 1 rfl
  go_enter Tryd.func33, Tryd.ntmps33
  go_wp2_with (first | (go_at_call 50; refine (abs1 _).mono ?_; rintro _ _ ⟨rfl, rfl⟩) | (go_at_call 50; refine (abs2 _).mono ?_; rintro _ _ ⟨rfl, rfl⟩)  | (go_at_call 51; refine (besideZ _ _).mono ?_; rintro _ _ ⟨rfl, rfl⟩))
  refine bodyPost_ret (v := .agg #[.float .f64 4613937818241073152, .float .f64 4613937818241073152]) (by simp [results, Tryd.results33, go_sem, e0, e1]) rfl ⟨rfl, rfl⟩
set_option maxRecDepth 100000 in
set_option maxHeartbeats 1000000 in
theorem plusC (w : World) :
    Calls Tryd.prog 18 #[.agg #[.float .f64 4607182418800017408, .float .f64 4607182418800017408], .agg #[.float .f64 4607182418800017408, .float .f64 4611686018427387904]] w fun e w' => e = .returned (.agg #[.float .f64 4611686018427387904, .float .f64 4613937818241073152]) ∧ Below w.heap.size w w' := by
  have hst : ∀ (p : Addr) (n : Nat) (m : Mode) (w : World), (store p (.float .f64 n) m).run Tryd.prog w = stored Tryd.prog w p (.float .f64 n) m := fun p n m w => run_store _ w p _ m rfl
  obtain ⟨q0, q1, q2, hs, hb3⟩ := heap3 w (.cells #[.float .f64 4607182418800017408, .float .f64 4607182418800017408] 50) (.cells #[.float .f64 4607182418800017408, .float .f64 4611686018427387904] 50) (.cells #[.float .f64 0, .float .f64 0] 50)
  have k0 := blkC q0 0 rfl
  have k1 := blkC q0 1 rfl
  have k2 := blkC q1 0 rfl
  have k3 := blkC q1 1 rfl
  have S1 : Hid (∀ W, Calls Tryd.prog 33 #[.float .f64 4607182418800017408, .float .f64 4607182418800017408] W fun e w' => e = .returned (.agg #[.float .f64 4611686018427387904, .float .f64 4611686018427387904]) ∧ Below W.heap.size W w') := fun W => (sum11 W).mono fun _ _ ⟨h1, h2⟩ => ⟨h1, by rw [h2]; exact bel_alloc2 W _ _⟩
  have S2 : Hid (∀ W, Calls Tryd.prog 33 #[.float .f64 4607182418800017408, .float .f64 4611686018427387904] W fun e w' => e = .returned (.agg #[.float .f64 4613937818241073152, .float .f64 4613937818241073152]) ∧ Below W.heap.size W w') := fun W => (sum12 W).mono fun _ _ ⟨h1, h2⟩ => ⟨h1, by rw [h2]; exact bel_alloc2 W _ _⟩
  go_enter Tryd.func18, Tryd.ntmps18
  go_wp2_with fail
  generalize ((w.alloc (.cells #[.float .f64 4607182418800017408, .float .f64 4607182418800017408] 50)).alloc (.cells #[.float .f64 4607182418800017408, .float .f64 4611686018427387904] 50)).alloc (.cells #[.float .f64 0, .float .f64 0] 50) = wx at *
  obtain ⟨g, hg⟩ : ∃ g, w.heap.size + 1 + 1 = g := ⟨_, rfl⟩
  have hwg : w.heap.size + 2 ≤ g := by omega
  replace q2 : wx.drew.heap[g]? = some (.cells #[.float .f64 0, .float .f64 0] 50 (0, 0)) := by rw [← hg]; exact q2
  simp only [hg]
  clear hg hst
  have hc : (w.heap.size < w.heap.size + 2 ∧ w.heap.size + 1 < w.heap.size + 2 ∧ w.heap.size + 2 ≤ wx.drew.heap.size) ∧ wx.drew.cell? ⟨w.heap.size, 0, none⟩ = some (.float .f64 4607182418800017408) ∧ wx.drew.cell? ⟨w.heap.size, 1, none⟩ = some (.float .f64 4607182418800017408) ∧ wx.drew.cell? ⟨w.heap.size + 1, 0, none⟩ = some (.float .f64 4607182418800017408) ∧ wx.drew.cell? ⟨w.heap.size + 1, 1, none⟩ = some (.float .f64 4611686018427387904) := ⟨⟨by omega, by omega, by show _ ≤ wx.heap.size; omega⟩, k0, k1, k2, k3⟩
  have hbd := hb3.drew
  have fl0 : ∀ w : World, (Instr.field 50 (.agg #[.float .f64 4611686018427387904, .float .f64 4611686018427387904]) 0).run Tryd.prog w = .ok (.float .f64 4611686018427387904) w := fun w => by kernel_rfl
  have fl1 : ∀ w : World, (Instr.field 50 (.agg #[.float .f64 4613937818241073152, .float .f64 4613937818241073152]) 1).run Tryd.prog w = .ok (.float .f64 4613937818241073152) w := fun w => by kernel_rfl
  clear q0 q1 k0 k1 k2 k3
  go_region_held3 (fun W => (w.heap.size < w.heap.size + 2 ∧ w.heap.size + 1 < w.heap.size + 2 ∧ w.heap.size + 2 ≤ W.heap.size) ∧ W.cell? ⟨w.heap.size, 0, none⟩ = some (.float .f64 4607182418800017408) ∧ W.cell? ⟨w.heap.size, 1, none⟩ = some (.float .f64 4607182418800017408) ∧ W.cell? ⟨w.heap.size + 1, 0, none⟩ = some (.float .f64 4607182418800017408) ∧ W.cell? ⟨w.heap.size + 1, 1, none⟩ = some (.float .f64 4611686018427387904))
    (first | assumption | (repeat (first | exact hc | exact hc1 | exact hc2 | refine s4_drew ?_ | refine s4_set (by omega) ?_)))
    (first
      | (go_at_call 33; have _t := hb4; refine (S2.out _).mono ?_; rintro _ w2 ⟨rfl, hb5⟩; have hc2 := s4_keep hc1 hb5; have d2 := ((bel_trans hb4 hb5).block _ (Array.getElem?_eq_some_iff.1 q2).1).trans q2; have d3 := q_heap_set d2 0 (.float .f64 4611686018427387904); have d4 := q_heap_set d3 1 (.float .f64 4613937818241073152); have f0 := blkC d2 0 rfl; have z0 := blkF d2 0; have f1 := blkC d3 1 rfl; have z1 := blkF d3 1; have s0 : (store ⟨g, 0, none⟩ (.float .f64 4611686018427387904)).run Tryd.prog w2 = .ok () (w2.setCell ⟨g, 0, none⟩ (.float .f64 4611686018427387904)) := (by rw [run_store _ _ _ _ _ rfl, f0]; simp only [z0]; rfl); have s1 : (store ⟨g, 1, none⟩ (.float .f64 4613937818241073152)).run Tryd.prog (w2.setCell ⟨g, 0, none⟩ (.float .f64 4611686018427387904)) = .ok () ((w2.setCell ⟨g, 0, none⟩ (.float .f64 4611686018427387904)).setCell ⟨g, 1, none⟩ (.float .f64 4613937818241073152)) := (by rw [run_store _ _ _ _ _ rfl, f1]; simp only [z1]; rfl))
      | (go_at_call 33; refine (S1.out _).mono ?_; rintro _ w1 ⟨rfl, hb4⟩; have hc1 := s4_keep hc hb4))
  have e0 := blkC d4 0 rfl
  have e1 := blkC d4 1 rfl
  have hbe := ((bel_trans hbd (bel_trans hb4 hb5)).setCell (p := ⟨g, 0, none⟩) (show w.heap.size ≤ g by omega) (.float .f64 4611686018427387904)).setCell (p := ⟨g, 1, none⟩) (show w.heap.size ≤ g by omega) (.float .f64 4613937818241073152)
  clear d2 d3 d4 f0 f1 z0 z1 s0 s1 hc hc1 hc2
  generalize (w2.setCell ⟨g, 0, none⟩ (.float .f64 4611686018427387904)).setCell ⟨g, 1, none⟩ (.float .f64 4613937818241073152) = wy at *
  go_wp2
  refine bodyPost_ret (v := .agg #[.float .f64 4611686018427387904, .float .f64 4613937818241073152]) (by simp [results, Tryd.results18, go_sem, e0, e1]) rfl ⟨rfl, hbe⟩
set_option maxRecDepth 100000 in
theorem addC (w : World) (L : Lays w) :
    Calls Tryd.prog 7 #[.agg #[.int .i64 4607182418800017408, .int .i64 4607182418800017408], .agg #[.int .i64 4607182418800017408, .int .i64 4611686018427387904]] w fun e w' => e = .returned (.tuple #[.agg #[.int .i64 4611686018427387904, .int .i64 4613937818241073152], .int .i64 0]) ∧ Below w.heap.size w w' := by
  have w1 : wd 4607182418800017408 = 4607182418800017408 := by decide
  have w2 : wd 4611686018427387904 = 4611686018427387904 := by decide
  have w3 : wd 4613937818241073152 = 4613937818241073152 := by decide
  have r1 : rng 4607182418800017408 := by unfold rng; omega
  have r2 : rng 4611686018427387904 := by unfold rng; omega
  have r3 : rng 4613937818241073152 := by unfold rng; omega
  have hE : ∀ (cap : Array Value) (w : World), (callFunc 18 cap).run Tryd.prog w = .ok (.enter 18 cap) w := by
    intro cap w
    simp [go_sem]
  have CJ : Hid (∀ W, Lays W → Calls Tryd.prog 17 #[.agg #[.int .i64 4607182418800017408, .int .i64 4607182418800017408], .agg #[.int .i64 4607182418800017408, .int .i64 4611686018427387904], .func (.func 18) #[] #[]] W fun e w' => e = .returned (.tuple #[.agg #[.int .i64 4611686018427387904, .int .i64 4613937818241073152], .int .i64 0]) ∧ Below W.heap.size W w') := fun W LW => by
    have := ofTwo_any (x := 4611686018427387904) (y := 4613937818241073152) _ r1 r1 r1 r2 W LW hE (fun _ _ => ⟨⟨r2, by decide⟩, ⟨r3, by decide⟩, fun W' _ => by
      unfold ivl
      rw [w1, w2, w3]
      exact plusC W'⟩)
    rw [show vld 4607182418800017408 4607182418800017408 = true by decide, show vld 4607182418800017408 4611686018427387904 = true by decide, show canon 4611686018427387904 = 4611686018427387904 by decide, show canon 4613937818241073152 = 4613937818241073152 by decide] at this
    exact this
  obtain ⟨q0, q1, q2, hs, hb3⟩ := heap3 w (.cells #[.int .i64 4607182418800017408, .int .i64 4607182418800017408] 23) (.cells #[.int .i64 4607182418800017408, .int .i64 4611686018427387904] 23) (.cells #[.int .i64 0, .int .i64 0] 23)
  have L2 := L.below' hb3
  clear w1 w2 w3 r1 r2 r3
  go_enter Tryd.func7, Tryd.ntmps7
  go_wp2_with fail
  generalize ((w.alloc (.cells #[.int .i64 4607182418800017408, .int .i64 4607182418800017408] 23)).alloc (.cells #[.int .i64 4607182418800017408, .int .i64 4611686018427387904] 23)).alloc (.cells #[.int .i64 0, .int .i64 0] 23) = wx at *
  refine (CJ.out _ L2).mono ?_
  rintro _ w1 ⟨rfl, hb4⟩
  have d2 := (hb4.block _ (Array.getElem?_eq_some_iff.1 q2).1).trans q2
  have d3 := q_heap_set d2 0 (.int .i64 4611686018427387904)
  have d4 := q_heap_set d3 1 (.int .i64 4613937818241073152)
  have f0 := blkC d2 0 rfl
  have z0 := blkF d2 0
  have f1 := blkC d3 1 rfl
  have z1 := blkF d3 1
  have e0 := blkC d4 0 rfl
  have e1 := blkC d4 1 rfl
  have hbe := ((bel_trans hb3 hb4).setCell (p := ⟨w.heap.size + 1 + 1, 0, none⟩) (show w.heap.size ≤ w.heap.size + 1 + 1 by omega) (.int .i64 4611686018427387904)).setCell (p := ⟨w.heap.size + 1 + 1, 1, none⟩) (show w.heap.size ≤ w.heap.size + 1 + 1 by omega) (.int .i64 4613937818241073152)
  clear d2 d3 d4 q0 q1 q2
  go_wp2
  refine bodyPost_ret (v := .tuple #[.agg #[.int .i64 4611686018427387904, .int .i64 4613937818241073152], .int .i64 0]) (by simp [results, Tryd.results7, go_sem, e0, e1]) rfl ⟨rfl, hbe⟩
set_option maxRecDepth 100000 in
theorem signC (w : World) :
    Calls Tryd.prog 15 #[.agg #[.int .i64 4611686018427387904, .int .i64 4613937818241073152]] w fun e w' => e = .returned (.tuple #[.int .i64 1, .bool true, .int .i64 0]) ∧ Below w.heap.size w w' := by
  have hst : ∀ (p : Addr) (n : Nat) (m : Mode) (w : World), (store p (.float .f64 n) m).run Tryd.prog w = stored Tryd.prog w p (.float .f64 n) m := fun p n m w => run_store _ w p _ m rfl
  have w2 : wd 4611686018427387904 = 4611686018427387904 := by decide
  have w3 : wd 4613937818241073152 = 4613937818241073152 := by decide
  have r2 : rng 4611686018427387904 := by unfold rng; omega
  have r3 : rng 4613937818241073152 := by unfold rng; omega
  have o : FloatKind.f64.format.order 4611686018427387904 0 = some .gt := by decide +kernel
  have R1 : Hid (∀ W, Calls Tryd.prog 20 #[.agg #[.int .i64 4611686018427387904, .int .i64 4613937818241073152]] W fun e w' => e = .returned (.agg #[.float .f64 4611686018427387904, .float .f64 4613937818241073152]) ∧ Below W.heap.size W w') := fun W => by
    have := spanRead 4611686018427387904 4613937818241073152 W
    unfold spn ivl at this
    rw [w2, w3] at this
    exact this
  have V1 : Hid (∀ W, Calls Tryd.prog 21 #[.agg #[.float .f64 4611686018427387904, .float .f64 4613937818241073152]] W fun e w' => e = .returned (.bool true) ∧ Below W.heap.size W w') := fun W => by
    have := ivlValid r2 r3 W
    unfold ivl at this
    rw [w2, w3, show vld 4611686018427387904 4613937818241073152 = true by decide] at this
    exact this
  have hb := bel_alloc w (.cells #[.int .i64 4611686018427387904, .int .i64 4613937818241073152] 23)
  go_enter Tryd.func15, Tryd.ntmps15
  go_wp2_with fail
  generalize w.alloc (.cells #[.int .i64 4611686018427387904, .int .i64 4613937818241073152] 23) = wx at *
  refine (R1.out _).mono ?_
  rintro _ w1 ⟨rfl, hb1⟩
  have hba := bel_alloc w1 (.cells #[.float .f64 4611686018427387904, .float .f64 4613937818241073152] 50)
  have hg := hl_last w1 (.cells #[.float .f64 4611686018427387904, .float .f64 4613937818241073152] 50) rfl
  go_wp2_with fail
  generalize w1.alloc (.cells #[.float .f64 4611686018427387904, .float .f64 4613937818241073152] 50) = w2 at *
  refine (V1.out _).mono ?_
  rintro _ w3 ⟨rfl, hb2⟩
  have hg3 := (hb2.block _ (Array.getElem?_eq_some_iff.1 hg).1).trans hg
  have c0 := blkC hg3 0 rfl
  have c1 := blkC hg3 1 rfl
  go_wp2
  refine bodyPost_ret (v := .tuple #[.int .i64 1, .bool true, .int .i64 0]) (by simp [results, Tryd.results15, go_sem]) rfl ⟨rfl, bel_trans hb (bel_trans hb1 (bel_trans hba hb2))⟩
end Go.Proofs.YtmpioejllfedoaaDoor

/-
  Package span: Sign on any interval, by its contract.
-/
namespace Go.Proofs.YtmpioejllfedoaaDoor
open Go Go.RowKit Go.Proofs.YtmpioejllfedoaaDoor.M
set_option linter.unusedSimpArgs false
set_option linter.unusedVariables false

end Go.Proofs.YtmpioejllfedoaaDoor

/-
  What the laws SpanHolds and SpanLess want of span's calls: each answer holds the number; plumblaw8's has, by its contract (tools/s_lw.py).
-/
namespace Go.Proofs.YtmpioejllfedoaaDoor
open Go Go.RowKit Go.Proofs.YtmpioejllfedoaaDoor.M
set_option linter.unusedSimpArgs false
set_option linter.unusedVariables false

/-- An interval in its own form that holds a number. -/
structure Okk (c d V : Int) : Prop where
  lo : nn c
  hi : nn d
  cl : canon c = c
  ch : canon d = d
  ok : vld c d = true
  kl : key c ≤ key (cLo V)
  kh : key (cHi V) ≤ key d
theorem Holds.okk {e f : En} {V : Int} (h : Holds e f V) : Okk (eLo e) (eHi f) V :=
  ⟨(e_nn e).1, (e_nn f).2, (e_canon e).1, (e_canon f).2, h.vld, h.keys.1, h.keys.2⟩
/-- Two ends that hold a number. -/
structure Pin2 (s t x : Int) : Prop where
  lo : nn s
  hi : nn t
  h : Holds (eOf s) (eOf t) x
theorem Pin2.v {s t x : Int} (h : Pin2 s t x) : vld s t = true := h.h.vldP h.lo h.hi
theorem Pin2.of {lo hi b : Int} (rb : rng b) (pb : pok b = true) (h1 : nn lo ∧ key lo ≤ key b) (h2 : nn hi ∧ key b ≤ key hi) : Pin2 lo hi (patV b) :=
  ⟨h1.1, h2.1, Holds.of h1.1 h2.1 ⟨rb, pok_clsF rb pb⟩ pb h1.2 h2.2⟩
theorem add_has {a b c d x y : Int} (s : Pin2 a b x) (t : Pin2 c d y) : ∃ p q : Int, Hid (∀ W, Hold4 W → Calls Tryd.prog 7 #[.agg #[.int .i64 a, .int .i64 b], .agg #[.int .i64 c, .int .i64 d]] W fun e w' => e = .returned (.tuple #[.agg #[.int .i64 p, .int .i64 q], .int .i64 0]) ∧ Below W.heap.size W w') ∧ Okk p q (x + y) := by
  refine ⟨_, _, fun W h => ?_, (s.h.plus t.h).okk⟩
  have := spanAddE s.lo.1 s.hi.1 t.lo.1 t.hi.1 W h
  rw [s.v, t.v] at this
  exact this
theorem mul_has {a b c d x y : Int} (s : Pin2 a b x) (t : Pin2 c d y) : ∃ p q : Int, Hid (∀ W, Hold4 W → Calls Tryd.prog 8 #[.agg #[.int .i64 a, .int .i64 b], .agg #[.int .i64 c, .int .i64 d]] W fun e w' => e = .returned (.tuple #[.agg #[.int .i64 p, .int .i64 q], .int .i64 0]) ∧ Below W.heap.size W w') ∧ Okk p q (mulS x y) := by
  refine ⟨_, _, fun W h => ?_, (s.h.times (eOf_ok _) (eOf_ok _) (eOf_ok _) (eOf_ok _) t.h).okk⟩
  have := spanMulE s.lo.1 s.hi.1 t.lo.1 t.hi.1 W h
  rw [s.v, t.v] at this
  exact this
theorem sq_has {a b x : Int} (s : Pin2 a b x) : ∃ p q : Int, Hid (∀ W, Hold4 W → Calls Tryd.prog 9 #[.agg #[.int .i64 a, .int .i64 b]] W fun e w' => e = .returned (.tuple #[.agg #[.int .i64 p, .int .i64 q], .int .i64 0]) ∧ Below W.heap.size W w') ∧ Okk p q (mulS x x) := by
  refine ⟨_, _, fun W h => ?_, (s.h.square (eOf_ok _) (eOf_ok _)).okk⟩
  have := spanSquareE s.lo.1 s.hi.1 W h
  rw [s.v] at this
  exact this
/-- Single floats' intervals. -/
theorem at_two {b : Int} (rb : rng b) (pb : pok b = true) : Pin2 (cLo (patV b)) (cHi (patV b)) (patV b) := by
  refine ⟨(c_nn _).1, (c_nn _).2, ?_⟩
  rw [(of_c rb pb).1, (of_c rb pb).2]
  exact ⟨En.le_refl _, En.le_refl _⟩
theorem e_fin (V : Int) : eLo ⟨0, V⟩ = cLo V ∧ eHi ⟨0, V⟩ = cHi V := ⟨rfl, rfl⟩
theorem add_at {a b : Int} (ra : rng a) (rb : rng b) (pa : pok a = true) (pb : pok b = true) : Hid (∀ W, Hold4 W → Calls Tryd.prog 7 #[.agg #[.int .i64 (cLo (patV a)), .int .i64 (cHi (patV a))], .agg #[.int .i64 (cLo (patV b)), .int .i64 (cHi (patV b))]] W fun e w' => e = .returned (.tuple #[.agg #[.int .i64 (cLo (patV a + patV b)), .int .i64 (cHi (patV a + patV b))], .int .i64 0]) ∧ Below W.heap.size W w') := fun W h => by
  have s := at_two ra pa
  have t := at_two rb pb
  have := spanAddE s.lo.1 s.hi.1 t.lo.1 t.hi.1 W h
  rw [s.v, t.v, (of_c ra pa).1, (of_c ra pa).2, (of_c rb pb).1, (of_c rb pb).2, plus_fin rfl rfl, (e_fin _).1, (e_fin _).2] at this
  exact this
theorem mul_at {a b : Int} (ra : rng a) (rb : rng b) (pa : pok a = true) (pb : pok b = true) : Hid (∀ W, Hold4 W → Calls Tryd.prog 8 #[.agg #[.int .i64 (cLo (patV a)), .int .i64 (cHi (patV a))], .agg #[.int .i64 (cLo (patV b)), .int .i64 (cHi (patV b))]] W fun e w' => e = .returned (.tuple #[.agg #[.int .i64 (cLo (mulS (patV a) (patV b))), .int .i64 (cHi (mulS (patV a) (patV b)))], .int .i64 0]) ∧ Below W.heap.size W w') := fun W h => by
  have s := at_two ra pa
  have t := at_two rb pb
  have := spanMulE s.lo.1 s.hi.1 t.lo.1 t.hi.1 W h
  rw [s.v, t.v, (of_c ra pa).1, (of_c ra pa).2, (of_c rb pb).1, (of_c rb pb).2, (tm_self _ _).1, (tm_self _ _).2, times_fin rfl rfl, (e_fin _).1, (e_fin _).2] at this
  exact this
theorem sq_at {a : Int} (ra : rng a) (pa : pok a = true) : Hid (∀ W, Hold4 W → Calls Tryd.prog 9 #[.agg #[.int .i64 (cLo (patV a)), .int .i64 (cHi (patV a))]] W fun e w' => e = .returned (.tuple #[.agg #[.int .i64 (cLo (mulS (patV a) (patV a))), .int .i64 (cHi (mulS (patV a) (patV a)))], .int .i64 0]) ∧ Below W.heap.size W w') := fun W h => by
  have s := at_two ra pa
  have := spanSquareE s.lo.1 s.hi.1 W h
  rw [s.v, (of_c ra pa).1, (of_c ra pa).2, (sq_self (.inl rfl)).1, (sq_self (.inl rfl)).2, times_fin rfl rfl, (e_fin _).1, (e_fin _).2] at this
  exact this
theorem at_okk (V : Int) : Okk (cLo V) (cHi V) V := (Holds.mk (En.le_refl _) (En.le_refl _) : Holds ⟨0, V⟩ ⟨0, V⟩ V).okk
end Go.Proofs.YtmpioejllfedoaaDoor
