/-
  Package span: Add, Sub, Neg, Square on any intervals, told by their exact ends (tools/s_ops4.py).
-/
import Derived.Test.YtcpjdgfnblkfpaaGreatDoorSOps3
import Derived.Test.YtcpjdgfnblkfpaaGreatDoorSSq2
namespace Go.Proofs.YtcpjdgfnblkfpaaGreatDoor
open Go Go.RowKit Go.Proofs.YtcpjdgfnblkfpaaGreatDoor.M
set_option linter.unusedSimpArgs false
set_option linter.unusedVariables false

theorem vld_lo {a b : Int} (ha : rng a) (hb : rng b) (h : vld a b = true) : nn a ∧ nn b ∧ (rg a = 9218868437227405312 → a < 0) ∧ (rg b = 9218868437227405312 → ¬ b < 0) ∧ key a ≤ key b := by
  obtain ⟨va, vb, h1, h2, h3⟩ := vld_iff.1 h
  refine ⟨⟨ha, va⟩, ⟨hb, vb⟩, fun q => ?_, fun q k => ?_, h1⟩
  · rw [key_rg ha] at h2
    split at h2
    · assumption
    · omega
  · rw [key_rg hb, if_pos k] at h3
    omega
theorem no_lo {a c : Int} (h : rg a = 9218868437227405312 → a < 0) (k : rg c = 9218868437227405312 → c < 0) : ¬ (rg a = 9218868437227405312 ∧ rg c = 9218868437227405312 ∧ decide (a < 0) ≠ decide (c < 0)) := by
  rintro ⟨h1, h2, h3⟩
  exact h3 (by rw [decide_eq_true (h h1), decide_eq_true (k h2)])
theorem no_hi {a c : Int} (h : rg a = 9218868437227405312 → ¬ a < 0) (k : rg c = 9218868437227405312 → ¬ c < 0) : ¬ (rg a = 9218868437227405312 ∧ rg c = 9218868437227405312 ∧ decide (a < 0) ≠ decide (c < 0)) := by
  rintro ⟨h1, h2, h3⟩
  exact h3 (by rw [decide_eq_false (h h1), decide_eq_false (k h2)])
theorem neg_sides {p : Int} (hp : nn p) : (rg (neg p) = 9218868437227405312 ↔ rg p = 9218868437227405312) ∧ (neg p < 0 ↔ ¬ p < 0) := by
  obtain ⟨g1, g2⟩ := su_neg hp
  refine ⟨by rw [g1], ?_⟩
  by_cases a : neg p < 0 <;> by_cases b : p < 0 <;> simp [a, b] at g2 ⊢
theorem two_eq {ok : Bool} {v v' : Value} (h : ok = true → v = v') : twoV ok v = twoV ok v' := by
  cases ok
  · rfl
  · rw [h rfl]
set_option maxRecDepth 100000 in
theorem spanAddE {a b c d : Int} (ha : rng a) (hb : rng b) (hc : rng c) (hd : rng d) (w : World) (H : Hold4 w) :
    Calls Tryz.prog 37 #[spn a b, spn c d] w fun e w' => e = .returned (.tuple #[twoV (vld a b && vld c d) (spn (eLo (ePlus (eOf a) (eOf c))) (eHi (ePlus (eOf b) (eOf d)))), .int .i64 (errA (vld a b && vld c d))]) ∧ Below w.heap.size w w' := by
  have hE : ∀ (cap : Array Value) (w : World), (callFunc 59 cap).run Tryz.prog w = .ok (.enter 59 cap) w := by
    intro cap w
    simp [go_sem]
  have CJ : Hid (∀ W, Hold4 W → Calls Tryz.prog 58 #[spn a b, spn c d, .func (.func 59) #[] #[]] W fun e w' => e = .returned (.tuple #[twoV (vld a b && vld c d) (spn (eLo (ePlus (eOf a) (eOf c))) (eHi (ePlus (eOf b) (eOf d)))), .int .i64 (errA (vld a b && vld c d))]) ∧ Below W.heap.size W w') := fun W LW => by
    have := ofTwo_H 59 (x := beLo (suN a c) (suL a c)) (y := beHi (suN b d) (suL b d)) ha hb hc hd W LW hE (fun h1 h2 => by
      obtain ⟨na, nb, a1, b1, _⟩ := vld_lo ha hb h1
      obtain ⟨nc, nd, c1, d1, _⟩ := vld_lo hc hd h2
      have p1 := plus_e na nc (no_lo a1 c1)
      have p2 := plus_e nb nd (no_hi b1 d1)
      exact ⟨(be_nn p1.1).1, (be_nn p2.1).2, fun W' _ => plus_any W' (fun W'' => spanSum na nc p1.1 W'') (fun W'' => spanSum nb nd p2.1 W'')⟩)
    rw [two_eq (v' := spn (eLo (ePlus (eOf a) (eOf c))) (eHi (ePlus (eOf b) (eOf d))))] at this
    · exact this
    · intro hok
      rw [Bool.and_eq_true] at hok
      obtain ⟨na, nb, a1, b1, _⟩ := vld_lo ha hb hok.1
      obtain ⟨nc, nd, c1, d1, _⟩ := vld_lo hc hd hok.2
      rw [(plus_e na nc (no_lo a1 c1)).2.1, (plus_e nb nd (no_hi b1 d1)).2.2]
  have hx : ∃ X Y, twoV (vld a b && vld c d) (spn (eLo (ePlus (eOf a) (eOf c))) (eHi (ePlus (eOf b) (eOf d)))) = .agg #[.int .i64 X, .int .i64 Y] := by
    unfold twoV spn; split
    · exact ⟨_, _, rfl⟩
    · exact ⟨_, _, rfl⟩
  obtain ⟨X, Y, hXY⟩ := hx
  rw [hXY] at CJ ⊢
  clear hXY
  unfold spn at *
  generalize errA (vld a b && vld c d) = E at *
  obtain ⟨q0, q1, q2, hs, hb3⟩ := heap3 w (.cells #[.int .i64 a, .int .i64 b] 55) (.cells #[.int .i64 c, .int .i64 d] 55) (.cells #[.int .i64 0, .int .i64 0] 55)
  have L2 := H.keeps hb3
  go_enter Tryz.func37, Tryz.ntmps37
  go_wp2_with fail
  generalize ((w.alloc (.cells #[.int .i64 a, .int .i64 b] 55)).alloc (.cells #[.int .i64 c, .int .i64 d] 55)).alloc (.cells #[.int .i64 0, .int .i64 0] 55) = wx at *
  refine (CJ.out _ L2).mono ?_
  rintro _ w1 ⟨rfl, hb4⟩
  have d2 := (hb4.block _ (Array.getElem?_eq_some_iff.1 q2).1).trans q2
  have d3 := q_heap_set d2 0 (.int .i64 X)
  have d4 := q_heap_set d3 1 (.int .i64 Y)
  have f0 := blkC d2 0 rfl
  have z0 := blkF d2 0
  have f1 := blkC d3 1 rfl
  have z1 := blkF d3 1
  have e0 := blkC d4 0 rfl
  have e1 := blkC d4 1 rfl
  have hbe := ((bel_trans hb3 hb4).setCell (p := ⟨w.heap.size + 1 + 1, 0, none⟩) (show w.heap.size ≤ w.heap.size + 1 + 1 by omega) (.int .i64 X)).setCell (p := ⟨w.heap.size + 1 + 1, 1, none⟩) (show w.heap.size ≤ w.heap.size + 1 + 1 by omega) (.int .i64 Y)
  clear d2 d3 d4 q0 q1 q2
  go_wp2
  refine bodyPost_ret (v := .tuple #[.agg #[.int .i64 X, .int .i64 Y], .int .i64 E]) (by simp [results, Tryz.results37, go_sem, e0, e1]) rfl ⟨rfl, hbe⟩
set_option maxRecDepth 100000 in
theorem spanSubE {a b c d : Int} (ha : rng a) (hb : rng b) (hc : rng c) (hd : rng d) (w : World) (H : Hold4 w) :
    Calls Tryz.prog 38 #[spn a b, spn c d] w fun e w' => e = .returned (.tuple #[twoV (vld a b && vld c d) (spn (eLo (ePlus (eOf a) (eNeg (eOf d)))) (eHi (ePlus (eOf b) (eNeg (eOf c))))), .int .i64 (errA (vld a b && vld c d))]) ∧ Below w.heap.size w w' := by
  have hE : ∀ (cap : Array Value) (w : World), (callFunc 60 cap).run Tryz.prog w = .ok (.enter 60 cap) w := by
    intro cap w
    simp [go_sem]
  have CJ : Hid (∀ W, Hold4 W → Calls Tryz.prog 58 #[spn a b, spn c d, .func (.func 60) #[] #[]] W fun e w' => e = .returned (.tuple #[twoV (vld a b && vld c d) (spn (eLo (ePlus (eOf a) (eNeg (eOf d)))) (eHi (ePlus (eOf b) (eNeg (eOf c))))), .int .i64 (errA (vld a b && vld c d))]) ∧ Below W.heap.size W w') := fun W LW => by
    have := ofTwo_H 60 (x := beLo (suN a (neg d)) (suL a (neg d))) (y := beHi (suN b (neg c)) (suL b (neg c))) ha hb hc hd W LW hE (fun h1 h2 => by
      obtain ⟨na, nb, a1, b1, _⟩ := vld_lo ha hb h1
      obtain ⟨nc, nd, c1, d1, _⟩ := vld_lo hc hd h2
      obtain ⟨g1, g2⟩ := neg_sides nc
      obtain ⟨g3, g4⟩ := neg_sides nd
      have p1 := plus_e na (nn_neg nd).1 (no_lo a1 (fun q => g4.2 (d1 (g3.1 q))))
      have p2 := plus_e nb (nn_neg nc).1 (no_hi b1 (fun q k => (g2.1 k) (c1 (g1.1 q))))
      exact ⟨(be_nn p1.1).1, (be_nn p2.1).2, fun W' _ => minus_any W' (fun W'' => ivlTurned nc nd W'') (fun W'' => plus_any W'' (fun W3 => spanSum na (nn_neg nd).1 p1.1 W3) (fun W3 => spanSum nb (nn_neg nc).1 p2.1 W3))⟩)
    rw [two_eq (v' := spn (eLo (ePlus (eOf a) (eNeg (eOf d)))) (eHi (ePlus (eOf b) (eNeg (eOf c)))))] at this
    · exact this
    · intro hok
      rw [Bool.and_eq_true] at hok
      obtain ⟨na, nb, a1, b1, _⟩ := vld_lo ha hb hok.1
      obtain ⟨nc, nd, c1, d1, _⟩ := vld_lo hc hd hok.2
      obtain ⟨g1, g2⟩ := neg_sides nc
      obtain ⟨g3, g4⟩ := neg_sides nd
      rw [(plus_e na (nn_neg nd).1 (no_lo a1 (fun q => g4.2 (d1 (g3.1 q))))).2.1, (plus_e nb (nn_neg nc).1 (no_hi b1 (fun q k => (g2.1 k) (c1 (g1.1 q))))).2.2, of_neg nd, of_neg nc]
  have hx : ∃ X Y, twoV (vld a b && vld c d) (spn (eLo (ePlus (eOf a) (eNeg (eOf d)))) (eHi (ePlus (eOf b) (eNeg (eOf c))))) = .agg #[.int .i64 X, .int .i64 Y] := by
    unfold twoV spn; split
    · exact ⟨_, _, rfl⟩
    · exact ⟨_, _, rfl⟩
  obtain ⟨X, Y, hXY⟩ := hx
  rw [hXY] at CJ ⊢
  clear hXY
  unfold spn at *
  generalize errA (vld a b && vld c d) = E at *
  obtain ⟨q0, q1, q2, hs, hb3⟩ := heap3 w (.cells #[.int .i64 a, .int .i64 b] 55) (.cells #[.int .i64 c, .int .i64 d] 55) (.cells #[.int .i64 0, .int .i64 0] 55)
  have L2 := H.keeps hb3
  go_enter Tryz.func38, Tryz.ntmps38
  go_wp2_with fail
  generalize ((w.alloc (.cells #[.int .i64 a, .int .i64 b] 55)).alloc (.cells #[.int .i64 c, .int .i64 d] 55)).alloc (.cells #[.int .i64 0, .int .i64 0] 55) = wx at *
  refine (CJ.out _ L2).mono ?_
  rintro _ w1 ⟨rfl, hb4⟩
  have d2 := (hb4.block _ (Array.getElem?_eq_some_iff.1 q2).1).trans q2
  have d3 := q_heap_set d2 0 (.int .i64 X)
  have d4 := q_heap_set d3 1 (.int .i64 Y)
  have f0 := blkC d2 0 rfl
  have z0 := blkF d2 0
  have f1 := blkC d3 1 rfl
  have z1 := blkF d3 1
  have e0 := blkC d4 0 rfl
  have e1 := blkC d4 1 rfl
  have hbe := ((bel_trans hb3 hb4).setCell (p := ⟨w.heap.size + 1 + 1, 0, none⟩) (show w.heap.size ≤ w.heap.size + 1 + 1 by omega) (.int .i64 X)).setCell (p := ⟨w.heap.size + 1 + 1, 1, none⟩) (show w.heap.size ≤ w.heap.size + 1 + 1 by omega) (.int .i64 Y)
  clear d2 d3 d4 q0 q1 q2
  go_wp2
  refine bodyPost_ret (v := .tuple #[.agg #[.int .i64 X, .int .i64 Y], .int .i64 E]) (by simp [results, Tryz.results38, go_sem, e0, e1]) rfl ⟨rfl, hbe⟩
theorem spanMulE {a b c d : Int} (ha : rng a) (hb : rng b) (hc : rng c) (hd : rng d) (w : World) (H : Hold4 w) :
    Calls Tryz.prog 39 #[spn a b, spn c d] w fun e w' => e = .returned (.tuple #[twoV (vld a b && vld c d) (spn (eLo (eTmLo (eOf a) (eOf b) (eOf c) (eOf d))) (eHi (eTmHi (eOf a) (eOf b) (eOf c) (eOf d)))), .int .i64 (errA (vld a b && vld c d))]) ∧ Below w.heap.size w w' := by
  have := spanMulH ha hb hc hd w H
  rw [two_eq (v' := spn (eLo (eTmLo (eOf a) (eOf b) (eOf c) (eOf d))) (eHi (eTmHi (eOf a) (eOf b) (eOf c) (eOf d))))] at this
  · exact this
  · intro hok
    rw [Bool.and_eq_true] at hok
    obtain ⟨na, nb, _⟩ := vld_lo ha hb hok.1
    obtain ⟨nc, nd, _⟩ := vld_lo hc hd hok.2
    rw [(tm_e na nb nc nd).1, (tm_e na nb nc nd).2]
end Go.Proofs.YtcpjdgfnblkfpaaGreatDoor
