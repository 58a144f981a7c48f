/-
  Parts of the proof, one behind another.
-/
import Derived.Test.YtmpioejllfedoaaGreatDoorPart17
import Derived.Test.YtmpioejllfedoaaGreatDoorPart6
import Derived.Test.YtmpioejllfedoaaGreatDoorPart9
import Derived.Test.YtmpioejllfedoaaGreatDoorPart12
import Derived.Test.YtmpioejllfedoaaGreatDoorPart14
import Derived.Test.YtmpioejllfedoaaGreatDoorPart15
import Derived.Test.YtmpioejllfedoaaGreatDoorPart7
import Derived.Test.YtmpioejllfedoaaGreatDoorPart8
import Derived.Test.YtmpioejllfedoaaGreatDoorPart13
import Derived.Maps.AppendAt
import Derived.Laws.AppendOwnNone
/-
  Package span: Add, Sub, Neg, Square on any intervals, told by their exact ends (tools/s_ops4.py).
-/
namespace Go.Proofs.YtmpioejllfedoaaGreatDoor
open Go Go.RowKit Go.Proofs.YtmpioejllfedoaaGreatDoor.M
set_option linter.unusedSimpArgs false
set_option linter.unusedVariables false

theorem vld_lo {a b : Int} (ha : rng a) (hb : rng b) (h : vld a b = true) : nn a ∧ nn b ∧ (rg a = 9218868437227405312 → a < 0) ∧ (rg b = 9218868437227405312 → ¬ b < 0) ∧ key a ≤ key b := by
  obtain ⟨va, vb, h1, h2, h3⟩ := vld_iff.1 h
  refine ⟨⟨ha, va⟩, ⟨hb, vb⟩, fun q => ?_, fun q k => ?_, h1⟩
  · rw [key_rg ha] at h2
    split at h2
    · assumption
    · omega
  · rw [key_rg hb, if_pos k] at h3
    omega
theorem no_lo {a c : Int} (h : rg a = 9218868437227405312 → a < 0) (k : rg c = 9218868437227405312 → c < 0) : ¬ (rg a = 9218868437227405312 ∧ rg c = 9218868437227405312 ∧ decide (a < 0) ≠ decide (c < 0)) := by
  rintro ⟨h1, h2, h3⟩
  exact h3 (by rw [decide_eq_true (h h1), decide_eq_true (k h2)])
theorem no_hi {a c : Int} (h : rg a = 9218868437227405312 → ¬ a < 0) (k : rg c = 9218868437227405312 → ¬ c < 0) : ¬ (rg a = 9218868437227405312 ∧ rg c = 9218868437227405312 ∧ decide (a < 0) ≠ decide (c < 0)) := by
  rintro ⟨h1, h2, h3⟩
  exact h3 (by rw [decide_eq_false (h h1), decide_eq_false (k h2)])
theorem neg_sides {p : Int} (hp : nn p) : (rg (neg p) = 9218868437227405312 ↔ rg p = 9218868437227405312) ∧ (neg p < 0 ↔ ¬ p < 0) := by
  obtain ⟨g1, g2⟩ := su_neg hp
  refine ⟨by rw [g1], ?_⟩
  by_cases a : neg p < 0 <;> by_cases b : p < 0 <;> simp [a, b] at g2 ⊢
theorem two_eq {ok : Bool} {v v' : Value} (h : ok = true → v = v') : twoV ok v = twoV ok v' := by
  cases ok
  · rfl
  · rw [h rfl]
set_option maxRecDepth 100000 in
theorem spanAddE {a b c d : Int} (ha : rng a) (hb : rng b) (hc : rng c) (hd : rng d) (w : World) (H : Hold4 w) :
    Calls Tryz.prog 11 #[spn a b, spn c d] w fun e w' => e = .returned (.tuple #[twoV (vld a b && vld c d) (spn (eLo (ePlus (eOf a) (eOf c))) (eHi (ePlus (eOf b) (eOf d)))), .int .i64 (errA (vld a b && vld c d))]) ∧ Below w.heap.size w w' := by
  have hE : ∀ (cap : Array Value) (w : World), (callFunc 35 cap).run Tryz.prog w = .ok (.enter 35 cap) w := by
    intro cap w
    simp [go_sem]
  have CJ : Hid (∀ W, Hold4 W → Calls Tryz.prog 34 #[spn a b, spn c d, .func (.func 35) #[] #[]] W fun e w' => e = .returned (.tuple #[twoV (vld a b && vld c d) (spn (eLo (ePlus (eOf a) (eOf c))) (eHi (ePlus (eOf b) (eOf d)))), .int .i64 (errA (vld a b && vld c d))]) ∧ Below W.heap.size W w') := fun W LW => by
    have := ofTwo_H 35 (x := beLo (suN a c) (suL a c)) (y := beHi (suN b d) (suL b d)) ha hb hc hd W LW hE (fun h1 h2 => by
      obtain ⟨na, nb, a1, b1, _⟩ := vld_lo ha hb h1
      obtain ⟨nc, nd, c1, d1, _⟩ := vld_lo hc hd h2
      have p1 := plus_e na nc (no_lo a1 c1)
      have p2 := plus_e nb nd (no_hi b1 d1)
      exact ⟨(be_nn p1.1).1, (be_nn p2.1).2, fun W' _ => plus_any W' (fun W'' => spanSum na nc p1.1 W'') (fun W'' => spanSum nb nd p2.1 W'')⟩)
    rw [two_eq (v' := spn (eLo (ePlus (eOf a) (eOf c))) (eHi (ePlus (eOf b) (eOf d))))] at this
    · exact this
    · intro hok
      rw [Bool.and_eq_true] at hok
      obtain ⟨na, nb, a1, b1, _⟩ := vld_lo ha hb hok.1
      obtain ⟨nc, nd, c1, d1, _⟩ := vld_lo hc hd hok.2
      rw [(plus_e na nc (no_lo a1 c1)).2.1, (plus_e nb nd (no_hi b1 d1)).2.2]
  have hx : ∃ X Y, twoV (vld a b && vld c d) (spn (eLo (ePlus (eOf a) (eOf c))) (eHi (ePlus (eOf b) (eOf d)))) = .agg #[.int .i64 X, .int .i64 Y] := by
    unfold twoV spn; split
    · exact ⟨_, _, rfl⟩
    · exact ⟨_, _, rfl⟩
  obtain ⟨X, Y, hXY⟩ := hx
  rw [hXY] at CJ ⊢
  clear hXY
  unfold spn at *
  generalize errA (vld a b && vld c d) = E at *
  obtain ⟨q0, q1, q2, hs, hb3⟩ := heap3 w (.cells #[.int .i64 a, .int .i64 b] 23) (.cells #[.int .i64 c, .int .i64 d] 23) (.cells #[.int .i64 0, .int .i64 0] 23)
  have L2 := H.keeps hb3
  go_enter Tryz.func11, Tryz.ntmps11
  go_wp2_with fail
  generalize ((w.alloc (.cells #[.int .i64 a, .int .i64 b] 23)).alloc (.cells #[.int .i64 c, .int .i64 d] 23)).alloc (.cells #[.int .i64 0, .int .i64 0] 23) = wx at *
  refine (CJ.out _ L2).mono ?_
  rintro _ w1 ⟨rfl, hb4⟩
  have d2 := (hb4.block _ (Array.getElem?_eq_some_iff.1 q2).1).trans q2
  have d3 := q_heap_set d2 0 (.int .i64 X)
  have d4 := q_heap_set d3 1 (.int .i64 Y)
  have f0 := blkC d2 0 rfl
  have z0 := blkF d2 0
  have f1 := blkC d3 1 rfl
  have z1 := blkF d3 1
  have e0 := blkC d4 0 rfl
  have e1 := blkC d4 1 rfl
  have hbe := ((bel_trans hb3 hb4).setCell (p := ⟨w.heap.size + 1 + 1, 0, none⟩) (show w.heap.size ≤ w.heap.size + 1 + 1 by omega) (.int .i64 X)).setCell (p := ⟨w.heap.size + 1 + 1, 1, none⟩) (show w.heap.size ≤ w.heap.size + 1 + 1 by omega) (.int .i64 Y)
  clear d2 d3 d4 q0 q1 q2
  go_wp2
  refine bodyPost_ret (v := .tuple #[.agg #[.int .i64 X, .int .i64 Y], .int .i64 E]) (by simp [results, Tryz.results11, go_sem, e0, e1]) rfl ⟨rfl, hbe⟩
set_option maxRecDepth 100000 in
theorem spanSubE {a b c d : Int} (ha : rng a) (hb : rng b) (hc : rng c) (hd : rng d) (w : World) (H : Hold4 w) :
    Calls Tryz.prog 12 #[spn a b, spn c d] w fun e w' => e = .returned (.tuple #[twoV (vld a b && vld c d) (spn (eLo (ePlus (eOf a) (eNeg (eOf d)))) (eHi (ePlus (eOf b) (eNeg (eOf c))))), .int .i64 (errA (vld a b && vld c d))]) ∧ Below w.heap.size w w' := by
  have hE : ∀ (cap : Array Value) (w : World), (callFunc 36 cap).run Tryz.prog w = .ok (.enter 36 cap) w := by
    intro cap w
    simp [go_sem]
  have CJ : Hid (∀ W, Hold4 W → Calls Tryz.prog 34 #[spn a b, spn c d, .func (.func 36) #[] #[]] W fun e w' => e = .returned (.tuple #[twoV (vld a b && vld c d) (spn (eLo (ePlus (eOf a) (eNeg (eOf d)))) (eHi (ePlus (eOf b) (eNeg (eOf c))))), .int .i64 (errA (vld a b && vld c d))]) ∧ Below W.heap.size W w') := fun W LW => by
    have := ofTwo_H 36 (x := beLo (suN a (neg d)) (suL a (neg d))) (y := beHi (suN b (neg c)) (suL b (neg c))) ha hb hc hd W LW hE (fun h1 h2 => by
      obtain ⟨na, nb, a1, b1, _⟩ := vld_lo ha hb h1
      obtain ⟨nc, nd, c1, d1, _⟩ := vld_lo hc hd h2
      obtain ⟨g1, g2⟩ := neg_sides nc
      obtain ⟨g3, g4⟩ := neg_sides nd
      have p1 := plus_e na (nn_neg nd).1 (no_lo a1 (fun q => g4.2 (d1 (g3.1 q))))
      have p2 := plus_e nb (nn_neg nc).1 (no_hi b1 (fun q k => (g2.1 k) (c1 (g1.1 q))))
      exact ⟨(be_nn p1.1).1, (be_nn p2.1).2, fun W' _ => minus_any W' (fun W'' => ivlTurned nc nd W'') (fun W'' => plus_any W'' (fun W3 => spanSum na (nn_neg nd).1 p1.1 W3) (fun W3 => spanSum nb (nn_neg nc).1 p2.1 W3))⟩)
    rw [two_eq (v' := spn (eLo (ePlus (eOf a) (eNeg (eOf d)))) (eHi (ePlus (eOf b) (eNeg (eOf c)))))] at this
    · exact this
    · intro hok
      rw [Bool.and_eq_true] at hok
      obtain ⟨na, nb, a1, b1, _⟩ := vld_lo ha hb hok.1
      obtain ⟨nc, nd, c1, d1, _⟩ := vld_lo hc hd hok.2
      obtain ⟨g1, g2⟩ := neg_sides nc
      obtain ⟨g3, g4⟩ := neg_sides nd
      rw [(plus_e na (nn_neg nd).1 (no_lo a1 (fun q => g4.2 (d1 (g3.1 q))))).2.1, (plus_e nb (nn_neg nc).1 (no_hi b1 (fun q k => (g2.1 k) (c1 (g1.1 q))))).2.2, of_neg nd, of_neg nc]
  have hx : ∃ X Y, twoV (vld a b && vld c d) (spn (eLo (ePlus (eOf a) (eNeg (eOf d)))) (eHi (ePlus (eOf b) (eNeg (eOf c))))) = .agg #[.int .i64 X, .int .i64 Y] := by
    unfold twoV spn; split
    · exact ⟨_, _, rfl⟩
    · exact ⟨_, _, rfl⟩
  obtain ⟨X, Y, hXY⟩ := hx
  rw [hXY] at CJ ⊢
  clear hXY
  unfold spn at *
  generalize errA (vld a b && vld c d) = E at *
  obtain ⟨q0, q1, q2, hs, hb3⟩ := heap3 w (.cells #[.int .i64 a, .int .i64 b] 23) (.cells #[.int .i64 c, .int .i64 d] 23) (.cells #[.int .i64 0, .int .i64 0] 23)
  have L2 := H.keeps hb3
  go_enter Tryz.func12, Tryz.ntmps12
  go_wp2_with fail
  generalize ((w.alloc (.cells #[.int .i64 a, .int .i64 b] 23)).alloc (.cells #[.int .i64 c, .int .i64 d] 23)).alloc (.cells #[.int .i64 0, .int .i64 0] 23) = wx at *
  refine (CJ.out _ L2).mono ?_
  rintro _ w1 ⟨rfl, hb4⟩
  have d2 := (hb4.block _ (Array.getElem?_eq_some_iff.1 q2).1).trans q2
  have d3 := q_heap_set d2 0 (.int .i64 X)
  have d4 := q_heap_set d3 1 (.int .i64 Y)
  have f0 := blkC d2 0 rfl
  have z0 := blkF d2 0
  have f1 := blkC d3 1 rfl
  have z1 := blkF d3 1
  have e0 := blkC d4 0 rfl
  have e1 := blkC d4 1 rfl
  have hbe := ((bel_trans hb3 hb4).setCell (p := ⟨w.heap.size + 1 + 1, 0, none⟩) (show w.heap.size ≤ w.heap.size + 1 + 1 by omega) (.int .i64 X)).setCell (p := ⟨w.heap.size + 1 + 1, 1, none⟩) (show w.heap.size ≤ w.heap.size + 1 + 1 by omega) (.int .i64 Y)
  clear d2 d3 d4 q0 q1 q2
  go_wp2
  refine bodyPost_ret (v := .tuple #[.agg #[.int .i64 X, .int .i64 Y], .int .i64 E]) (by simp [results, Tryz.results12, go_sem, e0, e1]) rfl ⟨rfl, hbe⟩
theorem ivlSq {a b : Int} (ha : nn a) (hb : nn b) (w : World) (H : Hold4 w) :
    Calls Tryz.prog 41 #[ivl a b] w fun e w' => e = .returned (ivl (sqLo a b) (sqHi a b)) ∧ Below w.heap.size w w' := by
  obtain ⟨n0, n1⟩ := prLo_nn ha ha
  obtain ⟨m0, m1⟩ := prLo_nn hb hb
  refine squared_any (m := wd (minP (prLo a a) (prLo b b))) w H (fun W hW => spProduct ha ha W hW) (fun W hW => spProduct hb hb W hW) (fun W => ivlJoined n0 n1 m0 m1 W) (wd (sqLo a b)) ?_
  have ka := key_rg ha.1
  have kb := key_rg hb.1
  have ra := nn_rg ha
  have rb := nn_rg hb
  have oa : (0 < key a ∧ FloatKind.f64.format.order (wd a) 0 = some .gt) ∨ (key a ≤ 0 ∧ (FloatKind.f64.format.order (wd a) 0 = some .lt ∨ FloatKind.f64.format.order (wd a) 0 = some .eq)) := by
    have w0 : wd 0 = 0 := by decide
    have k0 : key 0 = 0 := by decide
    rcases Int.lt_trichotomy (key a) 0 with g | g | g
    · have := q_lt ha.1 nn0.1.1 ha.2 nn0.1.2 (by rw [k0]; exact g); rw [w0] at this; exact .inr ⟨by omega, .inl this⟩
    · have := q_eq ha.1 nn0.1.1 ha.2 nn0.1.2 (by rw [k0]; exact g); rw [w0] at this; exact .inr ⟨by omega, .inr this⟩
    · have := q_gt ha.1 nn0.1.1 ha.2 nn0.1.2 (by rw [k0]; exact g); rw [w0] at this; exact .inl ⟨g, this⟩
  have ob : (key b < 0 ∧ FloatKind.f64.format.order (wd b) 0 = some .lt) ∨ (0 ≤ key b ∧ (FloatKind.f64.format.order (wd b) 0 = some .gt ∨ FloatKind.f64.format.order (wd b) 0 = some .eq)) := by
    have w0 : wd 0 = 0 := by decide
    have k0 : key 0 = 0 := by decide
    rcases Int.lt_trichotomy (key b) 0 with g | g | g
    · have := q_lt hb.1 nn0.1.1 hb.2 nn0.1.2 (by rw [k0]; exact g); rw [w0] at this; exact .inl ⟨g, this⟩
    · have := q_eq hb.1 nn0.1.1 hb.2 nn0.1.2 (by rw [k0]; exact g); rw [w0] at this; exact .inr ⟨by omega, .inr this⟩
    · have := q_gt hb.1 nn0.1.1 hb.2 nn0.1.2 (by rw [k0]; exact g); rw [w0] at this; exact .inr ⟨by omega, .inl this⟩
  rcases oa with ⟨a1, a2⟩ | ⟨a1, a2⟩
  · exact .inl ⟨a2, by unfold sqLo; rw [if_neg (by omega)]⟩
  · rcases ob with ⟨b1, b2⟩ | ⟨b1, b2⟩
    · exact .inr (.inl ⟨a2, b2, by unfold sqLo; rw [if_neg (by omega)]⟩)
    · exact .inr (.inr ⟨a2, b2, by unfold sqLo; rw [if_pos ⟨a1, b1⟩]; decide⟩)
theorem spanMulE {a b c d : Int} (ha : rng a) (hb : rng b) (hc : rng c) (hd : rng d) (w : World) (H : Hold4 w) :
    Calls Tryz.prog 13 #[spn a b, spn c d] w fun e w' => e = .returned (.tuple #[twoV (vld a b && vld c d) (spn (eLo (eTmLo (eOf a) (eOf b) (eOf c) (eOf d))) (eHi (eTmHi (eOf a) (eOf b) (eOf c) (eOf d)))), .int .i64 (errA (vld a b && vld c d))]) ∧ Below w.heap.size w w' := by
  have := spanMulH ha hb hc hd w H
  rw [two_eq (v' := spn (eLo (eTmLo (eOf a) (eOf b) (eOf c) (eOf d))) (eHi (eTmHi (eOf a) (eOf b) (eOf c) (eOf d))))] at this
  · exact this
  · intro hok
    rw [Bool.and_eq_true] at hok
    obtain ⟨na, nb, _⟩ := vld_lo ha hb hok.1
    obtain ⟨nc, nd, _⟩ := vld_lo hc hd hok.2
    rw [(tm_e na nb nc nd).1, (tm_e na nb nc nd).2]
end Go.Proofs.YtmpioejllfedoaaGreatDoor

/-
  Package span: Neg, Square on any intervals, told by their exact ends (tools/s_ops4.py).
-/
namespace Go.Proofs.YtmpioejllfedoaaGreatDoor
open Go Go.RowKit Go.Proofs.YtmpioejllfedoaaGreatDoor.M
set_option linter.unusedSimpArgs false
set_option linter.unusedVariables false

set_option maxRecDepth 100000 in
set_option maxHeartbeats 4000000 in
theorem spanSquareE {a b : Int} (ha : rng a) (hb : rng b) (w : World) (H : Hold4 w) :
    Calls Tryz.prog 14 #[spn a b] w fun e w' => e = .returned (.tuple #[twoV (vld a b) (spn (eLo (eSqLo (eOf a) (eOf b))) (eHi (eSqHi (eOf a) (eOf b)))), .int .i64 (errA (vld a b))]) ∧ Below w.heap.size w w' := by
  have CR : Hid (∀ W, Calls Tryz.prog 38 #[.agg #[.int .i64 a, .int .i64 b]] W fun e w' => e = .returned (.agg #[.float .f64 (wd a), .float .f64 (wd b)]) ∧ Below W.heap.size W w') := fun W => spanRead a b W
  have CV : Hid (∀ W, Calls Tryz.prog 39 #[.agg #[.float .f64 (wd a), .float .f64 (wd b)]] W fun e w' => e = .returned (.bool (vld a b)) ∧ Below W.heap.size W w') := fun W => ivlValid ha hb W
  have CS : Hid (vld a b = true → ∃ x y : Int, nn x ∧ nn y ∧ (canon x = eLo (eSqLo (eOf a) (eOf b)) ∧ canon y = eHi (eSqHi (eOf a) (eOf b))) ∧ ∀ W, Hold4 W → Calls Tryz.prog 41 #[.agg #[.float .f64 (wd a), .float .f64 (wd b)]] W fun e w' => e = .returned (.agg #[.float .f64 (wd x), .float .f64 (wd y)]) ∧ Below W.heap.size W w') := fun hv => by
    obtain ⟨na, nb, _⟩ := vld_lo ha hb hv
    exact ⟨sqLo a b, sqHi a b, (sq_nn na nb).1, (sq_nn na nb).2, sq_e na nb, fun W h => ivlSq na nb W h⟩
  unfold spn
  have hb2 := bel_alloc2 w (.cells #[.int .i64 a, .int .i64 b] 23) (.cells #[.int .i64 0, .int .i64 0] 23)
  have q0 := heap_a2 w (.cells #[.int .i64 a, .int .i64 b] 23) (.cells #[.int .i64 0, .int .i64 0] 23)
  have q1 := heap_b2 w (.cells #[.int .i64 a, .int .i64 b] 23) (.cells #[.int .i64 0, .int .i64 0] 23)
  have hst : ∀ (p : Addr) (x : Nat) (m : Mode) (w : World), (store p (.float .f64 x) m).run Tryz.prog w = stored Tryz.prog w p (.float .f64 x) m := fun p x m w => run_store _ w p _ m rfl
  cases hv : vld a b
  · rw [hv] at CV
    clear CS
    unfold twoV errA
    simp only [Bool.false_eq_true, if_false]
    go_enter Tryz.func14, Tryz.ntmps14
    go_wp2_with fail
    generalize (w.alloc (.cells #[.int .i64 a, .int .i64 b] 23)).alloc (.cells #[.int .i64 0, .int .i64 0] 23) = x0 at hb2 q0 q1 ⊢
    refine (CR.out _).mono ?_
    rintro _ w1 ⟨rfl, hb1⟩
    have i_k := heap_a1 w1 (.cells #[.float .f64 (wd a), .float .f64 (wd b)] 61)
    have hc1 := al1 hb1 (.cells #[.float .f64 (wd a), .float .f64 (wd b)] 61)
    have j0 := blkC i_k 0 rfl
    have j1 := blkC i_k 1 rfl
    go_wp2_with fail
    generalize w1.alloc (.cells #[.float .f64 (wd a), .float .f64 (wd b)] 61) = x1 at i_k hc1 j0 j1 ⊢
    refine (CV.out _).mono ?_
    rintro _ w2 ⟨rfl, hb3⟩
    have hc2 := bel_trans hc1 hb3
    clear j0 j1
    have d2 := blk_up hc2 q1
    have f0 := blkC d2 0 rfl
    have z0 := blkF d2 0
    have f1 := blkC d2 1 rfl
    have z1 := blkF d2 1
    have d3 := q_heap_set d2 0 (.int .i64 0)
    have d4 := q_heap_set d3 1 (.int .i64 0)
    have g1 := blkC d3 1 rfl
    have y1 := blkF d3 1
    have e0 := blkC d4 0 rfl
    have e1 := blkC d4 1 rfl
    have hbe := ((bel_trans hb2 hc2).setCell (p := ⟨w.heap.size + 1, 0, none⟩) (show w.heap.size ≤ w.heap.size + 1 by omega) (.int .i64 0)).setCell (p := ⟨w.heap.size + 1, 1, none⟩) (show w.heap.size ≤ w.heap.size + 1 by omega) (.int .i64 0)
    clear d2 d3 d4 q0 q1 i_k
    go_wp2
    refine bodyPost_ret (v := .tuple #[.agg #[.int .i64 0, .int .i64 0], .int .i64 1]) (by simp [results, Tryz.results14, go_sem, e0, e1]) rfl ⟨rfl, hbe⟩
  · rw [hv] at CV
    obtain ⟨x, y, nx, ny, ⟨ex, ey⟩, CQ⟩ := CS.out hv
    replace CQ := hideIt CQ
    have CT : Hid (∀ W, Hold4 W → Calls Tryz.prog 40 #[.agg #[.float .f64 (wd x), .float .f64 (wd y)]] W fun e w' => e = .returned (.agg #[.int .i64 (canon x), .int .i64 (canon y)]) ∧ Below W.heap.size W w') := fun W h => spanTold nx ny W h.env.lays
    rw [ex, ey] at CT
    clear CS ex ey nx ny
    unfold twoV errA
    simp only [if_true]
    generalize eLo (eSqLo (eOf a) (eOf b)) = X at *
    generalize eHi (eSqHi (eOf a) (eOf b)) = Y at *
    generalize wd x = x' at *
    generalize wd y = y' at *
    go_enter Tryz.func14, Tryz.ntmps14
    go_wp2_with fail
    generalize (w.alloc (.cells #[.int .i64 a, .int .i64 b] 23)).alloc (.cells #[.int .i64 0, .int .i64 0] 23) = x0 at hb2 q0 q1 ⊢
    refine (CR.out _).mono ?_
    rintro _ w1 ⟨rfl, hb1⟩
    have i_k := heap_a1 w1 (.cells #[.float .f64 (wd a), .float .f64 (wd b)] 61)
    have hc1 := al1 hb1 (.cells #[.float .f64 (wd a), .float .f64 (wd b)] 61)
    have j0 := blkC i_k 0 rfl
    have j1 := blkC i_k 1 rfl
    go_wp2_with fail
    generalize w1.alloc (.cells #[.float .f64 (wd a), .float .f64 (wd b)] 61) = x1 at i_k hc1 j0 j1 ⊢
    refine (CV.out _).mono ?_
    rintro _ w2 ⟨rfl, hb3⟩
    have i_k := blk_up hb3 i_k
    have hc2 := bel_trans hc1 hb3
    have k0 := blkC i_k 0 rfl
    have k1 := blkC i_k 1 rfl
    clear j0 j1
    go_wp2_with fail
    refine (CQ.out _ (H.keeps (bel_trans hb2 hc2))).mono ?_
    rintro _ w4 ⟨rfl, hb4⟩
    have hc3 := bel_trans hc2 hb4
    go_wp2_with fail
    refine (CT.out _ (H.keeps (bel_trans hb2 hc3))).mono ?_
    rintro _ w5 ⟨rfl, hb5⟩
    have hc4 := bel_trans hc3 hb5
    have d2 := blk_up hc4 q1
    have d3 := q_heap_set d2 0 (.int .i64 X)
    have d4 := q_heap_set d3 1 (.int .i64 Y)
    have f0 := blkC d2 0 rfl
    have z0 := blkF d2 0
    have f1 := blkC d3 1 rfl
    have z1 := blkF d3 1
    have e0 := blkC d4 0 rfl
    have e1 := blkC d4 1 rfl
    have hbe := ((bel_trans hb2 hc4).setCell (p := ⟨w.heap.size + 1, 0, none⟩) (show w.heap.size ≤ w.heap.size + 1 by omega) (.int .i64 X)).setCell (p := ⟨w.heap.size + 1, 1, none⟩) (show w.heap.size ≤ w.heap.size + 1 by omega) (.int .i64 Y)
    clear d2 d3 d4 q0 q1 i_k k0 k1
    go_wp2
    refine bodyPost_ret (v := .tuple #[.agg #[.int .i64 X, .int .i64 Y], .int .i64 0]) (by simp [results, Tryz.results14, go_sem, e0, e1]) rfl ⟨rfl, hbe⟩
set_option maxRecDepth 100000 in
set_option maxHeartbeats 4000000 in
theorem spanNegE {a b : Int} (ha : rng a) (hb : rng b) (w : World) (H : Hold4 w) :
    Calls Tryz.prog 15 #[spn a b] w fun e w' => e = .returned (.tuple #[twoV (vld a b) (spn (eLo (eNeg (eOf b))) (eHi (eNeg (eOf a)))), .int .i64 (errA (vld a b))]) ∧ Below w.heap.size w w' := by
  have CR : Hid (∀ W, Calls Tryz.prog 38 #[.agg #[.int .i64 a, .int .i64 b]] W fun e w' => e = .returned (.agg #[.float .f64 (wd a), .float .f64 (wd b)]) ∧ Below W.heap.size W w') := fun W => spanRead a b W
  have CV : Hid (∀ W, Calls Tryz.prog 39 #[.agg #[.float .f64 (wd a), .float .f64 (wd b)]] W fun e w' => e = .returned (.bool (vld a b)) ∧ Below W.heap.size W w') := fun W => ivlValid ha hb W
  have CS : Hid (vld a b = true → ∃ x y : Int, nn x ∧ nn y ∧ (canon x = eLo (eNeg (eOf b)) ∧ canon y = eHi (eNeg (eOf a))) ∧ ∀ W, Hold4 W → Calls Tryz.prog 42 #[.agg #[.float .f64 (wd a), .float .f64 (wd b)]] W fun e w' => e = .returned (.agg #[.float .f64 (wd x), .float .f64 (wd y)]) ∧ Below W.heap.size W w') := fun hv => by
    obtain ⟨na, nb, _⟩ := vld_lo ha hb hv
    have ea := (e_of (nn_neg na).1).2
    have eb := (e_of (nn_neg nb).1).1
    rw [of_neg na] at ea
    rw [of_neg nb] at eb
    exact ⟨neg b, neg a, (nn_neg nb).1, (nn_neg na).1, ⟨eb.symm, ea.symm⟩, fun W h => ivlTurned na nb W⟩
  unfold spn
  have hb2 := bel_alloc2 w (.cells #[.int .i64 a, .int .i64 b] 23) (.cells #[.int .i64 0, .int .i64 0] 23)
  have q0 := heap_a2 w (.cells #[.int .i64 a, .int .i64 b] 23) (.cells #[.int .i64 0, .int .i64 0] 23)
  have q1 := heap_b2 w (.cells #[.int .i64 a, .int .i64 b] 23) (.cells #[.int .i64 0, .int .i64 0] 23)
  have hst : ∀ (p : Addr) (x : Nat) (m : Mode) (w : World), (store p (.float .f64 x) m).run Tryz.prog w = stored Tryz.prog w p (.float .f64 x) m := fun p x m w => run_store _ w p _ m rfl
  cases hv : vld a b
  · rw [hv] at CV
    clear CS
    unfold twoV errA
    simp only [Bool.false_eq_true, if_false]
    go_enter Tryz.func15, Tryz.ntmps15
    go_wp2_with fail
    generalize (w.alloc (.cells #[.int .i64 a, .int .i64 b] 23)).alloc (.cells #[.int .i64 0, .int .i64 0] 23) = x0 at hb2 q0 q1 ⊢
    refine (CR.out _).mono ?_
    rintro _ w1 ⟨rfl, hb1⟩
    have i_k := heap_a1 w1 (.cells #[.float .f64 (wd a), .float .f64 (wd b)] 61)
    have hc1 := al1 hb1 (.cells #[.float .f64 (wd a), .float .f64 (wd b)] 61)
    have j0 := blkC i_k 0 rfl
    have j1 := blkC i_k 1 rfl
    go_wp2_with fail
    generalize w1.alloc (.cells #[.float .f64 (wd a), .float .f64 (wd b)] 61) = x1 at i_k hc1 j0 j1 ⊢
    refine (CV.out _).mono ?_
    rintro _ w2 ⟨rfl, hb3⟩
    have hc2 := bel_trans hc1 hb3
    clear j0 j1
    have d2 := blk_up hc2 q1
    have f0 := blkC d2 0 rfl
    have z0 := blkF d2 0
    have f1 := blkC d2 1 rfl
    have z1 := blkF d2 1
    have d3 := q_heap_set d2 0 (.int .i64 0)
    have d4 := q_heap_set d3 1 (.int .i64 0)
    have g1 := blkC d3 1 rfl
    have y1 := blkF d3 1
    have e0 := blkC d4 0 rfl
    have e1 := blkC d4 1 rfl
    have hbe := ((bel_trans hb2 hc2).setCell (p := ⟨w.heap.size + 1, 0, none⟩) (show w.heap.size ≤ w.heap.size + 1 by omega) (.int .i64 0)).setCell (p := ⟨w.heap.size + 1, 1, none⟩) (show w.heap.size ≤ w.heap.size + 1 by omega) (.int .i64 0)
    clear d2 d3 d4 q0 q1 i_k
    go_wp2
    refine bodyPost_ret (v := .tuple #[.agg #[.int .i64 0, .int .i64 0], .int .i64 1]) (by simp [results, Tryz.results15, go_sem, e0, e1]) rfl ⟨rfl, hbe⟩
  · rw [hv] at CV
    obtain ⟨x, y, nx, ny, ⟨ex, ey⟩, CQ⟩ := CS.out hv
    replace CQ := hideIt CQ
    have CT : Hid (∀ W, Hold4 W → Calls Tryz.prog 40 #[.agg #[.float .f64 (wd x), .float .f64 (wd y)]] W fun e w' => e = .returned (.agg #[.int .i64 (canon x), .int .i64 (canon y)]) ∧ Below W.heap.size W w') := fun W h => spanTold nx ny W h.env.lays
    rw [ex, ey] at CT
    clear CS ex ey nx ny
    unfold twoV errA
    simp only [if_true]
    generalize eLo (eNeg (eOf b)) = X at *
    generalize eHi (eNeg (eOf a)) = Y at *
    generalize wd x = x' at *
    generalize wd y = y' at *
    go_enter Tryz.func15, Tryz.ntmps15
    go_wp2_with fail
    generalize (w.alloc (.cells #[.int .i64 a, .int .i64 b] 23)).alloc (.cells #[.int .i64 0, .int .i64 0] 23) = x0 at hb2 q0 q1 ⊢
    refine (CR.out _).mono ?_
    rintro _ w1 ⟨rfl, hb1⟩
    have i_k := heap_a1 w1 (.cells #[.float .f64 (wd a), .float .f64 (wd b)] 61)
    have hc1 := al1 hb1 (.cells #[.float .f64 (wd a), .float .f64 (wd b)] 61)
    have j0 := blkC i_k 0 rfl
    have j1 := blkC i_k 1 rfl
    go_wp2_with fail
    generalize w1.alloc (.cells #[.float .f64 (wd a), .float .f64 (wd b)] 61) = x1 at i_k hc1 j0 j1 ⊢
    refine (CV.out _).mono ?_
    rintro _ w2 ⟨rfl, hb3⟩
    have i_k := blk_up hb3 i_k
    have hc2 := bel_trans hc1 hb3
    have k0 := blkC i_k 0 rfl
    have k1 := blkC i_k 1 rfl
    clear j0 j1
    go_wp2_with fail
    refine (CQ.out _ (H.keeps (bel_trans hb2 hc2))).mono ?_
    rintro _ w4 ⟨rfl, hb4⟩
    have hc3 := bel_trans hc2 hb4
    go_wp2_with fail
    refine (CT.out _ (H.keeps (bel_trans hb2 hc3))).mono ?_
    rintro _ w5 ⟨rfl, hb5⟩
    have hc4 := bel_trans hc3 hb5
    have d2 := blk_up hc4 q1
    have d3 := q_heap_set d2 0 (.int .i64 X)
    have d4 := q_heap_set d3 1 (.int .i64 Y)
    have f0 := blkC d2 0 rfl
    have z0 := blkF d2 0
    have f1 := blkC d3 1 rfl
    have z1 := blkF d3 1
    have e0 := blkC d4 0 rfl
    have e1 := blkC d4 1 rfl
    have hbe := ((bel_trans hb2 hc4).setCell (p := ⟨w.heap.size + 1, 0, none⟩) (show w.heap.size ≤ w.heap.size + 1 by omega) (.int .i64 X)).setCell (p := ⟨w.heap.size + 1, 1, none⟩) (show w.heap.size ≤ w.heap.size + 1 by omega) (.int .i64 Y)
    clear d2 d3 d4 q0 q1 i_k k0 k1
    go_wp2
    refine bodyPost_ret (v := .tuple #[.agg #[.int .i64 X, .int .i64 Y], .int .i64 0]) (by simp [results, Tryz.results15, go_sem, e0, e1]) rfl ⟨rfl, hbe⟩
end Go.Proofs.YtmpioejllfedoaaGreatDoor

/-
  Package round: root, by its contract.
-/
namespace Go.Proofs.YtmpioejllfedoaaGreatDoor
open Go Go.RowKit Go.Proofs.YtmpioejllfedoaaGreatDoor.M
set_option linter.unusedSimpArgs false
set_option linter.unusedVariables false

end Go.Proofs.YtmpioejllfedoaaGreatDoor

/-
  Package round: Root, by its contract; and on numbers told by their worth.
-/
namespace Go.Proofs.YtmpioejllfedoaaGreatDoor
open Go Go.RowKit Go.Proofs.YtmpioejllfedoaaGreatDoor.M
set_option linter.unusedSimpArgs false
set_option linter.unusedVariables false

end Go.Proofs.YtmpioejllfedoaaGreatDoor

/-
  Package span: Around, by the least interval around a number; plumblaw8's tight.
-/
namespace Go.Proofs.YtmpioejllfedoaaGreatDoor
open Go Go.RowKit Go.Proofs.YtmpioejllfedoaaGreatDoor.M
set_option linter.unusedSimpArgs false
set_option linter.unusedVariables false

set_option maxRecDepth 100000 in
set_option maxHeartbeats 1000000 in
theorem around_V {w : World} {ng : Bool} {so : Option Addr} {sn sc : Nat} {e V : Int} (h : DNum w (.agg #[.bool ng, .slice so sn sc, .int .i64 e]) V) (ok : Dok V) (H : Hold4 w) :
    ∀ W, Below w.heap.size w W → Calls Tryz.prog 47 #[.agg #[.bool ng, .slice so sn sc, .int .i64 e]] W fun r w' => r = .returned (.tuple #[spn (cLo V) (cHi V), .int .i64 0]) ∧ Below W.heap.size W w' := by
  obtain ⟨x, h1, rfl, rfl, h4⟩ := to_four h ok H
  obtain ⟨r1, r2⟩ := around_c (to_rd h1)
  rw [← r1, ← r2]
  clear r1 r2
  intro W hb
  · have C1 : Hid (∀ W', Below W.heap.size W W' → Calls Tryz.prog 70 #[.agg #[.bool x.ng, .slice so sn sc, .int .i64 e], .int .i64 1] W' fun e w' => e = .returned (.tuple #[.int .i64 (toR 1 x).1, .bool (toR 1 x).2, .int .i64 0]) ∧ Below W'.heap.size W' w') := fun W' hb' => h4 1 W' (by omega) (bel_trans hb hb')
    have C2 : Hid (∀ W', Below W.heap.size W W' → Calls Tryz.prog 70 #[.agg #[.bool x.ng, .slice so sn sc, .int .i64 e], .int .i64 2] W' fun e w' => e = .returned (.tuple #[.int .i64 (toR 2 x).1, .bool (toR 2 x).2, .int .i64 0]) ∧ Below W'.heap.size W' w') := fun W' hb' => h4 2 W' (by omega) (bel_trans hb hb')
    unfold spn
    generalize (toR 1 x).1 = X at *
    generalize (toR 2 x).1 = Y at *
    generalize (toR 1 x).2 = o1 at *
    generalize (toR 2 x).2 = o2 at *
    generalize x.ng = ng at *
    clear h4 h1 h
    have hb2 := bel_alloc2 W (.cells #[.bool ng, .slice so sn sc, .int .i64 e] 26) (.cells #[.int .i64 0, .int .i64 0] 23)
    have p0 := heap_a2 W (.cells #[.bool ng, .slice so sn sc, .int .i64 e] 26) (.cells #[.int .i64 0, .int .i64 0] 23)
    have p1 := heap_b2 W (.cells #[.bool ng, .slice so sn sc, .int .i64 e] 26) (.cells #[.int .i64 0, .int .i64 0] 23)
    go_enter Tryz.func47, Tryz.ntmps47
    go_wp2_with fail
    generalize (W.alloc (.cells #[.bool ng, .slice so sn sc, .int .i64 e] 26)).alloc (.cells #[.int .i64 0, .int .i64 0] 23) = wx at *
    refine (C1.out _ hb2).mono ?_
    rintro _ w1 ⟨rfl, hb3⟩
    have p01 := (hb3.block _ (Array.getElem?_eq_some_iff.1 p0).1).trans p0
    have p11 := (hb3.block _ (Array.getElem?_eq_some_iff.1 p1).1).trans p1
    have c0 := blkC p01 0 rfl
    have c1 := blkC p01 1 rfl
    have c2 := blkC p01 2 rfl
    have hbw := bel_trans hb2 hb3
    go_wp2_with fail
    refine (C2.out _ hbw).mono ?_
    rintro _ w2 ⟨rfl, hb4⟩
    have d2 := (hb4.block _ (Array.getElem?_eq_some_iff.1 p11).1).trans p11
    have d3 := q_heap_set d2 0 (.int .i64 X)
    have d4 := q_heap_set d3 1 (.int .i64 Y)
    have f0 := blkC d2 0 rfl
    have z0 := blkF d2 0
    have f1 := blkC d3 1 rfl
    have z1 := blkF d3 1
    have e0 := blkC d4 0 rfl
    have e1 := blkC d4 1 rfl
    have hbe : Below W.heap.size W ((w2.setCell ⟨W.heap.size + 1, 0, none⟩ (.int .i64 X)).setCell ⟨W.heap.size + 1, 1, none⟩ (.int .i64 Y)) := ((bel_trans hbw hb4).setCell (p := ⟨W.heap.size + 1, 0, none⟩) (Nat.le_succ _) _).setCell (p := ⟨W.heap.size + 1, 1, none⟩) (Nat.le_succ _) _
    clear p0 p1 p01 p11 c0 c1 c2 d2 d3 d4
    go_wp2
    refine bodyPost_ret (v := .tuple #[.agg #[.int .i64 X, .int .i64 Y], .int .i64 0]) (by simp [results, Tryz.results47, go_sem, e0, e1]) rfl ⟨rfl, hbe⟩
end Go.Proofs.YtmpioejllfedoaaGreatDoor

/-
  What the laws SpanHolds and SpanLess want of span's calls: each answer holds the number; plumblaw8's has, by its contract (tools/s_lw.py).
-/
namespace Go.Proofs.YtmpioejllfedoaaGreatDoor
open Go Go.RowKit Go.Proofs.YtmpioejllfedoaaGreatDoor.M
set_option linter.unusedSimpArgs false
set_option linter.unusedVariables false

/-- An interval in its own form that holds a number. -/
structure Okk (c d V : Int) : Prop where
  lo : nn c
  hi : nn d
  cl : canon c = c
  ch : canon d = d
  ok : vld c d = true
  kl : key c ≤ key (cLo V)
  kh : key (cHi V) ≤ key d
theorem Holds.okk {e f : En} {V : Int} (h : Holds e f V) : Okk (eLo e) (eHi f) V :=
  ⟨(e_nn e).1, (e_nn f).2, (e_canon e).1, (e_canon f).2, h.vld, h.keys.1, h.keys.2⟩
theorem mulS_of {A B C : Int} (h : C * 2 ^ 4194304 = A * B) : C = mulS A B := by
  unfold mulS
  rw [← h]
  exact (Int.mul_ediv_cancel _ (Int.ne_of_gt (two_pos _))).symm
/-- Two ends that hold a number. -/
structure Pin2 (s t x : Int) : Prop where
  lo : nn s
  hi : nn t
  h : Holds (eOf s) (eOf t) x
theorem Pin2.v {s t x : Int} (h : Pin2 s t x) : vld s t = true := h.h.vldP h.lo h.hi
theorem Pin2.of {lo hi b : Int} (rb : rng b) (pb : pok b = true) (h1 : nn lo ∧ key lo ≤ key b) (h2 : nn hi ∧ key b ≤ key hi) : Pin2 lo hi (patV b) :=
  ⟨h1.1, h2.1, Holds.of h1.1 h2.1 ⟨rb, pok_clsF rb pb⟩ pb h1.2 h2.2⟩
theorem add_has {a b c d x y : Int} (s : Pin2 a b x) (t : Pin2 c d y) : ∃ p q : Int, Hid (∀ W, Hold4 W → Calls Tryz.prog 11 #[.agg #[.int .i64 a, .int .i64 b], .agg #[.int .i64 c, .int .i64 d]] W fun e w' => e = .returned (.tuple #[.agg #[.int .i64 p, .int .i64 q], .int .i64 0]) ∧ Below W.heap.size W w') ∧ Okk p q (x + y) := by
  refine ⟨_, _, fun W h => ?_, (s.h.plus t.h).okk⟩
  have := spanAddE s.lo.1 s.hi.1 t.lo.1 t.hi.1 W h
  rw [s.v, t.v] at this
  exact this
theorem sub_has {a b c d x y : Int} (s : Pin2 a b x) (t : Pin2 c d y) : ∃ p q : Int, Hid (∀ W, Hold4 W → Calls Tryz.prog 12 #[.agg #[.int .i64 a, .int .i64 b], .agg #[.int .i64 c, .int .i64 d]] W fun e w' => e = .returned (.tuple #[.agg #[.int .i64 p, .int .i64 q], .int .i64 0]) ∧ Below W.heap.size W w') ∧ Okk p q (x - y) := by
  refine ⟨_, _, fun W h => ?_, ((show x + -y = x - y from rfl) ▸ s.h.plus t.h.neg).okk⟩
  have := spanSubE s.lo.1 s.hi.1 t.lo.1 t.hi.1 W h
  rw [s.v, t.v] at this
  exact this
theorem mul_has {a b c d x y : Int} (s : Pin2 a b x) (t : Pin2 c d y) : ∃ p q : Int, Hid (∀ W, Hold4 W → Calls Tryz.prog 13 #[.agg #[.int .i64 a, .int .i64 b], .agg #[.int .i64 c, .int .i64 d]] W fun e w' => e = .returned (.tuple #[.agg #[.int .i64 p, .int .i64 q], .int .i64 0]) ∧ Below W.heap.size W w') ∧ Okk p q (mulS x y) := by
  refine ⟨_, _, fun W h => ?_, (s.h.times (eOf_ok _) (eOf_ok _) (eOf_ok _) (eOf_ok _) t.h).okk⟩
  have := spanMulE s.lo.1 s.hi.1 t.lo.1 t.hi.1 W h
  rw [s.v, t.v] at this
  exact this
theorem sq_has {a b x : Int} (s : Pin2 a b x) : ∃ p q : Int, Hid (∀ W, Hold4 W → Calls Tryz.prog 14 #[.agg #[.int .i64 a, .int .i64 b]] W fun e w' => e = .returned (.tuple #[.agg #[.int .i64 p, .int .i64 q], .int .i64 0]) ∧ Below W.heap.size W w') ∧ Okk p q (mulS x x) := by
  refine ⟨_, _, fun W h => ?_, (s.h.square (eOf_ok _) (eOf_ok _)).okk⟩
  have := spanSquareE s.lo.1 s.hi.1 W h
  rw [s.v] at this
  exact this
theorem neg_has {a b x : Int} (s : Pin2 a b x) : ∃ p q : Int, Hid (∀ W, Hold4 W → Calls Tryz.prog 15 #[.agg #[.int .i64 a, .int .i64 b]] W fun e w' => e = .returned (.tuple #[.agg #[.int .i64 p, .int .i64 q], .int .i64 0]) ∧ Below W.heap.size W w') ∧ Okk p q (-x) := by
  refine ⟨_, _, fun W h => ?_, (s.h.neg).okk⟩
  have := spanNegE s.lo.1 s.hi.1 W h
  rw [s.v] at this
  exact this
theorem join_has {a b c d x y : Int} (s : Pin2 a b x) (t : Pin2 c d y) : ∃ p q : Int, Hid (∀ W, Hold4 W → Calls Tryz.prog 16 #[.agg #[.int .i64 a, .int .i64 b], .agg #[.int .i64 c, .int .i64 d]] W fun e w' => e = .returned (.tuple #[.agg #[.int .i64 p, .int .i64 q], .int .i64 0]) ∧ Below W.heap.size W w') ∧ Okk p q x ∧ Okk p q y := by
  obtain ⟨m1, m2, m3, m4⟩ := minP_nn s.lo t.lo
  obtain ⟨n1, n2, n3, n4⟩ := maxP_nn s.hi t.hi
  obtain ⟨s1, s2⟩ := s.h.keysP s.lo s.hi
  obtain ⟨t1, t2⟩ := t.h.keysP t.lo t.hi
  obtain ⟨k1, k2⟩ := key_canon m1
  obtain ⟨l1, l2⟩ := key_canon n1
  obtain ⟨_, _, v1, v2, v3⟩ := vld_iff.1 s.v
  obtain ⟨_, _, u1, u2, u3⟩ := vld_iff.1 t.v
  have hv : vld (canon (minP a c)) (canon (maxP b d)) = true := vld_iff.2 ⟨k2.2, l2.2, by omega, by omega, by omega⟩
  refine ⟨_, _, fun W h => ?_, ⟨k2, l2, canon_canon _, canon_canon _, hv, by omega, by omega⟩, ⟨k2, l2, canon_canon _, canon_canon _, hv, by omega, by omega⟩⟩
  have := spanJoin s.lo.1 s.hi.1 t.lo.1 t.hi.1 W h.env.lays
  rw [s.v, t.v] at this
  exact this
theorem sgn_has {c d V : Int} (h : Okk c d V) : sgK c d = true → sgV c d = ord V 0 := by
  intro hk
  obtain ⟨c1, c2, c3⟩ := c_sign V
  have hl := h.kl
  have hh := h.kh
  have hle := c_le V
  unfold sgK at hk
  unfold sgV
  rw [h.ok] at hk ⊢
  simp only [Bool.true_and, if_true, Bool.or_eq_true, Bool.and_eq_true, decide_eq_true_eq] at hk ⊢
  by_cases p1 : 0 < key c
  · rw [if_pos p1]
    exact (ord_gt (c1 (by omega))).symm
  · rw [if_neg p1]
    by_cases p2 : key d < 0
    · rw [if_pos p2]
      exact (ord_lt (c2 (by omega))).symm
    · rw [if_neg p2]
      have hz : key c = 0 ∧ key d = 0 := by omega
      exact (ord_eq (c3 (by omega) (by omega) (by omega) (by omega))).symm
set_option maxRecDepth 100000 in
set_option maxHeartbeats 2000000 in
theorem has_yes {lo hi V : Int} {ng : Bool} {so : Option Addr} {sn sc : Nat} {xe : Int} (nl : nn lo) (nh : nn hi) (hv : vld lo hi = true) (k1 : key lo ≤ key (cLo V)) (k2 : key (cHi V) ≤ key hi) (w : World) (hD : DNum w (.agg #[.bool ng, .slice so sn sc, .int .i64 xe]) V) (ok : Dok V) (H : Hold4 w) :
    Calls Tryz.prog 17 #[.agg #[.int .i64 lo, .int .i64 hi], .int .i64 0, .agg #[.bool ng, .slice so sn sc, .int .i64 xe]] w fun e w' => e = .returned (.bool true) ∧ Below w.heap.size w w' := by
  have CH : Hid (∀ W, Hold4 W → DNum W (.agg #[.bool ng, .slice so sn sc, .int .i64 xe]) V → Calls Tryz.prog 44 #[.agg #[.int .i64 lo, .int .i64 hi], .agg #[.bool ng, .slice so sn sc, .int .i64 xe]] W fun e w' => e = .returned (.tuple #[.bool true, .int .i64 0]) ∧ Below W.heap.size W w') := fun W h hd => by
    have := spanHas nl.1 nh.1 (c_nn V).1 (c_nn V).2 hv W (fun W' hb => around_V hd ok h W' hb)
    rw [show inI lo hi (cLo V) (cHi V) = true from decide_eq_true ⟨k1, k2⟩] at this
    exact this
  have CV : Hid (∀ W, Calls Tryz.prog 45 #[.agg #[.int .i64 lo, .int .i64 hi]] W fun e w' => e = .returned (.bool true) ∧ Below W.heap.size W w') := fun W => by
    have := spanValid nl.1 nh.1 W
    rw [hv] at this
    exact this
  clear nl nh hv k1 k2 ok
  have hb := bel_refl w
  have x_D := hD
  clear hD
  go_enter Tryz.func17, Tryz.ntmps17
  have s_k := heap_a1 w (.cells #[.int .i64 lo, .int .i64 hi] 23)
  have x_D := x_D.keeps (bel_alloc w (.cells #[.int .i64 lo, .int .i64 hi] 23))
  have H := H.keeps (bel_alloc w (.cells #[.int .i64 lo, .int .i64 hi] 23))
  have hb := bel_trans hb (bel_alloc w (.cells #[.int .i64 lo, .int .i64 hi] 23))
  have s_k := heap_past (.cells #[.bool ng, .slice so sn sc, .int .i64 xe] 26) s_k
  have x_k := heap_b2 w (.cells #[.int .i64 lo, .int .i64 hi] 23) (.cells #[.bool ng, .slice so sn sc, .int .i64 xe] 26)
  have x_D := x_D.keeps (bel_alloc (w.alloc (.cells #[.int .i64 lo, .int .i64 hi] 23)) (.cells #[.bool ng, .slice so sn sc, .int .i64 xe] 26))
  have H := H.keeps (bel_alloc (w.alloc (.cells #[.int .i64 lo, .int .i64 hi] 23)) (.cells #[.bool ng, .slice so sn sc, .int .i64 xe] 26))
  have hb := bel_trans hb (bel_alloc (w.alloc (.cells #[.int .i64 lo, .int .i64 hi] 23)) (.cells #[.bool ng, .slice so sn sc, .int .i64 xe] 26))
  have f_s0 := blkC s_k 0 rfl
  have f_s1 := blkC s_k 1 rfl
  have f_x0 := blkC x_k 0 rfl
  have f_x1 := blkC x_k 1 rfl
  have f_x2 := blkC x_k 2 rfl
  go_wp2_with fail
  clear f_s0 f_s1 f_x0 f_x1 f_x2
  generalize ((w.alloc (.cells #[.int .i64 lo, .int .i64 hi] 23)).alloc (.cells #[.bool ng, .slice so sn sc, .int .i64 xe] 26)) = x1 at s_k x_k x_D H hb ⊢
  refine (CH.out _ H x_D).mono ?_
  rintro _ y2 ⟨rfl, hw⟩
  have s_k := blk_up hw s_k
  have x_k := blk_up hw x_k
  have x_D := x_D.keeps hw
  have H := H.keeps hw
  have hb := bel_trans hb hw
  have f_s0 := blkC s_k 0 rfl
  have f_s1 := blkC s_k 1 rfl
  go_wp2_with fail
  clear f_s0 f_s1
  refine (CV.out _).mono ?_
  rintro _ y3 ⟨rfl, hw⟩
  have s_k := blk_up hw s_k
  have x_k := blk_up hw x_k
  have x_D := x_D.keeps hw
  have H := H.keeps hw
  have hb := bel_trans hb hw
  go_wp2
  go_ret
  exact ⟨rfl, hb⟩
end Go.Proofs.YtmpioejllfedoaaGreatDoor

/-
  plumblaw8's alive: it answers true; what the laws want of laid variables.
-/
namespace Go.Proofs.YtmpioejllfedoaaGreatDoor
open Go Go.RowKit Go.Proofs.YtmpioejllfedoaaGreatDoor.M
set_option linter.unusedSimpArgs false
set_option linter.unusedVariables false

set_option maxRecDepth 100000 in
theorem alive8 (w : World) (L : Lays w) : Calls Tryz.prog 6 #[] w fun e w' => e = .returned (.bool true) ∧ Below w.heap.size w w' := by
  have CA : Hid (∀ W, Lays W → Calls Tryz.prog 11 #[.agg #[.int .i64 4607182418800017408, .int .i64 4607182418800017408], .agg #[.int .i64 4607182418800017408, .int .i64 4611686018427387904]] W fun e w' => e = .returned (.tuple #[.agg #[.int .i64 4611686018427387904, .int .i64 4613937818241073152], .int .i64 0]) ∧ Below W.heap.size W w') := fun W LW => addC W LW
  have CS : Hid (∀ W, Calls Tryz.prog 18 #[.agg #[.int .i64 4611686018427387904, .int .i64 4613937818241073152]] W fun e w' => e = .returned (.tuple #[.int .i64 1, .bool true, .int .i64 0]) ∧ Below W.heap.size W w') := fun W => signC W
  go_enter Tryz.func6, Tryz.ntmps6
  go_wp2_with fail
  refine (CA.out _ L).mono ?_
  rintro _ w1 ⟨rfl, hb1⟩
  have hba := bel_alloc w1 (.cells #[.int .i64 4611686018427387904, .int .i64 4613937818241073152] 23)
  have hg := hl_last w1 (.cells #[.int .i64 4611686018427387904, .int .i64 4613937818241073152] 23) rfl
  go_wp2_with fail
  generalize w1.alloc (.cells #[.int .i64 4611686018427387904, .int .i64 4613937818241073152] 23) = w2 at *
  refine (CS.out _).mono ?_
  rintro _ w3 ⟨rfl, hb2⟩
  have hg3 := (hb2.block _ (Array.getElem?_eq_some_iff.1 hg).1).trans hg
  have c0 := blkC hg3 0 rfl
  have c1 := blkC hg3 1 rfl
  go_wp2
  go_ret
  exact ⟨rfl, bel_trans hb1 (bel_trans hba hb2)⟩
end Go.Proofs.YtmpioejllfedoaaGreatDoor

/-
  Where lists lie that were answered, and what is kept besides.
-/
namespace Go.Proofs.YtmpioejllfedoaaGreatDoor
open Go Go.RowKit Go.Proofs.YtmpioejllfedoaaGreatDoor.M
set_option linter.unusedSimpArgs false
set_option linter.unusedVariables false

/-- Where a value lies: in a block from x on, below y. -/
def Lies (v : Value) (x y : Nat) : Prop := ∀ g, v.ownBlock = some g → x ≤ g ∧ g < y
end Go.Proofs.YtmpioejllfedoaaGreatDoor

/-
  Package plumbref3: Valid, Neg, Sign, by contracts.
-/
namespace Go.Proofs.YtmpioejllfedoaaGreatDoor
open Go Go.RowKit Go.Proofs.YtmpioejllfedoaaGreatDoor.M
set_option linter.unusedSimpArgs false
set_option linter.unusedVariables false

end Go.Proofs.YtmpioejllfedoaaGreatDoor

/-
  Package plumbref3: Neg, Answer, Make, Scale, by contracts.
-/
namespace Go.Proofs.YtmpioejllfedoaaGreatDoor
open Go Go.RowKit Go.Proofs.YtmpioejllfedoaaGreatDoor.M
set_option linter.unusedSimpArgs false
set_option linter.unusedVariables false

end Go.Proofs.YtmpioejllfedoaaGreatDoor

/-
  Package plumbref3: Make, Scale, by contracts.
-/
namespace Go.Proofs.YtmpioejllfedoaaGreatDoor
open Go Go.RowKit Go.Proofs.YtmpioejllfedoaaGreatDoor.M
set_option linter.unusedSimpArgs false
set_option linter.unusedVariables false

/-- The document's own answer: a number, or ErrLong. -/
def RFit (w w' : World) (V : Int) (v : Value) (er : Int) : Prop := DFit w w' V v er
theorem RFit.shape {w w' : World} {V er : Int} {v : Value} (h : RFit w w' V v er) : ∃ ng so sn sc e, v = .agg #[.bool ng, .slice so sn sc, .int .i64 e] := by
  exact DFit.shape h
end Go.Proofs.YtmpioejllfedoaaGreatDoor

/-
  plumblaw3.is: an answer of a number and an error, as the document says, by its contract; a number that is lent.
-/
namespace Go.Proofs.YtmpioejllfedoaaGreatDoor
open Go Go.RowKit Go.Proofs.YtmpioejllfedoaaGreatDoor.M
set_option linter.unusedSimpArgs false
set_option linter.unusedVariables false

/-- A number that was answered, its list from B on. -/
def DAn (B : Nat) (w : World) (V : Int) (v : Value) : Prop := ∃ ng s m e, v = .agg #[.bool ng, s, .int .i64 e] ∧ Dy V ng m e ∧ An B w s m
/-- A number or ErrLong. -/
def DFitA (B : Nat) (w : World) (V : Int) (v : Value) (er : Int) : Prop := (Dok V ∧ er = 0 ∧ DAn B w V v) ∨ (¬ Dok V ∧ er = 2 ∧ v = zeroV)
theorem DAns.dan {w w' : World} {V : Int} {v : Value} (h : DAns w w' V v) : DAn w.heap.size w' V v := by
  obtain ⟨ng, s, m, e, h1, h2, h3⟩ := h
  exact ⟨ng, s, m, e, h1, h2, h3.an⟩
theorem An.wr {B : Nat} {w w' : World} {v : Value} {V : Int} {g : Nat} (h : An B w v V) (hw : Wr g w w') (hg : g < B) : An B w' v V := by
  obtain ⟨t, d, h1, h2⟩ := h
  exact ⟨t, d, h1.of_block fun g' hg' => hw.block g' (h1.ge hg').2 (by have := (h1.ge hg').1; omega), h2⟩
theorem DAn.wr {B : Nat} {w w' : World} {v : Value} {V : Int} {g : Nat} (h : DAn B w V v) (hw : Wr g w w') (hg : g < B) : DAn B w' V v := by
  obtain ⟨ng, s, m, e, h1, h2, h3⟩ := h
  exact ⟨ng, s, m, e, h1, h2, h3.wr hw hg⟩
theorem DAn.keeps {B : Nat} {w w' : World} {v : Value} {V : Int} (h : DAn B w V v) (k : Below w.heap.size w w') : DAn B w' V v := by
  obtain ⟨ng, s, m, e, h1, h2, h3⟩ := h
  exact ⟨ng, s, m, e, h1, h2, h3.keeps k⟩
theorem DAn.lower {B B' : Nat} {w : World} {v : Value} {V : Int} (h : DAn B w V v) (hB : B' ≤ B) : DAn B' w V v := by
  obtain ⟨ng, s, m, e, h1, h2, h3⟩ := h
  exact ⟨ng, s, m, e, h1, h2, h3.lower hB⟩
theorem DAn.num {B : Nat} {w : World} {v : Value} {V : Int} (h : DAn B w V v) : DNum w v V := by
  obtain ⟨ng, s, m, e, h1, h2, h3⟩ := h
  exact ⟨ng, s, m, e, h1, h2, h3.num⟩
theorem DFitA.wr {B : Nat} {w w' : World} {v : Value} {V er : Int} {g : Nat} (h : DFitA B w V v er) (hw : Wr g w w') (hg : g < B) : DFitA B w' V v er := by
  rcases h with ⟨h1, h2, h3⟩ | h
  · exact .inl ⟨h1, h2, h3.wr hw hg⟩
  · exact .inr h
theorem DFitA.keeps {B : Nat} {w w' : World} {v : Value} {V er : Int} (h : DFitA B w V v er) (k : Below w.heap.size w w') : DFitA B w' V v er := by
  rcases h with ⟨h1, h2, h3⟩ | h
  · exact .inl ⟨h1, h2, h3.keeps k⟩
  · exact .inr h
theorem DFitA.lower {B B' : Nat} {w : World} {v : Value} {V er : Int} (h : DFitA B w V v er) (hB : B' ≤ B) : DFitA B' w V v er := by
  rcases h with ⟨h1, h2, h3⟩ | h
  · exact .inl ⟨h1, h2, h3.lower hB⟩
  · exact .inr h
theorem DFitA.shape {B : Nat} {w : World} {v : Value} {V er : Int} (h : DFitA B w V v er) : ∃ ng so sn sc e, v = .agg #[.bool ng, .slice so sn sc, .int .i64 e] := by
  rcases h with ⟨_, _, ng, s, m, e, h1, _, h3⟩ | ⟨_, _, rfl⟩
  · obtain ⟨so, sn, sc, rfl⟩ := h3.shape
    exact ⟨_, _, _, _, _, h1⟩
  · exact ⟨_, _, _, _, _, rfl⟩
theorem DFitA.ge {B : Nat} {w : World} {ng : Bool} {so : Option Addr} {sn sc : Nat} {e V er : Int} (h : DFitA B w V (.agg #[.bool ng, .slice so sn sc, .int .i64 e]) er) : Lies (.slice so sn sc) B w.heap.size := by
  intro g hg
  rcases h with ⟨_, _, ng', s, m, e', h1, _, h3⟩ | ⟨_, _, h1⟩
  · simp only [Value.agg.injEq, Array.mk.injEq, List.cons.injEq, Value.bool.injEq, Value.int.injEq, and_true, true_and] at h1
    obtain ⟨_, h1, _⟩ := h1
    rw [← h1] at h3
    exact h3.ge hg
  · simp only [zeroV, Value.agg.injEq, Array.mk.injEq, List.cons.injEq, Value.bool.injEq, Value.int.injEq, Value.slice.injEq, and_true, true_and] at h1
    obtain ⟨_, ⟨rfl, _, _⟩, _⟩ := h1
    simp [Value.ownBlock] at hg
theorem DAn.parts {B : Nat} {w : World} {ng : Bool} {so : Option Addr} {sn sc : Nat} {e V : Int} (h : DAn B w V (.agg #[.bool ng, .slice so sn sc, .int .i64 e])) : ∃ m, Dy V ng m e ∧ An B w (.slice so sn sc) m := by
  obtain ⟨ng', s, m, e', h1, h2, h3⟩ := h
  simp only [Value.agg.injEq, Array.mk.injEq, List.cons.injEq, Value.bool.injEq, Value.int.injEq, and_true, true_and] at h1
  obtain ⟨rfl, rfl, rfl⟩ := h1
  exact ⟨m, h2, h3⟩
end Go.Proofs.YtmpioejllfedoaaGreatDoor

/-
  Lists of numbers that are the call's own: what lies in them, append.
-/
namespace Go.Proofs.YtmpioejllfedoaaGreatDoor
open Go Go.RowKit Go.Proofs.YtmpioejllfedoaaGreatDoor.M
set_option linter.unusedSimpArgs false
set_option linter.unusedVariables false

/-- The cells of the first m. -/
def cells3 (f : Nat → Value) : Nat → List Value
  | 0 => []
  | m + 1 => cells3 f m ++ (f m).cells.toList
/-- A number's value in memory has three cells, each of them one. -/
def Three (v : Value) : Prop := ∃ ng so sn sc e, v = .agg #[.bool ng, .slice so sn sc, .int .i64 e]
theorem DAn.three {B : Nat} {w : World} {V : Int} {v : Value} (h : DAn B w V v) : Three v := by
  obtain ⟨ng, s, m, e, rfl, _, hA⟩ := h
  obtain ⟨so, sn, sc, rfl⟩ := hA.shape
  exact ⟨_, _, _, _, _, rfl⟩
theorem cells3_length {f : Nat → Value} : ∀ m, (∀ i, i < m → Three (f i)) → (cells3 f m).length = m * 3
  | 0, _ => rfl
  | m + 1, h => by
    obtain ⟨ng, so, sn, sc, e, he⟩ := h m (by omega)
    rw [cells3, List.length_append, cells3_length m fun i hi => h i (by omega), he]
    simp [Value.cells]
    omega
theorem cells3_at {f : Nat → Value} : ∀ m, (∀ i, i < m → Three (f i)) → ∀ i j, i < m → j < 3 → (cells3 f m)[i * 3 + j]? = (f i).cells[j]?
  | 0, _, i, j, hi, _ => by omega
  | m + 1, h, i, j, hi, hj => by
    have hl := cells3_length m fun i hi => h i (by omega)
    rw [cells3]
    by_cases e : i = m
    · subst e
      rw [List.getElem?_append_right (by omega), hl, show i * 3 + j - i * 3 = j by omega]
      simp
    · rw [List.getElem?_append_left (by omega)]
      exact cells3_at m (fun i hi => h i (by omega)) i j (by omega) hj
/-- A list of numbers that is the call's own. -/
def OutN (B : Nat) (w : World) (x : Value) (m : Nat) (f : Nat → Value) : Prop := w.ownsRow B 26 3 x m (cells3 f m)
theorem OutN.nil (B : Nat) (w : World) (f : Nat → Value) : OutN B w (.slice none 0 0) 0 f := ⟨rfl, .inl ⟨rfl, rfl⟩⟩
theorem OutN.of_block {B : Nat} {w w' : World} {x : Value} {m : Nat} {f : Nat → Value} (h : OutN B w x m f) (hb : ∀ g, x.ownBlock = some g → w'.heap[g]? = w.heap[g]?) : OutN B w' x m f := by
  refine ⟨h.1, ?_⟩
  rcases h.2 with hn | ⟨g, cap, cur, rfl, hbb, hg, rest⟩
  · exact .inl hn
  · exact .inr ⟨g, cap, cur, rfl, hbb, (hb g rfl).trans hg, rest⟩
theorem OutN.typed {B : Nat} {w : World} {x : Value} {m : Nat} {f : Nat → Value} (h : OutN B w x m f) {g : Nat} (hg : x.ownBlock = some g) : B ≤ g ∧ g < w.heap.size ∧ ∃ cur z, w.heap[g]? = some (.cells cur 26 z) := by
  rcases h.2 with ⟨rfl, _⟩ | ⟨g', cap, cur, rfl, hbb, hg', rest⟩
  · simp [Value.ownBlock] at hg
  · simp only [Value.ownBlock, Option.some.injEq] at hg; subst hg; exact ⟨hbb, (Array.getElem?_eq_some_iff.1 hg').1, cur, _, hg'⟩
theorem OutN.keeps {B : Nat} {w w' : World} {x : Value} {m : Nat} {f : Nat → Value} (h : OutN B w x m f) (hb : Below w.heap.size w w') : OutN B w' x m f := h.of_block fun g hg => hb.block g (h.typed hg).2.1
theorem OutN.shape {B : Nat} {w : World} {x : Value} {m : Nat} {f : Nat → Value} (h : OutN B w x m f) : ∃ xo xc, x = .slice xo m xc ∧ m ≤ xc ∧ (0 < m → ∃ g, xo = some ⟨g, 0, none⟩) := by
  rcases h.2 with ⟨rfl, rfl⟩ | ⟨g, cap, cur, rfl, hb, hg, hn, hm, _⟩
  · exact ⟨none, 0, rfl, Nat.le_refl _, fun h => by omega⟩
  · exact ⟨_, cap, rfl, hn, fun _ => ⟨g, rfl⟩⟩
theorem OutN.cell {B : Nat} {w : World} {xo : Option Addr} {m xc g : Nat} {f : Nat → Value} (h : OutN B w (.slice xo m xc) m f) (ht : ∀ i, i < m → Three (f i)) (hx : xo = some ⟨g, 0, none⟩) {i j : Nat} (hi : i < m) (hj : j < 3) : w.cell? ⟨g, i * 3 + j, none⟩ = (f i).cells[j]? := by
  rcases h.2 with ⟨_, rfl⟩ | ⟨g', cap, cur, e, hb, hg, hn, hm, hs, ht'⟩
  · omega
  · simp only [Value.slice.injEq] at e
    obtain ⟨rfl, _, rfl⟩ := e
    simp only [Option.some.injEq, Addr.mk.injEq] at hx
    obtain ⟨rfl, _⟩ := hx
    rw [cell_of_row w g' (i * 3 + j) cur _ _ hg, ← cells3_at m ht i j hi hj, ← ht', List.getElem?_take_of_lt (by omega)]
    simp
/-- Lists of numbers that are the call's own, each in a block of its own. -/
structure LS (B : Nat) (w : World) (N : Nat) (X : Nat → Value) (M : Nat → Nat) (F : Nat → Nat → Value) : Prop where
  own : ∀ j, j < N → OutN B w (X j) (M j) (F j)
  ne : ∀ i j, i < N → j < N → i ≠ j → ∀ g, (X i).ownBlock = some g → (X j).ownBlock ≠ some g
theorem LS.keeps {B : Nat} {w w' : World} {N : Nat} {X : Nat → Value} {M : Nat → Nat} {F : Nat → Nat → Value} (h : LS B w N X M F) (hb : Below w.heap.size w w') : LS B w' N X M F := ⟨fun j hj => (h.own j hj).keeps hb, h.ne⟩
theorem LS.put {B : Nat} {w w' : World} {N : Nat} {X : Nat → Value} {M : Nat → Nat} {F : Nat → Nat → Value} (h : LS B w N X M F) (j0 : Nat) {row : Option Nat} (hg : w.grownBy w' row) {v' : Value} {M' : Nat} {F' : Nat → Value} (hO : OutN B w' v' M' F') (h1 : ∀ j, j < N → j ≠ j0 → ∀ g, (X j).ownBlock = some g → row ≠ some g) (h2 : ∀ j, j < N → j ≠ j0 → ∀ g, (X j).ownBlock = some g → v'.ownBlock ≠ some g) :
    LS B w' N (updV X j0 v') (updV M j0 M') (updV F j0 F') := by
  refine ⟨fun j hj => ?_, fun i j hi hj hij g hgi => ?_⟩
  · by_cases e : j = j0
    · subst e; rw [updV_same, updV_same, updV_same]; exact hO
    · rw [updV_other _ _ e, updV_other _ _ e, updV_other _ _ e]
      exact (h.own j hj).of_block fun g hgx => hg.block g ((h.own j hj).typed hgx).2.1 fun e' => h1 j hj e g hgx e'.symm
  · by_cases e : i = j0
    · subst e
      rw [updV_same] at hgi
      rw [updV_other _ _ (Ne.symm hij)]
      exact fun hgj => h2 j hj (Ne.symm hij) g hgj hgi
    · rw [updV_other _ _ e] at hgi
      by_cases e2 : j = j0
      · subst e2
        rw [updV_same]
        exact h2 i hi e g hgi
      · rw [updV_other _ _ e2]
        exact h.ne i j hi hj hij g hgi
theorem LS.row {B : Nat} {w : World} {N : Nat} {X : Nat → Value} {M : Nat → Nat} {F : Nat → Nat → Value} (h : LS B w N X M F) {j : Nat} (hj : j < N) : ∀ g, (X j).ownBlock = some g → ∃ (cur : Array Value) (z : Nat × Nat), w.heap[g]? = some (Obj.cells cur 26 z) := fun g hg => (((h.own j hj).typed hg).2.2)
theorem LS.ge {B : Nat} {w : World} {N : Nat} {X : Nat → Value} {M : Nat → Nat} {F : Nat → Nat → Value} (h : LS B w N X M F) {j : Nat} (hj : j < N) : ∀ g, (X j).ownBlock = some g → B ≤ g := fun g hg => ((h.own j hj).typed hg).1
/-- As a list that is read. -/
theorem OutN.nums {B : Nat} {w : World} {xo : Option Addr} {m xc : Nat} {f : Nat → Value} {r : Nat → NumR} (h : OutN B w (.slice xo m xc) m f) (hm : m ≤ 100000) (hr : ∀ i, i < m → f i = (r i).v ∧ Row w (r i).ao (r i).n (r i).cap (r i).d) : ∃ c2, xc = c2 ∧ Nums w xo m xc r := by
  have ht : ∀ i, i < m → Three (f i) := fun i hi => ⟨_, _, _, _, _, (hr i hi).1⟩
  refine ⟨xc, rfl, ?_⟩
  obtain ⟨xo', xc', e, hle, hsp⟩ := h.shape
  simp only [Value.slice.injEq] at e
  obtain ⟨rfl, _, rfl⟩ := e
  refine ⟨hle, ?_, fun hm0 => ?_⟩
  · rcases h.2 with ⟨e, _⟩ | ⟨g, cap, cur, e, hb, hg, hn, hmx, hs, _⟩
    · simp only [Value.slice.injEq] at e; omega
    · simp only [Value.slice.injEq] at e
      obtain ⟨_, _, rfl⟩ := e
      unfold maxLen at hmx
      omega
  · obtain ⟨g, rfl⟩ := hsp hm0
    have hlt : g < w.heap.size := (h.typed (g := g) rfl).2.1
    refine ⟨g, 0, rfl, hlt, fun i hi => ?_⟩
    obtain ⟨h1, h2⟩ := hr i hi
    have c := fun j (hj : j < 3) => h.cell ht rfl hi (j := j) hj
    rw [h1] at c
    rw [Nat.zero_add]
    exact ⟨c 0 (by decide), c 1 (by decide), c 2 (by decide), h2⟩
end Go.Proofs.YtmpioejllfedoaaGreatDoor

/-
  plumblaw8's around, with no step to either side, and tight, by their contracts.
-/
namespace Go.Proofs.YtmpioejllfedoaaGreatDoor
open Go Go.RowKit Go.Proofs.YtmpioejllfedoaaGreatDoor.M
set_option linter.unusedSimpArgs false
set_option linter.unusedVariables false

theorem cell_dr (w : World) (p : Addr) : w.drew.cell? p = w.cell? p := rfl
end Go.Proofs.YtmpioejllfedoaaGreatDoor

/-
  plumblaw8's around of what is no finite float, by its contract.
-/
namespace Go.Proofs.YtmpioejllfedoaaGreatDoor
open Go Go.RowKit Go.Proofs.YtmpioejllfedoaaGreatDoor.M
set_option linter.unusedSimpArgs false
set_option linter.unusedVariables false

end Go.Proofs.YtmpioejllfedoaaGreatDoor
