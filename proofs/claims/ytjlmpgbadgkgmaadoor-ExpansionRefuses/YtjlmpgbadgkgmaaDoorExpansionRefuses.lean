/-
  ExpansionRefuses: for any two patterns the law returns true: two floats that overlap, stand the wrong way round, or of which one is a nought or none, are no expansion; a sum or product beyond all floats is told as not exact. As a card: the library's tables and the layout of package bits start as the program's text lays them.
-/
import Derived.Test.YtjlmpgbadgkgmaaDoorPart14
import Derived.Test.YtjlmpgbadgkgmaaDoorCards
import Derived.Test.YtjlmpgbadgkgmaaDoorTie
namespace Go.Proofs.YtjlmpgbadgkgmaaDoor.expansionRefuses
open Go Go.ChangeShapes Go.WideShapes Go.ChangeAt Go.RowKit Go.Proofs.YtjlmpgbadgkgmaaDoor Go.Proofs.YtjlmpgbadgkgmaaDoor.M
set_option linter.unusedSimpArgs false
set_option linter.unusedVariables false

theorem pair_rng {a b : Int} (ha : rng a) (hb : rng b) : ∀ i : Nat, i < 2 → rng (d2 a b i) := fun i hi => by
  match i, hi with
  | 0, _ => exact ha
  | 1, _ => exact hb
set_option maxRecDepth 100000 in
set_option maxHeartbeats 4000000 in
theorem bad_a (a b : Int) (w : World) (ha : rng a) (hb : rng b) (H : Hold4 w) (hA : ¬ cls a = 1 ∧ ¬ cls a = 2) (hv : xval (d2 a b) 2 = false) :
    Calls Tryd.prog 3 #[.int .i64 a, .int .i64 b] w fun e w' => e = .returned (.bool true) ∧ Below w.heap.size w w' := by
  have HH : Hid (Hold4 w) := H
  have CA : Hid (∀ W, Hold4 W → Calls Tryd.prog 4 #[.int .i64 a] W fun e w' => e = .returned (.int .i64 (cls a)) ∧ Below W.heap.size W w') := fun W h => class6 W h
  have CB : Hid (∀ W, Hold4 W → Calls Tryd.prog 4 #[.int .i64 b] W fun e w' => e = .returned (.int .i64 (cls b)) ∧ Below W.heap.size W w') := fun W h => class6 W h
  have CX : Hid (∀ W, Hold4 W → Calls Tryd.prog 6 #[.int .i64 a] W fun e w' => e = .returned (.int .i64 (abs a)) ∧ Below W.heap.size W w') := fun W h => (bitsAbs a W h.env.lays ha).mono fun _ _ ⟨h1, h2⟩ => ⟨h1, h2.be⟩
  have CY : Hid (∀ W, Hold4 W → Calls Tryd.prog 6 #[.int .i64 b] W fun e w' => e = .returned (.int .i64 (abs b)) ∧ Below W.heap.size W w') := fun W h => (bitsAbs b W h.env.lays hb).mono fun _ _ ⟨h1, h2⟩ => ⟨h1, h2.be⟩
  have CL : Hid (∀ W, Calls Tryd.prog 5 #[.int .i64 (abs a), .int .i64 (abs b)] W fun e w' => e = .returned (.bool (less (abs a) (abs b))) ∧ w' = W) := fun W => bitsLess1 _ _ W (xabs_rng ha) (xabs_rng hb)
  have C1 : Hid (∀ W ao cap, Hold4 W → Row W ao 1 cap (fun _ => 9218868437227405311) → Calls Tryd.prog 7 #[.slice ao 1 cap, .int .i64 9218868437227405311] W fun r w' => r = .returned (.tuple #[.slice none 0 0, .int .i64 14]) ∧ Below W.heap.size W w') := fun W ao cap hW hR => (xGrow W hR (xk_r _ (by decide)) xk_v1 (xk_rng _ (by decide)) xk_pt (by decide) hW).mono fun r w' hx => hx.no xk_grow_top
  have C2 : Hid (∀ W ao cap, Hold4 W → Row W ao 1 cap (fun _ => 9218868437227405311) → Calls Tryd.prog 8 #[.slice ao 1 cap, .int .i64 9218868437227405311] W fun r w' => r = .returned (.tuple #[.slice none 0 0, .int .i64 14]) ∧ Below W.heap.size W w') := fun W ao cap hW hR => (xScale W hR (xk_r _ (by decide)) xk_v1 (xk_rng _ (by decide)) xk_pt (by decide) hW).mono fun r w' hx => hx.no xk_scale_top
  have C3 : Hid (∀ W ao cap, Hold4 W → Row W ao 1 cap (fun _ => 1) → Calls Tryd.prog 8 #[.slice ao 1 cap, .int .i64 1] W fun r w' => r = .returned (.tuple #[.slice none 0 0, .int .i64 14]) ∧ Below W.heap.size W w') := fun W ao cap hW hR => (xScale W hR (xk_r _ (by decide)) xk_v2 (xk_rng _ (by decide)) (by decide) (by decide) hW).mono fun r w' hx => hx.no xk_scale_one
  have CV : Hid (∀ W ao cap, Hold4 W → Row W ao 2 cap (d2 a b) → Calls Tryd.prog 11 #[.slice ao 2 cap] W fun e w' => e = .returned (.bool false) ∧ Below W.heap.size W w') := fun W ao cap hW hR => by
    have := xvalid_any W hR hW
    rw [hv] at this
    exact this
  have CN : Hid (∀ W, Hold4 W → Calls Tryd.prog 11 #[.slice none 0 0] W fun e w' => e = .returned (.bool true) ∧ Below W.heap.size W w') := fun W hW => xvalid_any (d := fun _ => 0) W (Row.nil _ _) hW
  have CS : Hid (∀ W ao cap, Hold4 W → Row W ao 2 cap (d2 a b) → Calls Tryd.prog 9 #[.slice ao 2 cap, .slice none 0 0] W fun r w' => r = .returned (.tuple #[.slice none 0 0, .int .i64 1]) ∧ Below W.heap.size W w') := fun W ao cap hW hR => xSum_bad (f := fun _ => 0) W hR (Row.nil _ _) hv hW
  clear hv ha hb H
  have hA1 : (cls a == 1) = false := by simpa using hA.1
  have hA2 : (cls a == 2) = false := by simpa using hA.2
  generalize cls a = cA at *
  go_enter Tryd.func3, Tryd.ntmps3
  have hc0 := bel_refl w
  go_wp2_with fail
  refine (CA.out _ (HH.out.keeps hc0)).mono ?_
  rintro _ v1 ⟨rfl, hv1⟩
  have hc1 := bel_trans hc0 hv1
  go_wp2_with fail
  refine (CA.out _ (HH.out.keeps hc1)).mono ?_
  rintro _ v2 ⟨rfl, hv2⟩
  have hc2 := bel_trans hc1 hv2
  go_wp2_with fail
  have hbA := hc2
  have hn1 := bel_alloc v2 (.cells #[.int .i64 9218868437227405311] 3)
  have hb1' := bel_trans hbA hn1
  refine (C1.out _ _ _ (HH.out.keeps hb1') (row1 v2 _ rfl)).mono ?_
  rintro _ w1 ⟨rfl, hw1⟩
  have hb1 := bel_trans hb1' hw1
  have hn2 := bel_alloc w1 (.cells #[.int .i64 9218868437227405311] 3)
  have hb2' := bel_trans hb1 hn2
  go_wp2_with fail
  refine (C2.out _ _ _ (HH.out.keeps hb2') (row1 w1 _ rfl)).mono ?_
  rintro _ w2 ⟨rfl, hw2⟩
  have hb2 := bel_trans hb2' hw2
  have hn3 := bel_alloc w2 (.cells #[.int .i64 1] 3)
  have hb3' := bel_trans hb2 hn3
  go_wp2_with fail
  refine (C3.out _ _ _ (HH.out.keeps hb3') (row1 w2 _ rfl)).mono ?_
  rintro _ w3 ⟨rfl, hw3⟩
  have hb3 := bel_trans hb3' hw3
  have hn4 := bel_alloc w3 (.cells #[.int .i64 a, .int .i64 b] 3)
  have hb4' := bel_trans hb3 hn4
  go_wp2_with fail
  refine (CS.out _ _ _ (HH.out.keeps hb4') (row2 w3 a b rfl)).mono ?_
  rintro _ w4 ⟨rfl, hw4⟩
  have hb4 := bel_trans hb4' hw4
  go_wp2_with fail
  refine (alive7 _ (HH.out.keeps hb4)).mono ?_
  rintro _ w5 ⟨rfl, hw5⟩
  have hb5 := bel_trans hb4 hw5
  have hn6 := bel_alloc w5 (.cells #[.int .i64 a, .int .i64 b] 3)
  have hb6' := bel_trans hb5 hn6
  go_wp2_with fail
  refine (CV.out _ _ _ (HH.out.keeps hb6') (row2 w5 a b rfl)).mono ?_
  rintro _ w6 ⟨rfl, hw6⟩
  have hb6 := bel_trans hb6' hw6
  go_wp2_with fail
  refine (CN.out _ (HH.out.keeps hb6)).mono ?_
  rintro _ w7 ⟨rfl, hw7⟩
  have hb7 := bel_trans hb6 hw7
  go_wp2
  all_goals go_ret
  all_goals exact ⟨rfl, by first | exact hb7 | exact hb7.drew⟩
set_option maxRecDepth 100000 in
set_option maxHeartbeats 4000000 in
theorem bad_b1 (a b : Int) (w : World) (ha : rng a) (hb : rng b) (H : Hold4 w) (hA : cls a = 1) (hB : ¬ cls b = 1 ∧ ¬ cls b = 2) (hv : xval (d2 a b) 2 = false) :
    Calls Tryd.prog 3 #[.int .i64 a, .int .i64 b] w fun e w' => e = .returned (.bool true) ∧ Below w.heap.size w w' := by
  have HH : Hid (Hold4 w) := H
  have CA : Hid (∀ W, Hold4 W → Calls Tryd.prog 4 #[.int .i64 a] W fun e w' => e = .returned (.int .i64 (cls a)) ∧ Below W.heap.size W w') := fun W h => class6 W h
  have CB : Hid (∀ W, Hold4 W → Calls Tryd.prog 4 #[.int .i64 b] W fun e w' => e = .returned (.int .i64 (cls b)) ∧ Below W.heap.size W w') := fun W h => class6 W h
  have CX : Hid (∀ W, Hold4 W → Calls Tryd.prog 6 #[.int .i64 a] W fun e w' => e = .returned (.int .i64 (abs a)) ∧ Below W.heap.size W w') := fun W h => (bitsAbs a W h.env.lays ha).mono fun _ _ ⟨h1, h2⟩ => ⟨h1, h2.be⟩
  have CY : Hid (∀ W, Hold4 W → Calls Tryd.prog 6 #[.int .i64 b] W fun e w' => e = .returned (.int .i64 (abs b)) ∧ Below W.heap.size W w') := fun W h => (bitsAbs b W h.env.lays hb).mono fun _ _ ⟨h1, h2⟩ => ⟨h1, h2.be⟩
  have CL : Hid (∀ W, Calls Tryd.prog 5 #[.int .i64 (abs a), .int .i64 (abs b)] W fun e w' => e = .returned (.bool (less (abs a) (abs b))) ∧ w' = W) := fun W => bitsLess1 _ _ W (xabs_rng ha) (xabs_rng hb)
  have C1 : Hid (∀ W ao cap, Hold4 W → Row W ao 1 cap (fun _ => 9218868437227405311) → Calls Tryd.prog 7 #[.slice ao 1 cap, .int .i64 9218868437227405311] W fun r w' => r = .returned (.tuple #[.slice none 0 0, .int .i64 14]) ∧ Below W.heap.size W w') := fun W ao cap hW hR => (xGrow W hR (xk_r _ (by decide)) xk_v1 (xk_rng _ (by decide)) xk_pt (by decide) hW).mono fun r w' hx => hx.no xk_grow_top
  have C2 : Hid (∀ W ao cap, Hold4 W → Row W ao 1 cap (fun _ => 9218868437227405311) → Calls Tryd.prog 8 #[.slice ao 1 cap, .int .i64 9218868437227405311] W fun r w' => r = .returned (.tuple #[.slice none 0 0, .int .i64 14]) ∧ Below W.heap.size W w') := fun W ao cap hW hR => (xScale W hR (xk_r _ (by decide)) xk_v1 (xk_rng _ (by decide)) xk_pt (by decide) hW).mono fun r w' hx => hx.no xk_scale_top
  have C3 : Hid (∀ W ao cap, Hold4 W → Row W ao 1 cap (fun _ => 1) → Calls Tryd.prog 8 #[.slice ao 1 cap, .int .i64 1] W fun r w' => r = .returned (.tuple #[.slice none 0 0, .int .i64 14]) ∧ Below W.heap.size W w') := fun W ao cap hW hR => (xScale W hR (xk_r _ (by decide)) xk_v2 (xk_rng _ (by decide)) (by decide) (by decide) hW).mono fun r w' hx => hx.no xk_scale_one
  have CV : Hid (∀ W ao cap, Hold4 W → Row W ao 2 cap (d2 a b) → Calls Tryd.prog 11 #[.slice ao 2 cap] W fun e w' => e = .returned (.bool false) ∧ Below W.heap.size W w') := fun W ao cap hW hR => by
    have := xvalid_any W hR hW
    rw [hv] at this
    exact this
  have CN : Hid (∀ W, Hold4 W → Calls Tryd.prog 11 #[.slice none 0 0] W fun e w' => e = .returned (.bool true) ∧ Below W.heap.size W w') := fun W hW => xvalid_any (d := fun _ => 0) W (Row.nil _ _) hW
  have CS : Hid (∀ W ao cap, Hold4 W → Row W ao 2 cap (d2 a b) → Calls Tryd.prog 9 #[.slice ao 2 cap, .slice none 0 0] W fun r w' => r = .returned (.tuple #[.slice none 0 0, .int .i64 1]) ∧ Below W.heap.size W w') := fun W ao cap hW hR => xSum_bad (f := fun _ => 0) W hR (Row.nil _ _) hv hW
  clear hv ha hb H
  have hA1 : cls a = 1 := hA
  rw [hA1] at CA
  clear hA1
  have hB1 : (cls b == 1) = false := by simpa using hB.1
  have hB2 : (cls b == 2) = false := by simpa using hB.2
  generalize cls b = cB at *
  go_enter Tryd.func3, Tryd.ntmps3
  have hc0 := bel_refl w
  go_wp2_with fail
  refine (CA.out _ (HH.out.keeps hc0)).mono ?_
  rintro _ v1 ⟨rfl, hv1⟩
  have hc1 := bel_trans hc0 hv1
  go_wp2_with fail
  refine (CB.out _ (HH.out.keeps hc1)).mono ?_
  rintro _ v2 ⟨rfl, hv2⟩
  have hc2 := bel_trans hc1 hv2
  go_wp2_with fail
  refine (CB.out _ (HH.out.keeps hc2)).mono ?_
  rintro _ v3 ⟨rfl, hv3⟩
  have hc3 := bel_trans hc2 hv3
  go_wp2_with fail
  have hbA := hc3
  have hn1 := bel_alloc v3 (.cells #[.int .i64 9218868437227405311] 3)
  have hb1' := bel_trans hbA hn1
  refine (C1.out _ _ _ (HH.out.keeps hb1') (row1 v3 _ rfl)).mono ?_
  rintro _ w1 ⟨rfl, hw1⟩
  have hb1 := bel_trans hb1' hw1
  have hn2 := bel_alloc w1 (.cells #[.int .i64 9218868437227405311] 3)
  have hb2' := bel_trans hb1 hn2
  go_wp2_with fail
  refine (C2.out _ _ _ (HH.out.keeps hb2') (row1 w1 _ rfl)).mono ?_
  rintro _ w2 ⟨rfl, hw2⟩
  have hb2 := bel_trans hb2' hw2
  have hn3 := bel_alloc w2 (.cells #[.int .i64 1] 3)
  have hb3' := bel_trans hb2 hn3
  go_wp2_with fail
  refine (C3.out _ _ _ (HH.out.keeps hb3') (row1 w2 _ rfl)).mono ?_
  rintro _ w3 ⟨rfl, hw3⟩
  have hb3 := bel_trans hb3' hw3
  have hn4 := bel_alloc w3 (.cells #[.int .i64 a, .int .i64 b] 3)
  have hb4' := bel_trans hb3 hn4
  go_wp2_with fail
  refine (CS.out _ _ _ (HH.out.keeps hb4') (row2 w3 a b rfl)).mono ?_
  rintro _ w4 ⟨rfl, hw4⟩
  have hb4 := bel_trans hb4' hw4
  go_wp2_with fail
  refine (alive7 _ (HH.out.keeps hb4)).mono ?_
  rintro _ w5 ⟨rfl, hw5⟩
  have hb5 := bel_trans hb4 hw5
  have hn6 := bel_alloc w5 (.cells #[.int .i64 a, .int .i64 b] 3)
  have hb6' := bel_trans hb5 hn6
  go_wp2_with fail
  refine (CV.out _ _ _ (HH.out.keeps hb6') (row2 w5 a b rfl)).mono ?_
  rintro _ w6 ⟨rfl, hw6⟩
  have hb6 := bel_trans hb6' hw6
  go_wp2_with fail
  refine (CN.out _ (HH.out.keeps hb6)).mono ?_
  rintro _ w7 ⟨rfl, hw7⟩
  have hb7 := bel_trans hb6 hw7
  go_wp2
  all_goals go_ret
  all_goals exact ⟨rfl, by first | exact hb7 | exact hb7.drew⟩
set_option maxRecDepth 100000 in
set_option maxHeartbeats 4000000 in
theorem bad_l11 (a b : Int) (w : World) (ha : rng a) (hb : rng b) (H : Hold4 w) (hA : cls a = 1) (hB : cls b = 1) (hL : less (abs a) (abs b) = false) (hv : xval (d2 a b) 2 = false) :
    Calls Tryd.prog 3 #[.int .i64 a, .int .i64 b] w fun e w' => e = .returned (.bool true) ∧ Below w.heap.size w w' := by
  have HH : Hid (Hold4 w) := H
  have CA : Hid (∀ W, Hold4 W → Calls Tryd.prog 4 #[.int .i64 a] W fun e w' => e = .returned (.int .i64 (cls a)) ∧ Below W.heap.size W w') := fun W h => class6 W h
  have CB : Hid (∀ W, Hold4 W → Calls Tryd.prog 4 #[.int .i64 b] W fun e w' => e = .returned (.int .i64 (cls b)) ∧ Below W.heap.size W w') := fun W h => class6 W h
  have CX : Hid (∀ W, Hold4 W → Calls Tryd.prog 6 #[.int .i64 a] W fun e w' => e = .returned (.int .i64 (abs a)) ∧ Below W.heap.size W w') := fun W h => (bitsAbs a W h.env.lays ha).mono fun _ _ ⟨h1, h2⟩ => ⟨h1, h2.be⟩
  have CY : Hid (∀ W, Hold4 W → Calls Tryd.prog 6 #[.int .i64 b] W fun e w' => e = .returned (.int .i64 (abs b)) ∧ Below W.heap.size W w') := fun W h => (bitsAbs b W h.env.lays hb).mono fun _ _ ⟨h1, h2⟩ => ⟨h1, h2.be⟩
  have CL : Hid (∀ W, Calls Tryd.prog 5 #[.int .i64 (abs a), .int .i64 (abs b)] W fun e w' => e = .returned (.bool (less (abs a) (abs b))) ∧ w' = W) := fun W => bitsLess1 _ _ W (xabs_rng ha) (xabs_rng hb)
  have C1 : Hid (∀ W ao cap, Hold4 W → Row W ao 1 cap (fun _ => 9218868437227405311) → Calls Tryd.prog 7 #[.slice ao 1 cap, .int .i64 9218868437227405311] W fun r w' => r = .returned (.tuple #[.slice none 0 0, .int .i64 14]) ∧ Below W.heap.size W w') := fun W ao cap hW hR => (xGrow W hR (xk_r _ (by decide)) xk_v1 (xk_rng _ (by decide)) xk_pt (by decide) hW).mono fun r w' hx => hx.no xk_grow_top
  have C2 : Hid (∀ W ao cap, Hold4 W → Row W ao 1 cap (fun _ => 9218868437227405311) → Calls Tryd.prog 8 #[.slice ao 1 cap, .int .i64 9218868437227405311] W fun r w' => r = .returned (.tuple #[.slice none 0 0, .int .i64 14]) ∧ Below W.heap.size W w') := fun W ao cap hW hR => (xScale W hR (xk_r _ (by decide)) xk_v1 (xk_rng _ (by decide)) xk_pt (by decide) hW).mono fun r w' hx => hx.no xk_scale_top
  have C3 : Hid (∀ W ao cap, Hold4 W → Row W ao 1 cap (fun _ => 1) → Calls Tryd.prog 8 #[.slice ao 1 cap, .int .i64 1] W fun r w' => r = .returned (.tuple #[.slice none 0 0, .int .i64 14]) ∧ Below W.heap.size W w') := fun W ao cap hW hR => (xScale W hR (xk_r _ (by decide)) xk_v2 (xk_rng _ (by decide)) (by decide) (by decide) hW).mono fun r w' hx => hx.no xk_scale_one
  have CV : Hid (∀ W ao cap, Hold4 W → Row W ao 2 cap (d2 a b) → Calls Tryd.prog 11 #[.slice ao 2 cap] W fun e w' => e = .returned (.bool false) ∧ Below W.heap.size W w') := fun W ao cap hW hR => by
    have := xvalid_any W hR hW
    rw [hv] at this
    exact this
  have CN : Hid (∀ W, Hold4 W → Calls Tryd.prog 11 #[.slice none 0 0] W fun e w' => e = .returned (.bool true) ∧ Below W.heap.size W w') := fun W hW => xvalid_any (d := fun _ => 0) W (Row.nil _ _) hW
  have CS : Hid (∀ W ao cap, Hold4 W → Row W ao 2 cap (d2 a b) → Calls Tryd.prog 9 #[.slice ao 2 cap, .slice none 0 0] W fun r w' => r = .returned (.tuple #[.slice none 0 0, .int .i64 1]) ∧ Below W.heap.size W w') := fun W ao cap hW hR => xSum_bad (f := fun _ => 0) W hR (Row.nil _ _) hv hW
  clear hv ha hb H
  have hA1 : cls a = 1 := hA
  rw [hA1] at CA
  clear hA1
  have hB1 : cls b = 1 := hB
  rw [hB1] at CB
  clear hB1
  rw [hL] at CL
  go_enter Tryd.func3, Tryd.ntmps3
  have hc0 := bel_refl w
  go_wp2_with fail
  refine (CA.out _ (HH.out.keeps hc0)).mono ?_
  rintro _ v1 ⟨rfl, hv1⟩
  have hc1 := bel_trans hc0 hv1
  go_wp2_with fail
  refine (CB.out _ (HH.out.keeps hc1)).mono ?_
  rintro _ v2 ⟨rfl, hv2⟩
  have hc2 := bel_trans hc1 hv2
  go_wp2_with fail
  refine (CX.out _ (HH.out.keeps hc2)).mono ?_
  rintro _ v3 ⟨rfl, hv3⟩
  have hc3 := bel_trans hc2 hv3
  go_wp2_with fail
  refine (CY.out _ (HH.out.keeps hc3)).mono ?_
  rintro _ v4 ⟨rfl, hv4⟩
  have hc4 := bel_trans hc3 hv4
  go_wp2_with fail
  refine (CL.out _).mono ?_
  rintro _ wz ⟨rfl, hw⟩
  replace hw := hw.symm
  subst hw
  go_wp2_with fail
  have hbA := hc4
  have hn1 := bel_alloc v4 (.cells #[.int .i64 9218868437227405311] 3)
  have hb1' := bel_trans hbA hn1
  refine (C1.out _ _ _ (HH.out.keeps hb1') (row1 v4 _ rfl)).mono ?_
  rintro _ w1 ⟨rfl, hw1⟩
  have hb1 := bel_trans hb1' hw1
  have hn2 := bel_alloc w1 (.cells #[.int .i64 9218868437227405311] 3)
  have hb2' := bel_trans hb1 hn2
  go_wp2_with fail
  refine (C2.out _ _ _ (HH.out.keeps hb2') (row1 w1 _ rfl)).mono ?_
  rintro _ w2 ⟨rfl, hw2⟩
  have hb2 := bel_trans hb2' hw2
  have hn3 := bel_alloc w2 (.cells #[.int .i64 1] 3)
  have hb3' := bel_trans hb2 hn3
  go_wp2_with fail
  refine (C3.out _ _ _ (HH.out.keeps hb3') (row1 w2 _ rfl)).mono ?_
  rintro _ w3 ⟨rfl, hw3⟩
  have hb3 := bel_trans hb3' hw3
  have hn4 := bel_alloc w3 (.cells #[.int .i64 a, .int .i64 b] 3)
  have hb4' := bel_trans hb3 hn4
  go_wp2_with fail
  refine (CS.out _ _ _ (HH.out.keeps hb4') (row2 w3 a b rfl)).mono ?_
  rintro _ w4 ⟨rfl, hw4⟩
  have hb4 := bel_trans hb4' hw4
  go_wp2_with fail
  refine (alive7 _ (HH.out.keeps hb4)).mono ?_
  rintro _ w5 ⟨rfl, hw5⟩
  have hb5 := bel_trans hb4 hw5
  have hn6 := bel_alloc w5 (.cells #[.int .i64 a, .int .i64 b] 3)
  have hb6' := bel_trans hb5 hn6
  go_wp2_with fail
  refine (CV.out _ _ _ (HH.out.keeps hb6') (row2 w5 a b rfl)).mono ?_
  rintro _ w6 ⟨rfl, hw6⟩
  have hb6 := bel_trans hb6' hw6
  go_wp2_with fail
  refine (CN.out _ (HH.out.keeps hb6)).mono ?_
  rintro _ w7 ⟨rfl, hw7⟩
  have hb7 := bel_trans hb6 hw7
  go_wp2
  all_goals go_ret
  all_goals exact ⟨rfl, by first | exact hb7 | exact hb7.drew⟩
set_option maxRecDepth 100000 in
set_option maxHeartbeats 4000000 in
theorem good11 (a b : Int) (w : World) (ha : rng a) (hb : rng b) (H : Hold4 w) (hA : cls a = 1) (hB : cls b = 1) (hL : less (abs a) (abs b) = true) (hv : xval (d2 a b) 2 = true) :
    Calls Tryd.prog 3 #[.int .i64 a, .int .i64 b] w fun e w' => e = .returned (.bool true) ∧ Below w.heap.size w w' := by
  have HH : Hid (Hold4 w) := H
  have CA : Hid (∀ W, Hold4 W → Calls Tryd.prog 4 #[.int .i64 a] W fun e w' => e = .returned (.int .i64 (cls a)) ∧ Below W.heap.size W w') := fun W h => class6 W h
  have CB : Hid (∀ W, Hold4 W → Calls Tryd.prog 4 #[.int .i64 b] W fun e w' => e = .returned (.int .i64 (cls b)) ∧ Below W.heap.size W w') := fun W h => class6 W h
  have CX : Hid (∀ W, Hold4 W → Calls Tryd.prog 6 #[.int .i64 a] W fun e w' => e = .returned (.int .i64 (abs a)) ∧ Below W.heap.size W w') := fun W h => (bitsAbs a W h.env.lays ha).mono fun _ _ ⟨h1, h2⟩ => ⟨h1, h2.be⟩
  have CY : Hid (∀ W, Hold4 W → Calls Tryd.prog 6 #[.int .i64 b] W fun e w' => e = .returned (.int .i64 (abs b)) ∧ Below W.heap.size W w') := fun W h => (bitsAbs b W h.env.lays hb).mono fun _ _ ⟨h1, h2⟩ => ⟨h1, h2.be⟩
  have CL : Hid (∀ W, Calls Tryd.prog 5 #[.int .i64 (abs a), .int .i64 (abs b)] W fun e w' => e = .returned (.bool (less (abs a) (abs b))) ∧ w' = W) := fun W => bitsLess1 _ _ W (xabs_rng ha) (xabs_rng hb)
  have C1 : Hid (∀ W ao cap, Hold4 W → Row W ao 1 cap (fun _ => 9218868437227405311) → Calls Tryd.prog 7 #[.slice ao 1 cap, .int .i64 9218868437227405311] W fun r w' => r = .returned (.tuple #[.slice none 0 0, .int .i64 14]) ∧ Below W.heap.size W w') := fun W ao cap hW hR => (xGrow W hR (xk_r _ (by decide)) xk_v1 (xk_rng _ (by decide)) xk_pt (by decide) hW).mono fun r w' hx => hx.no xk_grow_top
  have C2 : Hid (∀ W ao cap, Hold4 W → Row W ao 1 cap (fun _ => 9218868437227405311) → Calls Tryd.prog 8 #[.slice ao 1 cap, .int .i64 9218868437227405311] W fun r w' => r = .returned (.tuple #[.slice none 0 0, .int .i64 14]) ∧ Below W.heap.size W w') := fun W ao cap hW hR => (xScale W hR (xk_r _ (by decide)) xk_v1 (xk_rng _ (by decide)) xk_pt (by decide) hW).mono fun r w' hx => hx.no xk_scale_top
  have C3 : Hid (∀ W ao cap, Hold4 W → Row W ao 1 cap (fun _ => 1) → Calls Tryd.prog 8 #[.slice ao 1 cap, .int .i64 1] W fun r w' => r = .returned (.tuple #[.slice none 0 0, .int .i64 14]) ∧ Below W.heap.size W w') := fun W ao cap hW hR => (xScale W hR (xk_r _ (by decide)) xk_v2 (xk_rng _ (by decide)) (by decide) (by decide) hW).mono fun r w' hx => hx.no xk_scale_one
  have CV : Hid (∀ W ao cap, Hold4 W → Row W ao 2 cap (d2 a b) → Calls Tryd.prog 11 #[.slice ao 2 cap] W fun e w' => e = .returned (.bool true) ∧ Below W.heap.size W w') := fun W ao cap hW hR => by
    have := xvalid_any W hR hW
    rw [hv] at this
    exact this
  have CN : Hid (∀ W, Hold4 W → Calls Tryd.prog 11 #[.slice none 0 0] W fun e w' => e = .returned (.bool true) ∧ Below W.heap.size W w') := fun W hW => xvalid_any (d := fun _ => 0) W (Row.nil _ _) hW
  have CS : Hid (∀ W ao cap, Hold4 W → Row W ao 2 cap (d2 a b) → Calls Tryd.prog 9 #[.slice ao 2 cap, .slice none 0 0] W fun r w' => ∃ v, r = .returned (.tuple #[v, .int .i64 0]) ∧ Below W.heap.size W w') := fun W ao cap hW hR => by
    refine (xSum (f := fun _ => 0) W hR (Row.nil _ _) (pair_rng ha hb) (fun i hi => by omega) hv rfl (by decide) hW).mono fun r w' hx => ?_
    obtain ⟨ao, cap, e1, _, e3⟩ := hx.yes rfl
    exact ⟨_, e1, e3⟩
  clear hv ha hb H
  have hA1 : cls a = 1 := hA
  rw [hA1] at CA
  clear hA1
  have hB1 : cls b = 1 := hB
  rw [hB1] at CB
  clear hB1
  rw [hL] at CL
  go_enter Tryd.func3, Tryd.ntmps3
  have hc0 := bel_refl w
  go_wp2_with fail
  refine (CA.out _ (HH.out.keeps hc0)).mono ?_
  rintro _ v1 ⟨rfl, hv1⟩
  have hc1 := bel_trans hc0 hv1
  go_wp2_with fail
  refine (CB.out _ (HH.out.keeps hc1)).mono ?_
  rintro _ v2 ⟨rfl, hv2⟩
  have hc2 := bel_trans hc1 hv2
  go_wp2_with fail
  refine (CX.out _ (HH.out.keeps hc2)).mono ?_
  rintro _ v3 ⟨rfl, hv3⟩
  have hc3 := bel_trans hc2 hv3
  go_wp2_with fail
  refine (CY.out _ (HH.out.keeps hc3)).mono ?_
  rintro _ v4 ⟨rfl, hv4⟩
  have hc4 := bel_trans hc3 hv4
  go_wp2_with fail
  refine (CL.out _).mono ?_
  rintro _ wz ⟨rfl, hw⟩
  replace hw := hw.symm
  subst hw
  go_wp2_with fail
  have hbA := hc4
  have hn1 := bel_alloc v4 (.cells #[.int .i64 9218868437227405311] 3)
  have hb1' := bel_trans hbA hn1
  refine (C1.out _ _ _ (HH.out.keeps hb1') (row1 v4 _ rfl)).mono ?_
  rintro _ w1 ⟨rfl, hw1⟩
  have hb1 := bel_trans hb1' hw1
  have hn2 := bel_alloc w1 (.cells #[.int .i64 9218868437227405311] 3)
  have hb2' := bel_trans hb1 hn2
  go_wp2_with fail
  refine (C2.out _ _ _ (HH.out.keeps hb2') (row1 w1 _ rfl)).mono ?_
  rintro _ w2 ⟨rfl, hw2⟩
  have hb2 := bel_trans hb2' hw2
  have hn3 := bel_alloc w2 (.cells #[.int .i64 1] 3)
  have hb3' := bel_trans hb2 hn3
  go_wp2_with fail
  refine (C3.out _ _ _ (HH.out.keeps hb3') (row1 w2 _ rfl)).mono ?_
  rintro _ w3 ⟨rfl, hw3⟩
  have hb3 := bel_trans hb3' hw3
  have hn4 := bel_alloc w3 (.cells #[.int .i64 a, .int .i64 b] 3)
  have hb4' := bel_trans hb3 hn4
  go_wp2_with fail
  refine (CS.out _ _ _ (HH.out.keeps hb4') (row2 w3 a b rfl)).mono ?_
  rintro _ w4 ⟨vs, rfl, hw4⟩
  have hb4 := bel_trans hb4' hw4
  go_wp2_with fail
  refine (alive7 _ (HH.out.keeps hb4)).mono ?_
  rintro _ w5 ⟨rfl, hw5⟩
  have hb5 := bel_trans hb4 hw5
  go_wp2_with fail
  refine (CN.out _ (HH.out.keeps hb5)).mono ?_
  rintro _ w6 ⟨rfl, hw6⟩
  have hb6 := bel_trans hb5 hw6
  have hn7 := bel_alloc w6 (.cells #[.int .i64 a, .int .i64 b] 3)
  have hb7' := bel_trans hb6 hn7
  go_wp2_with fail
  refine (CV.out _ _ _ (HH.out.keeps hb7') (row2 w6 a b rfl)).mono ?_
  rintro _ w7 ⟨rfl, hw7⟩
  have hb7 := bel_trans hb7' hw7
  go_wp2
  all_goals go_ret
  all_goals exact ⟨rfl, by first | exact hb7 | exact hb7.drew⟩
set_option maxRecDepth 100000 in
set_option maxHeartbeats 4000000 in
theorem open11 (a b : Int) (w : World) (ha : rng a) (hb : rng b) (H : Hold4 w) (hA : cls a = 1) (hB : cls b = 1) (hL : less (abs a) (abs b) = true) (hv : xval (d2 a b) 2 = false) :
    Calls Tryd.prog 3 #[.int .i64 a, .int .i64 b] w fun e w' => e = .returned (.bool true) ∧ Below w.heap.size w w' := by
  have HH : Hid (Hold4 w) := H
  have CA : Hid (∀ W, Hold4 W → Calls Tryd.prog 4 #[.int .i64 a] W fun e w' => e = .returned (.int .i64 (cls a)) ∧ Below W.heap.size W w') := fun W h => class6 W h
  have CB : Hid (∀ W, Hold4 W → Calls Tryd.prog 4 #[.int .i64 b] W fun e w' => e = .returned (.int .i64 (cls b)) ∧ Below W.heap.size W w') := fun W h => class6 W h
  have CX : Hid (∀ W, Hold4 W → Calls Tryd.prog 6 #[.int .i64 a] W fun e w' => e = .returned (.int .i64 (abs a)) ∧ Below W.heap.size W w') := fun W h => (bitsAbs a W h.env.lays ha).mono fun _ _ ⟨h1, h2⟩ => ⟨h1, h2.be⟩
  have CY : Hid (∀ W, Hold4 W → Calls Tryd.prog 6 #[.int .i64 b] W fun e w' => e = .returned (.int .i64 (abs b)) ∧ Below W.heap.size W w') := fun W h => (bitsAbs b W h.env.lays hb).mono fun _ _ ⟨h1, h2⟩ => ⟨h1, h2.be⟩
  have CL : Hid (∀ W, Calls Tryd.prog 5 #[.int .i64 (abs a), .int .i64 (abs b)] W fun e w' => e = .returned (.bool (less (abs a) (abs b))) ∧ w' = W) := fun W => bitsLess1 _ _ W (xabs_rng ha) (xabs_rng hb)
  have C1 : Hid (∀ W ao cap, Hold4 W → Row W ao 1 cap (fun _ => 9218868437227405311) → Calls Tryd.prog 7 #[.slice ao 1 cap, .int .i64 9218868437227405311] W fun r w' => r = .returned (.tuple #[.slice none 0 0, .int .i64 14]) ∧ Below W.heap.size W w') := fun W ao cap hW hR => (xGrow W hR (xk_r _ (by decide)) xk_v1 (xk_rng _ (by decide)) xk_pt (by decide) hW).mono fun r w' hx => hx.no xk_grow_top
  have C2 : Hid (∀ W ao cap, Hold4 W → Row W ao 1 cap (fun _ => 9218868437227405311) → Calls Tryd.prog 8 #[.slice ao 1 cap, .int .i64 9218868437227405311] W fun r w' => r = .returned (.tuple #[.slice none 0 0, .int .i64 14]) ∧ Below W.heap.size W w') := fun W ao cap hW hR => (xScale W hR (xk_r _ (by decide)) xk_v1 (xk_rng _ (by decide)) xk_pt (by decide) hW).mono fun r w' hx => hx.no xk_scale_top
  have C3 : Hid (∀ W ao cap, Hold4 W → Row W ao 1 cap (fun _ => 1) → Calls Tryd.prog 8 #[.slice ao 1 cap, .int .i64 1] W fun r w' => r = .returned (.tuple #[.slice none 0 0, .int .i64 14]) ∧ Below W.heap.size W w') := fun W ao cap hW hR => (xScale W hR (xk_r _ (by decide)) xk_v2 (xk_rng _ (by decide)) (by decide) (by decide) hW).mono fun r w' hx => hx.no xk_scale_one
  have CV : Hid (∀ W ao cap, Hold4 W → Row W ao 2 cap (d2 a b) → Calls Tryd.prog 11 #[.slice ao 2 cap] W fun e w' => e = .returned (.bool false) ∧ Below W.heap.size W w') := fun W ao cap hW hR => by
    have := xvalid_any W hR hW
    rw [hv] at this
    exact this
  have CN : Hid (∀ W, Hold4 W → Calls Tryd.prog 11 #[.slice none 0 0] W fun e w' => e = .returned (.bool true) ∧ Below W.heap.size W w') := fun W hW => xvalid_any (d := fun _ => 0) W (Row.nil _ _) hW
  have CS : Hid (∀ W ao cap, Hold4 W → Row W ao 2 cap (d2 a b) → Calls Tryd.prog 9 #[.slice ao 2 cap, .slice none 0 0] W fun r w' => r = .returned (.tuple #[.slice none 0 0, .int .i64 1]) ∧ Below W.heap.size W w') := fun W ao cap hW hR => xSum_bad (f := fun _ => 0) W hR (Row.nil _ _) hv hW
  clear hv ha hb H
  have hA1 : cls a = 1 := hA
  rw [hA1] at CA
  clear hA1
  have hB1 : cls b = 1 := hB
  rw [hB1] at CB
  clear hB1
  rw [hL] at CL
  go_enter Tryd.func3, Tryd.ntmps3
  have hc0 := bel_refl w
  go_wp2_with fail
  refine (CA.out _ (HH.out.keeps hc0)).mono ?_
  rintro _ v1 ⟨rfl, hv1⟩
  have hc1 := bel_trans hc0 hv1
  go_wp2_with fail
  refine (CB.out _ (HH.out.keeps hc1)).mono ?_
  rintro _ v2 ⟨rfl, hv2⟩
  have hc2 := bel_trans hc1 hv2
  go_wp2_with fail
  refine (CX.out _ (HH.out.keeps hc2)).mono ?_
  rintro _ v3 ⟨rfl, hv3⟩
  have hc3 := bel_trans hc2 hv3
  go_wp2_with fail
  refine (CY.out _ (HH.out.keeps hc3)).mono ?_
  rintro _ v4 ⟨rfl, hv4⟩
  have hc4 := bel_trans hc3 hv4
  go_wp2_with fail
  refine (CL.out _).mono ?_
  rintro _ wz ⟨rfl, hw⟩
  replace hw := hw.symm
  subst hw
  go_wp2_with fail
  have hbA := hc4
  have hn1 := bel_alloc v4 (.cells #[.int .i64 9218868437227405311] 3)
  have hb1' := bel_trans hbA hn1
  refine (C1.out _ _ _ (HH.out.keeps hb1') (row1 v4 _ rfl)).mono ?_
  rintro _ w1 ⟨rfl, hw1⟩
  have hb1 := bel_trans hb1' hw1
  have hn2 := bel_alloc w1 (.cells #[.int .i64 9218868437227405311] 3)
  have hb2' := bel_trans hb1 hn2
  go_wp2_with fail
  refine (C2.out _ _ _ (HH.out.keeps hb2') (row1 w1 _ rfl)).mono ?_
  rintro _ w2 ⟨rfl, hw2⟩
  have hb2 := bel_trans hb2' hw2
  have hn3 := bel_alloc w2 (.cells #[.int .i64 1] 3)
  have hb3' := bel_trans hb2 hn3
  go_wp2_with fail
  refine (C3.out _ _ _ (HH.out.keeps hb3') (row1 w2 _ rfl)).mono ?_
  rintro _ w3 ⟨rfl, hw3⟩
  have hb3 := bel_trans hb3' hw3
  have hn4 := bel_alloc w3 (.cells #[.int .i64 a, .int .i64 b] 3)
  have hb4' := bel_trans hb3 hn4
  go_wp2_with fail
  refine (CS.out _ _ _ (HH.out.keeps hb4') (row2 w3 a b rfl)).mono ?_
  rintro _ w4 ⟨rfl, hw4⟩
  have hb4 := bel_trans hb4' hw4
  go_wp2_with fail
  refine (alive7 _ (HH.out.keeps hb4)).mono ?_
  rintro _ w5 ⟨rfl, hw5⟩
  have hb5 := bel_trans hb4 hw5
  go_wp2_with fail
  refine (CN.out _ (HH.out.keeps hb5)).mono ?_
  rintro _ w6 ⟨rfl, hw6⟩
  have hb6 := bel_trans hb5 hw6
  have hn7 := bel_alloc w6 (.cells #[.int .i64 a, .int .i64 b] 3)
  have hb7' := bel_trans hb6 hn7
  go_wp2_with fail
  refine (CV.out _ _ _ (HH.out.keeps hb7') (row2 w6 a b rfl)).mono ?_
  rintro _ w7 ⟨rfl, hw7⟩
  have hb7 := bel_trans hb7' hw7
  go_wp2
  all_goals go_ret
  all_goals exact ⟨rfl, by first | exact hb7 | exact hb7.drew⟩
set_option maxRecDepth 100000 in
set_option maxHeartbeats 4000000 in
theorem bad_l12 (a b : Int) (w : World) (ha : rng a) (hb : rng b) (H : Hold4 w) (hA : cls a = 1) (hB : cls b = 2) (hL : less (abs a) (abs b) = false) (hv : xval (d2 a b) 2 = false) :
    Calls Tryd.prog 3 #[.int .i64 a, .int .i64 b] w fun e w' => e = .returned (.bool true) ∧ Below w.heap.size w w' := by
  have HH : Hid (Hold4 w) := H
  have CA : Hid (∀ W, Hold4 W → Calls Tryd.prog 4 #[.int .i64 a] W fun e w' => e = .returned (.int .i64 (cls a)) ∧ Below W.heap.size W w') := fun W h => class6 W h
  have CB : Hid (∀ W, Hold4 W → Calls Tryd.prog 4 #[.int .i64 b] W fun e w' => e = .returned (.int .i64 (cls b)) ∧ Below W.heap.size W w') := fun W h => class6 W h
  have CX : Hid (∀ W, Hold4 W → Calls Tryd.prog 6 #[.int .i64 a] W fun e w' => e = .returned (.int .i64 (abs a)) ∧ Below W.heap.size W w') := fun W h => (bitsAbs a W h.env.lays ha).mono fun _ _ ⟨h1, h2⟩ => ⟨h1, h2.be⟩
  have CY : Hid (∀ W, Hold4 W → Calls Tryd.prog 6 #[.int .i64 b] W fun e w' => e = .returned (.int .i64 (abs b)) ∧ Below W.heap.size W w') := fun W h => (bitsAbs b W h.env.lays hb).mono fun _ _ ⟨h1, h2⟩ => ⟨h1, h2.be⟩
  have CL : Hid (∀ W, Calls Tryd.prog 5 #[.int .i64 (abs a), .int .i64 (abs b)] W fun e w' => e = .returned (.bool (less (abs a) (abs b))) ∧ w' = W) := fun W => bitsLess1 _ _ W (xabs_rng ha) (xabs_rng hb)
  have C1 : Hid (∀ W ao cap, Hold4 W → Row W ao 1 cap (fun _ => 9218868437227405311) → Calls Tryd.prog 7 #[.slice ao 1 cap, .int .i64 9218868437227405311] W fun r w' => r = .returned (.tuple #[.slice none 0 0, .int .i64 14]) ∧ Below W.heap.size W w') := fun W ao cap hW hR => (xGrow W hR (xk_r _ (by decide)) xk_v1 (xk_rng _ (by decide)) xk_pt (by decide) hW).mono fun r w' hx => hx.no xk_grow_top
  have C2 : Hid (∀ W ao cap, Hold4 W → Row W ao 1 cap (fun _ => 9218868437227405311) → Calls Tryd.prog 8 #[.slice ao 1 cap, .int .i64 9218868437227405311] W fun r w' => r = .returned (.tuple #[.slice none 0 0, .int .i64 14]) ∧ Below W.heap.size W w') := fun W ao cap hW hR => (xScale W hR (xk_r _ (by decide)) xk_v1 (xk_rng _ (by decide)) xk_pt (by decide) hW).mono fun r w' hx => hx.no xk_scale_top
  have C3 : Hid (∀ W ao cap, Hold4 W → Row W ao 1 cap (fun _ => 1) → Calls Tryd.prog 8 #[.slice ao 1 cap, .int .i64 1] W fun r w' => r = .returned (.tuple #[.slice none 0 0, .int .i64 14]) ∧ Below W.heap.size W w') := fun W ao cap hW hR => (xScale W hR (xk_r _ (by decide)) xk_v2 (xk_rng _ (by decide)) (by decide) (by decide) hW).mono fun r w' hx => hx.no xk_scale_one
  have CV : Hid (∀ W ao cap, Hold4 W → Row W ao 2 cap (d2 a b) → Calls Tryd.prog 11 #[.slice ao 2 cap] W fun e w' => e = .returned (.bool false) ∧ Below W.heap.size W w') := fun W ao cap hW hR => by
    have := xvalid_any W hR hW
    rw [hv] at this
    exact this
  have CN : Hid (∀ W, Hold4 W → Calls Tryd.prog 11 #[.slice none 0 0] W fun e w' => e = .returned (.bool true) ∧ Below W.heap.size W w') := fun W hW => xvalid_any (d := fun _ => 0) W (Row.nil _ _) hW
  have CS : Hid (∀ W ao cap, Hold4 W → Row W ao 2 cap (d2 a b) → Calls Tryd.prog 9 #[.slice ao 2 cap, .slice none 0 0] W fun r w' => r = .returned (.tuple #[.slice none 0 0, .int .i64 1]) ∧ Below W.heap.size W w') := fun W ao cap hW hR => xSum_bad (f := fun _ => 0) W hR (Row.nil _ _) hv hW
  clear hv ha hb H
  have hA1 : cls a = 1 := hA
  rw [hA1] at CA
  clear hA1
  have hB1 : cls b = 2 := hB
  rw [hB1] at CB
  clear hB1
  rw [hL] at CL
  go_enter Tryd.func3, Tryd.ntmps3
  have hc0 := bel_refl w
  go_wp2_with fail
  refine (CA.out _ (HH.out.keeps hc0)).mono ?_
  rintro _ v1 ⟨rfl, hv1⟩
  have hc1 := bel_trans hc0 hv1
  go_wp2_with fail
  refine (CB.out _ (HH.out.keeps hc1)).mono ?_
  rintro _ v2 ⟨rfl, hv2⟩
  have hc2 := bel_trans hc1 hv2
  go_wp2_with fail
  refine (CB.out _ (HH.out.keeps hc2)).mono ?_
  rintro _ v3 ⟨rfl, hv3⟩
  have hc3 := bel_trans hc2 hv3
  go_wp2_with fail
  refine (CX.out _ (HH.out.keeps hc3)).mono ?_
  rintro _ v4 ⟨rfl, hv4⟩
  have hc4 := bel_trans hc3 hv4
  go_wp2_with fail
  refine (CY.out _ (HH.out.keeps hc4)).mono ?_
  rintro _ v5 ⟨rfl, hv5⟩
  have hc5 := bel_trans hc4 hv5
  go_wp2_with fail
  refine (CL.out _).mono ?_
  rintro _ wz ⟨rfl, hw⟩
  replace hw := hw.symm
  subst hw
  go_wp2_with fail
  have hbA := hc5
  have hn1 := bel_alloc v5 (.cells #[.int .i64 9218868437227405311] 3)
  have hb1' := bel_trans hbA hn1
  refine (C1.out _ _ _ (HH.out.keeps hb1') (row1 v5 _ rfl)).mono ?_
  rintro _ w1 ⟨rfl, hw1⟩
  have hb1 := bel_trans hb1' hw1
  have hn2 := bel_alloc w1 (.cells #[.int .i64 9218868437227405311] 3)
  have hb2' := bel_trans hb1 hn2
  go_wp2_with fail
  refine (C2.out _ _ _ (HH.out.keeps hb2') (row1 w1 _ rfl)).mono ?_
  rintro _ w2 ⟨rfl, hw2⟩
  have hb2 := bel_trans hb2' hw2
  have hn3 := bel_alloc w2 (.cells #[.int .i64 1] 3)
  have hb3' := bel_trans hb2 hn3
  go_wp2_with fail
  refine (C3.out _ _ _ (HH.out.keeps hb3') (row1 w2 _ rfl)).mono ?_
  rintro _ w3 ⟨rfl, hw3⟩
  have hb3 := bel_trans hb3' hw3
  have hn4 := bel_alloc w3 (.cells #[.int .i64 a, .int .i64 b] 3)
  have hb4' := bel_trans hb3 hn4
  go_wp2_with fail
  refine (CS.out _ _ _ (HH.out.keeps hb4') (row2 w3 a b rfl)).mono ?_
  rintro _ w4 ⟨rfl, hw4⟩
  have hb4 := bel_trans hb4' hw4
  go_wp2_with fail
  refine (alive7 _ (HH.out.keeps hb4)).mono ?_
  rintro _ w5 ⟨rfl, hw5⟩
  have hb5 := bel_trans hb4 hw5
  have hn6 := bel_alloc w5 (.cells #[.int .i64 a, .int .i64 b] 3)
  have hb6' := bel_trans hb5 hn6
  go_wp2_with fail
  refine (CV.out _ _ _ (HH.out.keeps hb6') (row2 w5 a b rfl)).mono ?_
  rintro _ w6 ⟨rfl, hw6⟩
  have hb6 := bel_trans hb6' hw6
  go_wp2_with fail
  refine (CN.out _ (HH.out.keeps hb6)).mono ?_
  rintro _ w7 ⟨rfl, hw7⟩
  have hb7 := bel_trans hb6 hw7
  go_wp2
  all_goals go_ret
  all_goals exact ⟨rfl, by first | exact hb7 | exact hb7.drew⟩
set_option maxRecDepth 100000 in
set_option maxHeartbeats 4000000 in
theorem good12 (a b : Int) (w : World) (ha : rng a) (hb : rng b) (H : Hold4 w) (hA : cls a = 1) (hB : cls b = 2) (hL : less (abs a) (abs b) = true) (hv : xval (d2 a b) 2 = true) :
    Calls Tryd.prog 3 #[.int .i64 a, .int .i64 b] w fun e w' => e = .returned (.bool true) ∧ Below w.heap.size w w' := by
  have HH : Hid (Hold4 w) := H
  have CA : Hid (∀ W, Hold4 W → Calls Tryd.prog 4 #[.int .i64 a] W fun e w' => e = .returned (.int .i64 (cls a)) ∧ Below W.heap.size W w') := fun W h => class6 W h
  have CB : Hid (∀ W, Hold4 W → Calls Tryd.prog 4 #[.int .i64 b] W fun e w' => e = .returned (.int .i64 (cls b)) ∧ Below W.heap.size W w') := fun W h => class6 W h
  have CX : Hid (∀ W, Hold4 W → Calls Tryd.prog 6 #[.int .i64 a] W fun e w' => e = .returned (.int .i64 (abs a)) ∧ Below W.heap.size W w') := fun W h => (bitsAbs a W h.env.lays ha).mono fun _ _ ⟨h1, h2⟩ => ⟨h1, h2.be⟩
  have CY : Hid (∀ W, Hold4 W → Calls Tryd.prog 6 #[.int .i64 b] W fun e w' => e = .returned (.int .i64 (abs b)) ∧ Below W.heap.size W w') := fun W h => (bitsAbs b W h.env.lays hb).mono fun _ _ ⟨h1, h2⟩ => ⟨h1, h2.be⟩
  have CL : Hid (∀ W, Calls Tryd.prog 5 #[.int .i64 (abs a), .int .i64 (abs b)] W fun e w' => e = .returned (.bool (less (abs a) (abs b))) ∧ w' = W) := fun W => bitsLess1 _ _ W (xabs_rng ha) (xabs_rng hb)
  have C1 : Hid (∀ W ao cap, Hold4 W → Row W ao 1 cap (fun _ => 9218868437227405311) → Calls Tryd.prog 7 #[.slice ao 1 cap, .int .i64 9218868437227405311] W fun r w' => r = .returned (.tuple #[.slice none 0 0, .int .i64 14]) ∧ Below W.heap.size W w') := fun W ao cap hW hR => (xGrow W hR (xk_r _ (by decide)) xk_v1 (xk_rng _ (by decide)) xk_pt (by decide) hW).mono fun r w' hx => hx.no xk_grow_top
  have C2 : Hid (∀ W ao cap, Hold4 W → Row W ao 1 cap (fun _ => 9218868437227405311) → Calls Tryd.prog 8 #[.slice ao 1 cap, .int .i64 9218868437227405311] W fun r w' => r = .returned (.tuple #[.slice none 0 0, .int .i64 14]) ∧ Below W.heap.size W w') := fun W ao cap hW hR => (xScale W hR (xk_r _ (by decide)) xk_v1 (xk_rng _ (by decide)) xk_pt (by decide) hW).mono fun r w' hx => hx.no xk_scale_top
  have C3 : Hid (∀ W ao cap, Hold4 W → Row W ao 1 cap (fun _ => 1) → Calls Tryd.prog 8 #[.slice ao 1 cap, .int .i64 1] W fun r w' => r = .returned (.tuple #[.slice none 0 0, .int .i64 14]) ∧ Below W.heap.size W w') := fun W ao cap hW hR => (xScale W hR (xk_r _ (by decide)) xk_v2 (xk_rng _ (by decide)) (by decide) (by decide) hW).mono fun r w' hx => hx.no xk_scale_one
  have CV : Hid (∀ W ao cap, Hold4 W → Row W ao 2 cap (d2 a b) → Calls Tryd.prog 11 #[.slice ao 2 cap] W fun e w' => e = .returned (.bool true) ∧ Below W.heap.size W w') := fun W ao cap hW hR => by
    have := xvalid_any W hR hW
    rw [hv] at this
    exact this
  have CN : Hid (∀ W, Hold4 W → Calls Tryd.prog 11 #[.slice none 0 0] W fun e w' => e = .returned (.bool true) ∧ Below W.heap.size W w') := fun W hW => xvalid_any (d := fun _ => 0) W (Row.nil _ _) hW
  have CS : Hid (∀ W ao cap, Hold4 W → Row W ao 2 cap (d2 a b) → Calls Tryd.prog 9 #[.slice ao 2 cap, .slice none 0 0] W fun r w' => ∃ v, r = .returned (.tuple #[v, .int .i64 0]) ∧ Below W.heap.size W w') := fun W ao cap hW hR => by
    refine (xSum (f := fun _ => 0) W hR (Row.nil _ _) (pair_rng ha hb) (fun i hi => by omega) hv rfl (by decide) hW).mono fun r w' hx => ?_
    obtain ⟨ao, cap, e1, _, e3⟩ := hx.yes rfl
    exact ⟨_, e1, e3⟩
  clear hv ha hb H
  have hA1 : cls a = 1 := hA
  rw [hA1] at CA
  clear hA1
  have hB1 : cls b = 2 := hB
  rw [hB1] at CB
  clear hB1
  rw [hL] at CL
  go_enter Tryd.func3, Tryd.ntmps3
  have hc0 := bel_refl w
  go_wp2_with fail
  refine (CA.out _ (HH.out.keeps hc0)).mono ?_
  rintro _ v1 ⟨rfl, hv1⟩
  have hc1 := bel_trans hc0 hv1
  go_wp2_with fail
  refine (CB.out _ (HH.out.keeps hc1)).mono ?_
  rintro _ v2 ⟨rfl, hv2⟩
  have hc2 := bel_trans hc1 hv2
  go_wp2_with fail
  refine (CB.out _ (HH.out.keeps hc2)).mono ?_
  rintro _ v3 ⟨rfl, hv3⟩
  have hc3 := bel_trans hc2 hv3
  go_wp2_with fail
  refine (CX.out _ (HH.out.keeps hc3)).mono ?_
  rintro _ v4 ⟨rfl, hv4⟩
  have hc4 := bel_trans hc3 hv4
  go_wp2_with fail
  refine (CY.out _ (HH.out.keeps hc4)).mono ?_
  rintro _ v5 ⟨rfl, hv5⟩
  have hc5 := bel_trans hc4 hv5
  go_wp2_with fail
  refine (CL.out _).mono ?_
  rintro _ wz ⟨rfl, hw⟩
  replace hw := hw.symm
  subst hw
  go_wp2_with fail
  have hbA := hc5
  have hn1 := bel_alloc v5 (.cells #[.int .i64 9218868437227405311] 3)
  have hb1' := bel_trans hbA hn1
  refine (C1.out _ _ _ (HH.out.keeps hb1') (row1 v5 _ rfl)).mono ?_
  rintro _ w1 ⟨rfl, hw1⟩
  have hb1 := bel_trans hb1' hw1
  have hn2 := bel_alloc w1 (.cells #[.int .i64 9218868437227405311] 3)
  have hb2' := bel_trans hb1 hn2
  go_wp2_with fail
  refine (C2.out _ _ _ (HH.out.keeps hb2') (row1 w1 _ rfl)).mono ?_
  rintro _ w2 ⟨rfl, hw2⟩
  have hb2 := bel_trans hb2' hw2
  have hn3 := bel_alloc w2 (.cells #[.int .i64 1] 3)
  have hb3' := bel_trans hb2 hn3
  go_wp2_with fail
  refine (C3.out _ _ _ (HH.out.keeps hb3') (row1 w2 _ rfl)).mono ?_
  rintro _ w3 ⟨rfl, hw3⟩
  have hb3 := bel_trans hb3' hw3
  have hn4 := bel_alloc w3 (.cells #[.int .i64 a, .int .i64 b] 3)
  have hb4' := bel_trans hb3 hn4
  go_wp2_with fail
  refine (CS.out _ _ _ (HH.out.keeps hb4') (row2 w3 a b rfl)).mono ?_
  rintro _ w4 ⟨vs, rfl, hw4⟩
  have hb4 := bel_trans hb4' hw4
  go_wp2_with fail
  refine (alive7 _ (HH.out.keeps hb4)).mono ?_
  rintro _ w5 ⟨rfl, hw5⟩
  have hb5 := bel_trans hb4 hw5
  go_wp2_with fail
  refine (CN.out _ (HH.out.keeps hb5)).mono ?_
  rintro _ w6 ⟨rfl, hw6⟩
  have hb6 := bel_trans hb5 hw6
  have hn7 := bel_alloc w6 (.cells #[.int .i64 a, .int .i64 b] 3)
  have hb7' := bel_trans hb6 hn7
  go_wp2_with fail
  refine (CV.out _ _ _ (HH.out.keeps hb7') (row2 w6 a b rfl)).mono ?_
  rintro _ w7 ⟨rfl, hw7⟩
  have hb7 := bel_trans hb7' hw7
  go_wp2
  all_goals go_ret
  all_goals exact ⟨rfl, by first | exact hb7 | exact hb7.drew⟩
set_option maxRecDepth 100000 in
set_option maxHeartbeats 4000000 in
theorem open12 (a b : Int) (w : World) (ha : rng a) (hb : rng b) (H : Hold4 w) (hA : cls a = 1) (hB : cls b = 2) (hL : less (abs a) (abs b) = true) (hv : xval (d2 a b) 2 = false) :
    Calls Tryd.prog 3 #[.int .i64 a, .int .i64 b] w fun e w' => e = .returned (.bool true) ∧ Below w.heap.size w w' := by
  have HH : Hid (Hold4 w) := H
  have CA : Hid (∀ W, Hold4 W → Calls Tryd.prog 4 #[.int .i64 a] W fun e w' => e = .returned (.int .i64 (cls a)) ∧ Below W.heap.size W w') := fun W h => class6 W h
  have CB : Hid (∀ W, Hold4 W → Calls Tryd.prog 4 #[.int .i64 b] W fun e w' => e = .returned (.int .i64 (cls b)) ∧ Below W.heap.size W w') := fun W h => class6 W h
  have CX : Hid (∀ W, Hold4 W → Calls Tryd.prog 6 #[.int .i64 a] W fun e w' => e = .returned (.int .i64 (abs a)) ∧ Below W.heap.size W w') := fun W h => (bitsAbs a W h.env.lays ha).mono fun _ _ ⟨h1, h2⟩ => ⟨h1, h2.be⟩
  have CY : Hid (∀ W, Hold4 W → Calls Tryd.prog 6 #[.int .i64 b] W fun e w' => e = .returned (.int .i64 (abs b)) ∧ Below W.heap.size W w') := fun W h => (bitsAbs b W h.env.lays hb).mono fun _ _ ⟨h1, h2⟩ => ⟨h1, h2.be⟩
  have CL : Hid (∀ W, Calls Tryd.prog 5 #[.int .i64 (abs a), .int .i64 (abs b)] W fun e w' => e = .returned (.bool (less (abs a) (abs b))) ∧ w' = W) := fun W => bitsLess1 _ _ W (xabs_rng ha) (xabs_rng hb)
  have C1 : Hid (∀ W ao cap, Hold4 W → Row W ao 1 cap (fun _ => 9218868437227405311) → Calls Tryd.prog 7 #[.slice ao 1 cap, .int .i64 9218868437227405311] W fun r w' => r = .returned (.tuple #[.slice none 0 0, .int .i64 14]) ∧ Below W.heap.size W w') := fun W ao cap hW hR => (xGrow W hR (xk_r _ (by decide)) xk_v1 (xk_rng _ (by decide)) xk_pt (by decide) hW).mono fun r w' hx => hx.no xk_grow_top
  have C2 : Hid (∀ W ao cap, Hold4 W → Row W ao 1 cap (fun _ => 9218868437227405311) → Calls Tryd.prog 8 #[.slice ao 1 cap, .int .i64 9218868437227405311] W fun r w' => r = .returned (.tuple #[.slice none 0 0, .int .i64 14]) ∧ Below W.heap.size W w') := fun W ao cap hW hR => (xScale W hR (xk_r _ (by decide)) xk_v1 (xk_rng _ (by decide)) xk_pt (by decide) hW).mono fun r w' hx => hx.no xk_scale_top
  have C3 : Hid (∀ W ao cap, Hold4 W → Row W ao 1 cap (fun _ => 1) → Calls Tryd.prog 8 #[.slice ao 1 cap, .int .i64 1] W fun r w' => r = .returned (.tuple #[.slice none 0 0, .int .i64 14]) ∧ Below W.heap.size W w') := fun W ao cap hW hR => (xScale W hR (xk_r _ (by decide)) xk_v2 (xk_rng _ (by decide)) (by decide) (by decide) hW).mono fun r w' hx => hx.no xk_scale_one
  have CV : Hid (∀ W ao cap, Hold4 W → Row W ao 2 cap (d2 a b) → Calls Tryd.prog 11 #[.slice ao 2 cap] W fun e w' => e = .returned (.bool false) ∧ Below W.heap.size W w') := fun W ao cap hW hR => by
    have := xvalid_any W hR hW
    rw [hv] at this
    exact this
  have CN : Hid (∀ W, Hold4 W → Calls Tryd.prog 11 #[.slice none 0 0] W fun e w' => e = .returned (.bool true) ∧ Below W.heap.size W w') := fun W hW => xvalid_any (d := fun _ => 0) W (Row.nil _ _) hW
  have CS : Hid (∀ W ao cap, Hold4 W → Row W ao 2 cap (d2 a b) → Calls Tryd.prog 9 #[.slice ao 2 cap, .slice none 0 0] W fun r w' => r = .returned (.tuple #[.slice none 0 0, .int .i64 1]) ∧ Below W.heap.size W w') := fun W ao cap hW hR => xSum_bad (f := fun _ => 0) W hR (Row.nil _ _) hv hW
  clear hv ha hb H
  have hA1 : cls a = 1 := hA
  rw [hA1] at CA
  clear hA1
  have hB1 : cls b = 2 := hB
  rw [hB1] at CB
  clear hB1
  rw [hL] at CL
  go_enter Tryd.func3, Tryd.ntmps3
  have hc0 := bel_refl w
  go_wp2_with fail
  refine (CA.out _ (HH.out.keeps hc0)).mono ?_
  rintro _ v1 ⟨rfl, hv1⟩
  have hc1 := bel_trans hc0 hv1
  go_wp2_with fail
  refine (CB.out _ (HH.out.keeps hc1)).mono ?_
  rintro _ v2 ⟨rfl, hv2⟩
  have hc2 := bel_trans hc1 hv2
  go_wp2_with fail
  refine (CB.out _ (HH.out.keeps hc2)).mono ?_
  rintro _ v3 ⟨rfl, hv3⟩
  have hc3 := bel_trans hc2 hv3
  go_wp2_with fail
  refine (CX.out _ (HH.out.keeps hc3)).mono ?_
  rintro _ v4 ⟨rfl, hv4⟩
  have hc4 := bel_trans hc3 hv4
  go_wp2_with fail
  refine (CY.out _ (HH.out.keeps hc4)).mono ?_
  rintro _ v5 ⟨rfl, hv5⟩
  have hc5 := bel_trans hc4 hv5
  go_wp2_with fail
  refine (CL.out _).mono ?_
  rintro _ wz ⟨rfl, hw⟩
  replace hw := hw.symm
  subst hw
  go_wp2_with fail
  have hbA := hc5
  have hn1 := bel_alloc v5 (.cells #[.int .i64 9218868437227405311] 3)
  have hb1' := bel_trans hbA hn1
  refine (C1.out _ _ _ (HH.out.keeps hb1') (row1 v5 _ rfl)).mono ?_
  rintro _ w1 ⟨rfl, hw1⟩
  have hb1 := bel_trans hb1' hw1
  have hn2 := bel_alloc w1 (.cells #[.int .i64 9218868437227405311] 3)
  have hb2' := bel_trans hb1 hn2
  go_wp2_with fail
  refine (C2.out _ _ _ (HH.out.keeps hb2') (row1 w1 _ rfl)).mono ?_
  rintro _ w2 ⟨rfl, hw2⟩
  have hb2 := bel_trans hb2' hw2
  have hn3 := bel_alloc w2 (.cells #[.int .i64 1] 3)
  have hb3' := bel_trans hb2 hn3
  go_wp2_with fail
  refine (C3.out _ _ _ (HH.out.keeps hb3') (row1 w2 _ rfl)).mono ?_
  rintro _ w3 ⟨rfl, hw3⟩
  have hb3 := bel_trans hb3' hw3
  have hn4 := bel_alloc w3 (.cells #[.int .i64 a, .int .i64 b] 3)
  have hb4' := bel_trans hb3 hn4
  go_wp2_with fail
  refine (CS.out _ _ _ (HH.out.keeps hb4') (row2 w3 a b rfl)).mono ?_
  rintro _ w4 ⟨rfl, hw4⟩
  have hb4 := bel_trans hb4' hw4
  go_wp2_with fail
  refine (alive7 _ (HH.out.keeps hb4)).mono ?_
  rintro _ w5 ⟨rfl, hw5⟩
  have hb5 := bel_trans hb4 hw5
  go_wp2_with fail
  refine (CN.out _ (HH.out.keeps hb5)).mono ?_
  rintro _ w6 ⟨rfl, hw6⟩
  have hb6 := bel_trans hb5 hw6
  have hn7 := bel_alloc w6 (.cells #[.int .i64 a, .int .i64 b] 3)
  have hb7' := bel_trans hb6 hn7
  go_wp2_with fail
  refine (CV.out _ _ _ (HH.out.keeps hb7') (row2 w6 a b rfl)).mono ?_
  rintro _ w7 ⟨rfl, hw7⟩
  have hb7 := bel_trans hb7' hw7
  go_wp2
  all_goals go_ret
  all_goals exact ⟨rfl, by first | exact hb7 | exact hb7.drew⟩
set_option maxRecDepth 100000 in
set_option maxHeartbeats 4000000 in
theorem bad_b2 (a b : Int) (w : World) (ha : rng a) (hb : rng b) (H : Hold4 w) (hA : cls a = 2) (hB : ¬ cls b = 1 ∧ ¬ cls b = 2) (hv : xval (d2 a b) 2 = false) :
    Calls Tryd.prog 3 #[.int .i64 a, .int .i64 b] w fun e w' => e = .returned (.bool true) ∧ Below w.heap.size w w' := by
  have HH : Hid (Hold4 w) := H
  have CA : Hid (∀ W, Hold4 W → Calls Tryd.prog 4 #[.int .i64 a] W fun e w' => e = .returned (.int .i64 (cls a)) ∧ Below W.heap.size W w') := fun W h => class6 W h
  have CB : Hid (∀ W, Hold4 W → Calls Tryd.prog 4 #[.int .i64 b] W fun e w' => e = .returned (.int .i64 (cls b)) ∧ Below W.heap.size W w') := fun W h => class6 W h
  have CX : Hid (∀ W, Hold4 W → Calls Tryd.prog 6 #[.int .i64 a] W fun e w' => e = .returned (.int .i64 (abs a)) ∧ Below W.heap.size W w') := fun W h => (bitsAbs a W h.env.lays ha).mono fun _ _ ⟨h1, h2⟩ => ⟨h1, h2.be⟩
  have CY : Hid (∀ W, Hold4 W → Calls Tryd.prog 6 #[.int .i64 b] W fun e w' => e = .returned (.int .i64 (abs b)) ∧ Below W.heap.size W w') := fun W h => (bitsAbs b W h.env.lays hb).mono fun _ _ ⟨h1, h2⟩ => ⟨h1, h2.be⟩
  have CL : Hid (∀ W, Calls Tryd.prog 5 #[.int .i64 (abs a), .int .i64 (abs b)] W fun e w' => e = .returned (.bool (less (abs a) (abs b))) ∧ w' = W) := fun W => bitsLess1 _ _ W (xabs_rng ha) (xabs_rng hb)
  have C1 : Hid (∀ W ao cap, Hold4 W → Row W ao 1 cap (fun _ => 9218868437227405311) → Calls Tryd.prog 7 #[.slice ao 1 cap, .int .i64 9218868437227405311] W fun r w' => r = .returned (.tuple #[.slice none 0 0, .int .i64 14]) ∧ Below W.heap.size W w') := fun W ao cap hW hR => (xGrow W hR (xk_r _ (by decide)) xk_v1 (xk_rng _ (by decide)) xk_pt (by decide) hW).mono fun r w' hx => hx.no xk_grow_top
  have C2 : Hid (∀ W ao cap, Hold4 W → Row W ao 1 cap (fun _ => 9218868437227405311) → Calls Tryd.prog 8 #[.slice ao 1 cap, .int .i64 9218868437227405311] W fun r w' => r = .returned (.tuple #[.slice none 0 0, .int .i64 14]) ∧ Below W.heap.size W w') := fun W ao cap hW hR => (xScale W hR (xk_r _ (by decide)) xk_v1 (xk_rng _ (by decide)) xk_pt (by decide) hW).mono fun r w' hx => hx.no xk_scale_top
  have C3 : Hid (∀ W ao cap, Hold4 W → Row W ao 1 cap (fun _ => 1) → Calls Tryd.prog 8 #[.slice ao 1 cap, .int .i64 1] W fun r w' => r = .returned (.tuple #[.slice none 0 0, .int .i64 14]) ∧ Below W.heap.size W w') := fun W ao cap hW hR => (xScale W hR (xk_r _ (by decide)) xk_v2 (xk_rng _ (by decide)) (by decide) (by decide) hW).mono fun r w' hx => hx.no xk_scale_one
  have CV : Hid (∀ W ao cap, Hold4 W → Row W ao 2 cap (d2 a b) → Calls Tryd.prog 11 #[.slice ao 2 cap] W fun e w' => e = .returned (.bool false) ∧ Below W.heap.size W w') := fun W ao cap hW hR => by
    have := xvalid_any W hR hW
    rw [hv] at this
    exact this
  have CN : Hid (∀ W, Hold4 W → Calls Tryd.prog 11 #[.slice none 0 0] W fun e w' => e = .returned (.bool true) ∧ Below W.heap.size W w') := fun W hW => xvalid_any (d := fun _ => 0) W (Row.nil _ _) hW
  have CS : Hid (∀ W ao cap, Hold4 W → Row W ao 2 cap (d2 a b) → Calls Tryd.prog 9 #[.slice ao 2 cap, .slice none 0 0] W fun r w' => r = .returned (.tuple #[.slice none 0 0, .int .i64 1]) ∧ Below W.heap.size W w') := fun W ao cap hW hR => xSum_bad (f := fun _ => 0) W hR (Row.nil _ _) hv hW
  clear hv ha hb H
  have hA1 : cls a = 2 := hA
  rw [hA1] at CA
  clear hA1
  have hB1 : (cls b == 1) = false := by simpa using hB.1
  have hB2 : (cls b == 2) = false := by simpa using hB.2
  generalize cls b = cB at *
  go_enter Tryd.func3, Tryd.ntmps3
  have hc0 := bel_refl w
  go_wp2_with fail
  refine (CA.out _ (HH.out.keeps hc0)).mono ?_
  rintro _ v1 ⟨rfl, hv1⟩
  have hc1 := bel_trans hc0 hv1
  go_wp2_with fail
  refine (CA.out _ (HH.out.keeps hc1)).mono ?_
  rintro _ v2 ⟨rfl, hv2⟩
  have hc2 := bel_trans hc1 hv2
  go_wp2_with fail
  refine (CB.out _ (HH.out.keeps hc2)).mono ?_
  rintro _ v3 ⟨rfl, hv3⟩
  have hc3 := bel_trans hc2 hv3
  go_wp2_with fail
  refine (CB.out _ (HH.out.keeps hc3)).mono ?_
  rintro _ v4 ⟨rfl, hv4⟩
  have hc4 := bel_trans hc3 hv4
  go_wp2_with fail
  have hbA := hc4
  have hn1 := bel_alloc v4 (.cells #[.int .i64 9218868437227405311] 3)
  have hb1' := bel_trans hbA hn1
  refine (C1.out _ _ _ (HH.out.keeps hb1') (row1 v4 _ rfl)).mono ?_
  rintro _ w1 ⟨rfl, hw1⟩
  have hb1 := bel_trans hb1' hw1
  have hn2 := bel_alloc w1 (.cells #[.int .i64 9218868437227405311] 3)
  have hb2' := bel_trans hb1 hn2
  go_wp2_with fail
  refine (C2.out _ _ _ (HH.out.keeps hb2') (row1 w1 _ rfl)).mono ?_
  rintro _ w2 ⟨rfl, hw2⟩
  have hb2 := bel_trans hb2' hw2
  have hn3 := bel_alloc w2 (.cells #[.int .i64 1] 3)
  have hb3' := bel_trans hb2 hn3
  go_wp2_with fail
  refine (C3.out _ _ _ (HH.out.keeps hb3') (row1 w2 _ rfl)).mono ?_
  rintro _ w3 ⟨rfl, hw3⟩
  have hb3 := bel_trans hb3' hw3
  have hn4 := bel_alloc w3 (.cells #[.int .i64 a, .int .i64 b] 3)
  have hb4' := bel_trans hb3 hn4
  go_wp2_with fail
  refine (CS.out _ _ _ (HH.out.keeps hb4') (row2 w3 a b rfl)).mono ?_
  rintro _ w4 ⟨rfl, hw4⟩
  have hb4 := bel_trans hb4' hw4
  go_wp2_with fail
  refine (alive7 _ (HH.out.keeps hb4)).mono ?_
  rintro _ w5 ⟨rfl, hw5⟩
  have hb5 := bel_trans hb4 hw5
  have hn6 := bel_alloc w5 (.cells #[.int .i64 a, .int .i64 b] 3)
  have hb6' := bel_trans hb5 hn6
  go_wp2_with fail
  refine (CV.out _ _ _ (HH.out.keeps hb6') (row2 w5 a b rfl)).mono ?_
  rintro _ w6 ⟨rfl, hw6⟩
  have hb6 := bel_trans hb6' hw6
  go_wp2_with fail
  refine (CN.out _ (HH.out.keeps hb6)).mono ?_
  rintro _ w7 ⟨rfl, hw7⟩
  have hb7 := bel_trans hb6 hw7
  go_wp2
  all_goals go_ret
  all_goals exact ⟨rfl, by first | exact hb7 | exact hb7.drew⟩
set_option maxRecDepth 100000 in
set_option maxHeartbeats 4000000 in
theorem bad_l21 (a b : Int) (w : World) (ha : rng a) (hb : rng b) (H : Hold4 w) (hA : cls a = 2) (hB : cls b = 1) (hL : less (abs a) (abs b) = false) (hv : xval (d2 a b) 2 = false) :
    Calls Tryd.prog 3 #[.int .i64 a, .int .i64 b] w fun e w' => e = .returned (.bool true) ∧ Below w.heap.size w w' := by
  have HH : Hid (Hold4 w) := H
  have CA : Hid (∀ W, Hold4 W → Calls Tryd.prog 4 #[.int .i64 a] W fun e w' => e = .returned (.int .i64 (cls a)) ∧ Below W.heap.size W w') := fun W h => class6 W h
  have CB : Hid (∀ W, Hold4 W → Calls Tryd.prog 4 #[.int .i64 b] W fun e w' => e = .returned (.int .i64 (cls b)) ∧ Below W.heap.size W w') := fun W h => class6 W h
  have CX : Hid (∀ W, Hold4 W → Calls Tryd.prog 6 #[.int .i64 a] W fun e w' => e = .returned (.int .i64 (abs a)) ∧ Below W.heap.size W w') := fun W h => (bitsAbs a W h.env.lays ha).mono fun _ _ ⟨h1, h2⟩ => ⟨h1, h2.be⟩
  have CY : Hid (∀ W, Hold4 W → Calls Tryd.prog 6 #[.int .i64 b] W fun e w' => e = .returned (.int .i64 (abs b)) ∧ Below W.heap.size W w') := fun W h => (bitsAbs b W h.env.lays hb).mono fun _ _ ⟨h1, h2⟩ => ⟨h1, h2.be⟩
  have CL : Hid (∀ W, Calls Tryd.prog 5 #[.int .i64 (abs a), .int .i64 (abs b)] W fun e w' => e = .returned (.bool (less (abs a) (abs b))) ∧ w' = W) := fun W => bitsLess1 _ _ W (xabs_rng ha) (xabs_rng hb)
  have C1 : Hid (∀ W ao cap, Hold4 W → Row W ao 1 cap (fun _ => 9218868437227405311) → Calls Tryd.prog 7 #[.slice ao 1 cap, .int .i64 9218868437227405311] W fun r w' => r = .returned (.tuple #[.slice none 0 0, .int .i64 14]) ∧ Below W.heap.size W w') := fun W ao cap hW hR => (xGrow W hR (xk_r _ (by decide)) xk_v1 (xk_rng _ (by decide)) xk_pt (by decide) hW).mono fun r w' hx => hx.no xk_grow_top
  have C2 : Hid (∀ W ao cap, Hold4 W → Row W ao 1 cap (fun _ => 9218868437227405311) → Calls Tryd.prog 8 #[.slice ao 1 cap, .int .i64 9218868437227405311] W fun r w' => r = .returned (.tuple #[.slice none 0 0, .int .i64 14]) ∧ Below W.heap.size W w') := fun W ao cap hW hR => (xScale W hR (xk_r _ (by decide)) xk_v1 (xk_rng _ (by decide)) xk_pt (by decide) hW).mono fun r w' hx => hx.no xk_scale_top
  have C3 : Hid (∀ W ao cap, Hold4 W → Row W ao 1 cap (fun _ => 1) → Calls Tryd.prog 8 #[.slice ao 1 cap, .int .i64 1] W fun r w' => r = .returned (.tuple #[.slice none 0 0, .int .i64 14]) ∧ Below W.heap.size W w') := fun W ao cap hW hR => (xScale W hR (xk_r _ (by decide)) xk_v2 (xk_rng _ (by decide)) (by decide) (by decide) hW).mono fun r w' hx => hx.no xk_scale_one
  have CV : Hid (∀ W ao cap, Hold4 W → Row W ao 2 cap (d2 a b) → Calls Tryd.prog 11 #[.slice ao 2 cap] W fun e w' => e = .returned (.bool false) ∧ Below W.heap.size W w') := fun W ao cap hW hR => by
    have := xvalid_any W hR hW
    rw [hv] at this
    exact this
  have CN : Hid (∀ W, Hold4 W → Calls Tryd.prog 11 #[.slice none 0 0] W fun e w' => e = .returned (.bool true) ∧ Below W.heap.size W w') := fun W hW => xvalid_any (d := fun _ => 0) W (Row.nil _ _) hW
  have CS : Hid (∀ W ao cap, Hold4 W → Row W ao 2 cap (d2 a b) → Calls Tryd.prog 9 #[.slice ao 2 cap, .slice none 0 0] W fun r w' => r = .returned (.tuple #[.slice none 0 0, .int .i64 1]) ∧ Below W.heap.size W w') := fun W ao cap hW hR => xSum_bad (f := fun _ => 0) W hR (Row.nil _ _) hv hW
  clear hv ha hb H
  have hA1 : cls a = 2 := hA
  rw [hA1] at CA
  clear hA1
  have hB1 : cls b = 1 := hB
  rw [hB1] at CB
  clear hB1
  rw [hL] at CL
  go_enter Tryd.func3, Tryd.ntmps3
  have hc0 := bel_refl w
  go_wp2_with fail
  refine (CA.out _ (HH.out.keeps hc0)).mono ?_
  rintro _ v1 ⟨rfl, hv1⟩
  have hc1 := bel_trans hc0 hv1
  go_wp2_with fail
  refine (CA.out _ (HH.out.keeps hc1)).mono ?_
  rintro _ v2 ⟨rfl, hv2⟩
  have hc2 := bel_trans hc1 hv2
  go_wp2_with fail
  refine (CB.out _ (HH.out.keeps hc2)).mono ?_
  rintro _ v3 ⟨rfl, hv3⟩
  have hc3 := bel_trans hc2 hv3
  go_wp2_with fail
  refine (CX.out _ (HH.out.keeps hc3)).mono ?_
  rintro _ v4 ⟨rfl, hv4⟩
  have hc4 := bel_trans hc3 hv4
  go_wp2_with fail
  refine (CY.out _ (HH.out.keeps hc4)).mono ?_
  rintro _ v5 ⟨rfl, hv5⟩
  have hc5 := bel_trans hc4 hv5
  go_wp2_with fail
  refine (CL.out _).mono ?_
  rintro _ wz ⟨rfl, hw⟩
  replace hw := hw.symm
  subst hw
  go_wp2_with fail
  have hbA := hc5
  have hn1 := bel_alloc v5 (.cells #[.int .i64 9218868437227405311] 3)
  have hb1' := bel_trans hbA hn1
  refine (C1.out _ _ _ (HH.out.keeps hb1') (row1 v5 _ rfl)).mono ?_
  rintro _ w1 ⟨rfl, hw1⟩
  have hb1 := bel_trans hb1' hw1
  have hn2 := bel_alloc w1 (.cells #[.int .i64 9218868437227405311] 3)
  have hb2' := bel_trans hb1 hn2
  go_wp2_with fail
  refine (C2.out _ _ _ (HH.out.keeps hb2') (row1 w1 _ rfl)).mono ?_
  rintro _ w2 ⟨rfl, hw2⟩
  have hb2 := bel_trans hb2' hw2
  have hn3 := bel_alloc w2 (.cells #[.int .i64 1] 3)
  have hb3' := bel_trans hb2 hn3
  go_wp2_with fail
  refine (C3.out _ _ _ (HH.out.keeps hb3') (row1 w2 _ rfl)).mono ?_
  rintro _ w3 ⟨rfl, hw3⟩
  have hb3 := bel_trans hb3' hw3
  have hn4 := bel_alloc w3 (.cells #[.int .i64 a, .int .i64 b] 3)
  have hb4' := bel_trans hb3 hn4
  go_wp2_with fail
  refine (CS.out _ _ _ (HH.out.keeps hb4') (row2 w3 a b rfl)).mono ?_
  rintro _ w4 ⟨rfl, hw4⟩
  have hb4 := bel_trans hb4' hw4
  go_wp2_with fail
  refine (alive7 _ (HH.out.keeps hb4)).mono ?_
  rintro _ w5 ⟨rfl, hw5⟩
  have hb5 := bel_trans hb4 hw5
  have hn6 := bel_alloc w5 (.cells #[.int .i64 a, .int .i64 b] 3)
  have hb6' := bel_trans hb5 hn6
  go_wp2_with fail
  refine (CV.out _ _ _ (HH.out.keeps hb6') (row2 w5 a b rfl)).mono ?_
  rintro _ w6 ⟨rfl, hw6⟩
  have hb6 := bel_trans hb6' hw6
  go_wp2_with fail
  refine (CN.out _ (HH.out.keeps hb6)).mono ?_
  rintro _ w7 ⟨rfl, hw7⟩
  have hb7 := bel_trans hb6 hw7
  go_wp2
  all_goals go_ret
  all_goals exact ⟨rfl, by first | exact hb7 | exact hb7.drew⟩
set_option maxRecDepth 100000 in
set_option maxHeartbeats 4000000 in
theorem good21 (a b : Int) (w : World) (ha : rng a) (hb : rng b) (H : Hold4 w) (hA : cls a = 2) (hB : cls b = 1) (hL : less (abs a) (abs b) = true) (hv : xval (d2 a b) 2 = true) :
    Calls Tryd.prog 3 #[.int .i64 a, .int .i64 b] w fun e w' => e = .returned (.bool true) ∧ Below w.heap.size w w' := by
  have HH : Hid (Hold4 w) := H
  have CA : Hid (∀ W, Hold4 W → Calls Tryd.prog 4 #[.int .i64 a] W fun e w' => e = .returned (.int .i64 (cls a)) ∧ Below W.heap.size W w') := fun W h => class6 W h
  have CB : Hid (∀ W, Hold4 W → Calls Tryd.prog 4 #[.int .i64 b] W fun e w' => e = .returned (.int .i64 (cls b)) ∧ Below W.heap.size W w') := fun W h => class6 W h
  have CX : Hid (∀ W, Hold4 W → Calls Tryd.prog 6 #[.int .i64 a] W fun e w' => e = .returned (.int .i64 (abs a)) ∧ Below W.heap.size W w') := fun W h => (bitsAbs a W h.env.lays ha).mono fun _ _ ⟨h1, h2⟩ => ⟨h1, h2.be⟩
  have CY : Hid (∀ W, Hold4 W → Calls Tryd.prog 6 #[.int .i64 b] W fun e w' => e = .returned (.int .i64 (abs b)) ∧ Below W.heap.size W w') := fun W h => (bitsAbs b W h.env.lays hb).mono fun _ _ ⟨h1, h2⟩ => ⟨h1, h2.be⟩
  have CL : Hid (∀ W, Calls Tryd.prog 5 #[.int .i64 (abs a), .int .i64 (abs b)] W fun e w' => e = .returned (.bool (less (abs a) (abs b))) ∧ w' = W) := fun W => bitsLess1 _ _ W (xabs_rng ha) (xabs_rng hb)
  have C1 : Hid (∀ W ao cap, Hold4 W → Row W ao 1 cap (fun _ => 9218868437227405311) → Calls Tryd.prog 7 #[.slice ao 1 cap, .int .i64 9218868437227405311] W fun r w' => r = .returned (.tuple #[.slice none 0 0, .int .i64 14]) ∧ Below W.heap.size W w') := fun W ao cap hW hR => (xGrow W hR (xk_r _ (by decide)) xk_v1 (xk_rng _ (by decide)) xk_pt (by decide) hW).mono fun r w' hx => hx.no xk_grow_top
  have C2 : Hid (∀ W ao cap, Hold4 W → Row W ao 1 cap (fun _ => 9218868437227405311) → Calls Tryd.prog 8 #[.slice ao 1 cap, .int .i64 9218868437227405311] W fun r w' => r = .returned (.tuple #[.slice none 0 0, .int .i64 14]) ∧ Below W.heap.size W w') := fun W ao cap hW hR => (xScale W hR (xk_r _ (by decide)) xk_v1 (xk_rng _ (by decide)) xk_pt (by decide) hW).mono fun r w' hx => hx.no xk_scale_top
  have C3 : Hid (∀ W ao cap, Hold4 W → Row W ao 1 cap (fun _ => 1) → Calls Tryd.prog 8 #[.slice ao 1 cap, .int .i64 1] W fun r w' => r = .returned (.tuple #[.slice none 0 0, .int .i64 14]) ∧ Below W.heap.size W w') := fun W ao cap hW hR => (xScale W hR (xk_r _ (by decide)) xk_v2 (xk_rng _ (by decide)) (by decide) (by decide) hW).mono fun r w' hx => hx.no xk_scale_one
  have CV : Hid (∀ W ao cap, Hold4 W → Row W ao 2 cap (d2 a b) → Calls Tryd.prog 11 #[.slice ao 2 cap] W fun e w' => e = .returned (.bool true) ∧ Below W.heap.size W w') := fun W ao cap hW hR => by
    have := xvalid_any W hR hW
    rw [hv] at this
    exact this
  have CN : Hid (∀ W, Hold4 W → Calls Tryd.prog 11 #[.slice none 0 0] W fun e w' => e = .returned (.bool true) ∧ Below W.heap.size W w') := fun W hW => xvalid_any (d := fun _ => 0) W (Row.nil _ _) hW
  have CS : Hid (∀ W ao cap, Hold4 W → Row W ao 2 cap (d2 a b) → Calls Tryd.prog 9 #[.slice ao 2 cap, .slice none 0 0] W fun r w' => ∃ v, r = .returned (.tuple #[v, .int .i64 0]) ∧ Below W.heap.size W w') := fun W ao cap hW hR => by
    refine (xSum (f := fun _ => 0) W hR (Row.nil _ _) (pair_rng ha hb) (fun i hi => by omega) hv rfl (by decide) hW).mono fun r w' hx => ?_
    obtain ⟨ao, cap, e1, _, e3⟩ := hx.yes rfl
    exact ⟨_, e1, e3⟩
  clear hv ha hb H
  have hA1 : cls a = 2 := hA
  rw [hA1] at CA
  clear hA1
  have hB1 : cls b = 1 := hB
  rw [hB1] at CB
  clear hB1
  rw [hL] at CL
  go_enter Tryd.func3, Tryd.ntmps3
  have hc0 := bel_refl w
  go_wp2_with fail
  refine (CA.out _ (HH.out.keeps hc0)).mono ?_
  rintro _ v1 ⟨rfl, hv1⟩
  have hc1 := bel_trans hc0 hv1
  go_wp2_with fail
  refine (CA.out _ (HH.out.keeps hc1)).mono ?_
  rintro _ v2 ⟨rfl, hv2⟩
  have hc2 := bel_trans hc1 hv2
  go_wp2_with fail
  refine (CB.out _ (HH.out.keeps hc2)).mono ?_
  rintro _ v3 ⟨rfl, hv3⟩
  have hc3 := bel_trans hc2 hv3
  go_wp2_with fail
  refine (CX.out _ (HH.out.keeps hc3)).mono ?_
  rintro _ v4 ⟨rfl, hv4⟩
  have hc4 := bel_trans hc3 hv4
  go_wp2_with fail
  refine (CY.out _ (HH.out.keeps hc4)).mono ?_
  rintro _ v5 ⟨rfl, hv5⟩
  have hc5 := bel_trans hc4 hv5
  go_wp2_with fail
  refine (CL.out _).mono ?_
  rintro _ wz ⟨rfl, hw⟩
  replace hw := hw.symm
  subst hw
  go_wp2_with fail
  have hbA := hc5
  have hn1 := bel_alloc v5 (.cells #[.int .i64 9218868437227405311] 3)
  have hb1' := bel_trans hbA hn1
  refine (C1.out _ _ _ (HH.out.keeps hb1') (row1 v5 _ rfl)).mono ?_
  rintro _ w1 ⟨rfl, hw1⟩
  have hb1 := bel_trans hb1' hw1
  have hn2 := bel_alloc w1 (.cells #[.int .i64 9218868437227405311] 3)
  have hb2' := bel_trans hb1 hn2
  go_wp2_with fail
  refine (C2.out _ _ _ (HH.out.keeps hb2') (row1 w1 _ rfl)).mono ?_
  rintro _ w2 ⟨rfl, hw2⟩
  have hb2 := bel_trans hb2' hw2
  have hn3 := bel_alloc w2 (.cells #[.int .i64 1] 3)
  have hb3' := bel_trans hb2 hn3
  go_wp2_with fail
  refine (C3.out _ _ _ (HH.out.keeps hb3') (row1 w2 _ rfl)).mono ?_
  rintro _ w3 ⟨rfl, hw3⟩
  have hb3 := bel_trans hb3' hw3
  have hn4 := bel_alloc w3 (.cells #[.int .i64 a, .int .i64 b] 3)
  have hb4' := bel_trans hb3 hn4
  go_wp2_with fail
  refine (CS.out _ _ _ (HH.out.keeps hb4') (row2 w3 a b rfl)).mono ?_
  rintro _ w4 ⟨vs, rfl, hw4⟩
  have hb4 := bel_trans hb4' hw4
  go_wp2_with fail
  refine (alive7 _ (HH.out.keeps hb4)).mono ?_
  rintro _ w5 ⟨rfl, hw5⟩
  have hb5 := bel_trans hb4 hw5
  go_wp2_with fail
  refine (CN.out _ (HH.out.keeps hb5)).mono ?_
  rintro _ w6 ⟨rfl, hw6⟩
  have hb6 := bel_trans hb5 hw6
  have hn7 := bel_alloc w6 (.cells #[.int .i64 a, .int .i64 b] 3)
  have hb7' := bel_trans hb6 hn7
  go_wp2_with fail
  refine (CV.out _ _ _ (HH.out.keeps hb7') (row2 w6 a b rfl)).mono ?_
  rintro _ w7 ⟨rfl, hw7⟩
  have hb7 := bel_trans hb7' hw7
  go_wp2
  all_goals go_ret
  all_goals exact ⟨rfl, by first | exact hb7 | exact hb7.drew⟩
set_option maxRecDepth 100000 in
set_option maxHeartbeats 4000000 in
theorem open21 (a b : Int) (w : World) (ha : rng a) (hb : rng b) (H : Hold4 w) (hA : cls a = 2) (hB : cls b = 1) (hL : less (abs a) (abs b) = true) (hv : xval (d2 a b) 2 = false) :
    Calls Tryd.prog 3 #[.int .i64 a, .int .i64 b] w fun e w' => e = .returned (.bool true) ∧ Below w.heap.size w w' := by
  have HH : Hid (Hold4 w) := H
  have CA : Hid (∀ W, Hold4 W → Calls Tryd.prog 4 #[.int .i64 a] W fun e w' => e = .returned (.int .i64 (cls a)) ∧ Below W.heap.size W w') := fun W h => class6 W h
  have CB : Hid (∀ W, Hold4 W → Calls Tryd.prog 4 #[.int .i64 b] W fun e w' => e = .returned (.int .i64 (cls b)) ∧ Below W.heap.size W w') := fun W h => class6 W h
  have CX : Hid (∀ W, Hold4 W → Calls Tryd.prog 6 #[.int .i64 a] W fun e w' => e = .returned (.int .i64 (abs a)) ∧ Below W.heap.size W w') := fun W h => (bitsAbs a W h.env.lays ha).mono fun _ _ ⟨h1, h2⟩ => ⟨h1, h2.be⟩
  have CY : Hid (∀ W, Hold4 W → Calls Tryd.prog 6 #[.int .i64 b] W fun e w' => e = .returned (.int .i64 (abs b)) ∧ Below W.heap.size W w') := fun W h => (bitsAbs b W h.env.lays hb).mono fun _ _ ⟨h1, h2⟩ => ⟨h1, h2.be⟩
  have CL : Hid (∀ W, Calls Tryd.prog 5 #[.int .i64 (abs a), .int .i64 (abs b)] W fun e w' => e = .returned (.bool (less (abs a) (abs b))) ∧ w' = W) := fun W => bitsLess1 _ _ W (xabs_rng ha) (xabs_rng hb)
  have C1 : Hid (∀ W ao cap, Hold4 W → Row W ao 1 cap (fun _ => 9218868437227405311) → Calls Tryd.prog 7 #[.slice ao 1 cap, .int .i64 9218868437227405311] W fun r w' => r = .returned (.tuple #[.slice none 0 0, .int .i64 14]) ∧ Below W.heap.size W w') := fun W ao cap hW hR => (xGrow W hR (xk_r _ (by decide)) xk_v1 (xk_rng _ (by decide)) xk_pt (by decide) hW).mono fun r w' hx => hx.no xk_grow_top
  have C2 : Hid (∀ W ao cap, Hold4 W → Row W ao 1 cap (fun _ => 9218868437227405311) → Calls Tryd.prog 8 #[.slice ao 1 cap, .int .i64 9218868437227405311] W fun r w' => r = .returned (.tuple #[.slice none 0 0, .int .i64 14]) ∧ Below W.heap.size W w') := fun W ao cap hW hR => (xScale W hR (xk_r _ (by decide)) xk_v1 (xk_rng _ (by decide)) xk_pt (by decide) hW).mono fun r w' hx => hx.no xk_scale_top
  have C3 : Hid (∀ W ao cap, Hold4 W → Row W ao 1 cap (fun _ => 1) → Calls Tryd.prog 8 #[.slice ao 1 cap, .int .i64 1] W fun r w' => r = .returned (.tuple #[.slice none 0 0, .int .i64 14]) ∧ Below W.heap.size W w') := fun W ao cap hW hR => (xScale W hR (xk_r _ (by decide)) xk_v2 (xk_rng _ (by decide)) (by decide) (by decide) hW).mono fun r w' hx => hx.no xk_scale_one
  have CV : Hid (∀ W ao cap, Hold4 W → Row W ao 2 cap (d2 a b) → Calls Tryd.prog 11 #[.slice ao 2 cap] W fun e w' => e = .returned (.bool false) ∧ Below W.heap.size W w') := fun W ao cap hW hR => by
    have := xvalid_any W hR hW
    rw [hv] at this
    exact this
  have CN : Hid (∀ W, Hold4 W → Calls Tryd.prog 11 #[.slice none 0 0] W fun e w' => e = .returned (.bool true) ∧ Below W.heap.size W w') := fun W hW => xvalid_any (d := fun _ => 0) W (Row.nil _ _) hW
  have CS : Hid (∀ W ao cap, Hold4 W → Row W ao 2 cap (d2 a b) → Calls Tryd.prog 9 #[.slice ao 2 cap, .slice none 0 0] W fun r w' => r = .returned (.tuple #[.slice none 0 0, .int .i64 1]) ∧ Below W.heap.size W w') := fun W ao cap hW hR => xSum_bad (f := fun _ => 0) W hR (Row.nil _ _) hv hW
  clear hv ha hb H
  have hA1 : cls a = 2 := hA
  rw [hA1] at CA
  clear hA1
  have hB1 : cls b = 1 := hB
  rw [hB1] at CB
  clear hB1
  rw [hL] at CL
  go_enter Tryd.func3, Tryd.ntmps3
  have hc0 := bel_refl w
  go_wp2_with fail
  refine (CA.out _ (HH.out.keeps hc0)).mono ?_
  rintro _ v1 ⟨rfl, hv1⟩
  have hc1 := bel_trans hc0 hv1
  go_wp2_with fail
  refine (CA.out _ (HH.out.keeps hc1)).mono ?_
  rintro _ v2 ⟨rfl, hv2⟩
  have hc2 := bel_trans hc1 hv2
  go_wp2_with fail
  refine (CB.out _ (HH.out.keeps hc2)).mono ?_
  rintro _ v3 ⟨rfl, hv3⟩
  have hc3 := bel_trans hc2 hv3
  go_wp2_with fail
  refine (CX.out _ (HH.out.keeps hc3)).mono ?_
  rintro _ v4 ⟨rfl, hv4⟩
  have hc4 := bel_trans hc3 hv4
  go_wp2_with fail
  refine (CY.out _ (HH.out.keeps hc4)).mono ?_
  rintro _ v5 ⟨rfl, hv5⟩
  have hc5 := bel_trans hc4 hv5
  go_wp2_with fail
  refine (CL.out _).mono ?_
  rintro _ wz ⟨rfl, hw⟩
  replace hw := hw.symm
  subst hw
  go_wp2_with fail
  have hbA := hc5
  have hn1 := bel_alloc v5 (.cells #[.int .i64 9218868437227405311] 3)
  have hb1' := bel_trans hbA hn1
  refine (C1.out _ _ _ (HH.out.keeps hb1') (row1 v5 _ rfl)).mono ?_
  rintro _ w1 ⟨rfl, hw1⟩
  have hb1 := bel_trans hb1' hw1
  have hn2 := bel_alloc w1 (.cells #[.int .i64 9218868437227405311] 3)
  have hb2' := bel_trans hb1 hn2
  go_wp2_with fail
  refine (C2.out _ _ _ (HH.out.keeps hb2') (row1 w1 _ rfl)).mono ?_
  rintro _ w2 ⟨rfl, hw2⟩
  have hb2 := bel_trans hb2' hw2
  have hn3 := bel_alloc w2 (.cells #[.int .i64 1] 3)
  have hb3' := bel_trans hb2 hn3
  go_wp2_with fail
  refine (C3.out _ _ _ (HH.out.keeps hb3') (row1 w2 _ rfl)).mono ?_
  rintro _ w3 ⟨rfl, hw3⟩
  have hb3 := bel_trans hb3' hw3
  have hn4 := bel_alloc w3 (.cells #[.int .i64 a, .int .i64 b] 3)
  have hb4' := bel_trans hb3 hn4
  go_wp2_with fail
  refine (CS.out _ _ _ (HH.out.keeps hb4') (row2 w3 a b rfl)).mono ?_
  rintro _ w4 ⟨rfl, hw4⟩
  have hb4 := bel_trans hb4' hw4
  go_wp2_with fail
  refine (alive7 _ (HH.out.keeps hb4)).mono ?_
  rintro _ w5 ⟨rfl, hw5⟩
  have hb5 := bel_trans hb4 hw5
  go_wp2_with fail
  refine (CN.out _ (HH.out.keeps hb5)).mono ?_
  rintro _ w6 ⟨rfl, hw6⟩
  have hb6 := bel_trans hb5 hw6
  have hn7 := bel_alloc w6 (.cells #[.int .i64 a, .int .i64 b] 3)
  have hb7' := bel_trans hb6 hn7
  go_wp2_with fail
  refine (CV.out _ _ _ (HH.out.keeps hb7') (row2 w6 a b rfl)).mono ?_
  rintro _ w7 ⟨rfl, hw7⟩
  have hb7 := bel_trans hb7' hw7
  go_wp2
  all_goals go_ret
  all_goals exact ⟨rfl, by first | exact hb7 | exact hb7.drew⟩
set_option maxRecDepth 100000 in
set_option maxHeartbeats 4000000 in
theorem bad_l22 (a b : Int) (w : World) (ha : rng a) (hb : rng b) (H : Hold4 w) (hA : cls a = 2) (hB : cls b = 2) (hL : less (abs a) (abs b) = false) (hv : xval (d2 a b) 2 = false) :
    Calls Tryd.prog 3 #[.int .i64 a, .int .i64 b] w fun e w' => e = .returned (.bool true) ∧ Below w.heap.size w w' := by
  have HH : Hid (Hold4 w) := H
  have CA : Hid (∀ W, Hold4 W → Calls Tryd.prog 4 #[.int .i64 a] W fun e w' => e = .returned (.int .i64 (cls a)) ∧ Below W.heap.size W w') := fun W h => class6 W h
  have CB : Hid (∀ W, Hold4 W → Calls Tryd.prog 4 #[.int .i64 b] W fun e w' => e = .returned (.int .i64 (cls b)) ∧ Below W.heap.size W w') := fun W h => class6 W h
  have CX : Hid (∀ W, Hold4 W → Calls Tryd.prog 6 #[.int .i64 a] W fun e w' => e = .returned (.int .i64 (abs a)) ∧ Below W.heap.size W w') := fun W h => (bitsAbs a W h.env.lays ha).mono fun _ _ ⟨h1, h2⟩ => ⟨h1, h2.be⟩
  have CY : Hid (∀ W, Hold4 W → Calls Tryd.prog 6 #[.int .i64 b] W fun e w' => e = .returned (.int .i64 (abs b)) ∧ Below W.heap.size W w') := fun W h => (bitsAbs b W h.env.lays hb).mono fun _ _ ⟨h1, h2⟩ => ⟨h1, h2.be⟩
  have CL : Hid (∀ W, Calls Tryd.prog 5 #[.int .i64 (abs a), .int .i64 (abs b)] W fun e w' => e = .returned (.bool (less (abs a) (abs b))) ∧ w' = W) := fun W => bitsLess1 _ _ W (xabs_rng ha) (xabs_rng hb)
  have C1 : Hid (∀ W ao cap, Hold4 W → Row W ao 1 cap (fun _ => 9218868437227405311) → Calls Tryd.prog 7 #[.slice ao 1 cap, .int .i64 9218868437227405311] W fun r w' => r = .returned (.tuple #[.slice none 0 0, .int .i64 14]) ∧ Below W.heap.size W w') := fun W ao cap hW hR => (xGrow W hR (xk_r _ (by decide)) xk_v1 (xk_rng _ (by decide)) xk_pt (by decide) hW).mono fun r w' hx => hx.no xk_grow_top
  have C2 : Hid (∀ W ao cap, Hold4 W → Row W ao 1 cap (fun _ => 9218868437227405311) → Calls Tryd.prog 8 #[.slice ao 1 cap, .int .i64 9218868437227405311] W fun r w' => r = .returned (.tuple #[.slice none 0 0, .int .i64 14]) ∧ Below W.heap.size W w') := fun W ao cap hW hR => (xScale W hR (xk_r _ (by decide)) xk_v1 (xk_rng _ (by decide)) xk_pt (by decide) hW).mono fun r w' hx => hx.no xk_scale_top
  have C3 : Hid (∀ W ao cap, Hold4 W → Row W ao 1 cap (fun _ => 1) → Calls Tryd.prog 8 #[.slice ao 1 cap, .int .i64 1] W fun r w' => r = .returned (.tuple #[.slice none 0 0, .int .i64 14]) ∧ Below W.heap.size W w') := fun W ao cap hW hR => (xScale W hR (xk_r _ (by decide)) xk_v2 (xk_rng _ (by decide)) (by decide) (by decide) hW).mono fun r w' hx => hx.no xk_scale_one
  have CV : Hid (∀ W ao cap, Hold4 W → Row W ao 2 cap (d2 a b) → Calls Tryd.prog 11 #[.slice ao 2 cap] W fun e w' => e = .returned (.bool false) ∧ Below W.heap.size W w') := fun W ao cap hW hR => by
    have := xvalid_any W hR hW
    rw [hv] at this
    exact this
  have CN : Hid (∀ W, Hold4 W → Calls Tryd.prog 11 #[.slice none 0 0] W fun e w' => e = .returned (.bool true) ∧ Below W.heap.size W w') := fun W hW => xvalid_any (d := fun _ => 0) W (Row.nil _ _) hW
  have CS : Hid (∀ W ao cap, Hold4 W → Row W ao 2 cap (d2 a b) → Calls Tryd.prog 9 #[.slice ao 2 cap, .slice none 0 0] W fun r w' => r = .returned (.tuple #[.slice none 0 0, .int .i64 1]) ∧ Below W.heap.size W w') := fun W ao cap hW hR => xSum_bad (f := fun _ => 0) W hR (Row.nil _ _) hv hW
  clear hv ha hb H
  have hA1 : cls a = 2 := hA
  rw [hA1] at CA
  clear hA1
  have hB1 : cls b = 2 := hB
  rw [hB1] at CB
  clear hB1
  rw [hL] at CL
  go_enter Tryd.func3, Tryd.ntmps3
  have hc0 := bel_refl w
  go_wp2_with fail
  refine (CA.out _ (HH.out.keeps hc0)).mono ?_
  rintro _ v1 ⟨rfl, hv1⟩
  have hc1 := bel_trans hc0 hv1
  go_wp2_with fail
  refine (CA.out _ (HH.out.keeps hc1)).mono ?_
  rintro _ v2 ⟨rfl, hv2⟩
  have hc2 := bel_trans hc1 hv2
  go_wp2_with fail
  refine (CB.out _ (HH.out.keeps hc2)).mono ?_
  rintro _ v3 ⟨rfl, hv3⟩
  have hc3 := bel_trans hc2 hv3
  go_wp2_with fail
  refine (CB.out _ (HH.out.keeps hc3)).mono ?_
  rintro _ v4 ⟨rfl, hv4⟩
  have hc4 := bel_trans hc3 hv4
  go_wp2_with fail
  refine (CX.out _ (HH.out.keeps hc4)).mono ?_
  rintro _ v5 ⟨rfl, hv5⟩
  have hc5 := bel_trans hc4 hv5
  go_wp2_with fail
  refine (CY.out _ (HH.out.keeps hc5)).mono ?_
  rintro _ v6 ⟨rfl, hv6⟩
  have hc6 := bel_trans hc5 hv6
  go_wp2_with fail
  refine (CL.out _).mono ?_
  rintro _ wz ⟨rfl, hw⟩
  replace hw := hw.symm
  subst hw
  go_wp2_with fail
  have hbA := hc6
  have hn1 := bel_alloc v6 (.cells #[.int .i64 9218868437227405311] 3)
  have hb1' := bel_trans hbA hn1
  refine (C1.out _ _ _ (HH.out.keeps hb1') (row1 v6 _ rfl)).mono ?_
  rintro _ w1 ⟨rfl, hw1⟩
  have hb1 := bel_trans hb1' hw1
  have hn2 := bel_alloc w1 (.cells #[.int .i64 9218868437227405311] 3)
  have hb2' := bel_trans hb1 hn2
  go_wp2_with fail
  refine (C2.out _ _ _ (HH.out.keeps hb2') (row1 w1 _ rfl)).mono ?_
  rintro _ w2 ⟨rfl, hw2⟩
  have hb2 := bel_trans hb2' hw2
  have hn3 := bel_alloc w2 (.cells #[.int .i64 1] 3)
  have hb3' := bel_trans hb2 hn3
  go_wp2_with fail
  refine (C3.out _ _ _ (HH.out.keeps hb3') (row1 w2 _ rfl)).mono ?_
  rintro _ w3 ⟨rfl, hw3⟩
  have hb3 := bel_trans hb3' hw3
  have hn4 := bel_alloc w3 (.cells #[.int .i64 a, .int .i64 b] 3)
  have hb4' := bel_trans hb3 hn4
  go_wp2_with fail
  refine (CS.out _ _ _ (HH.out.keeps hb4') (row2 w3 a b rfl)).mono ?_
  rintro _ w4 ⟨rfl, hw4⟩
  have hb4 := bel_trans hb4' hw4
  go_wp2_with fail
  refine (alive7 _ (HH.out.keeps hb4)).mono ?_
  rintro _ w5 ⟨rfl, hw5⟩
  have hb5 := bel_trans hb4 hw5
  have hn6 := bel_alloc w5 (.cells #[.int .i64 a, .int .i64 b] 3)
  have hb6' := bel_trans hb5 hn6
  go_wp2_with fail
  refine (CV.out _ _ _ (HH.out.keeps hb6') (row2 w5 a b rfl)).mono ?_
  rintro _ w6 ⟨rfl, hw6⟩
  have hb6 := bel_trans hb6' hw6
  go_wp2_with fail
  refine (CN.out _ (HH.out.keeps hb6)).mono ?_
  rintro _ w7 ⟨rfl, hw7⟩
  have hb7 := bel_trans hb6 hw7
  go_wp2
  all_goals go_ret
  all_goals exact ⟨rfl, by first | exact hb7 | exact hb7.drew⟩
set_option maxRecDepth 100000 in
set_option maxHeartbeats 4000000 in
theorem good22 (a b : Int) (w : World) (ha : rng a) (hb : rng b) (H : Hold4 w) (hA : cls a = 2) (hB : cls b = 2) (hL : less (abs a) (abs b) = true) (hv : xval (d2 a b) 2 = true) :
    Calls Tryd.prog 3 #[.int .i64 a, .int .i64 b] w fun e w' => e = .returned (.bool true) ∧ Below w.heap.size w w' := by
  have HH : Hid (Hold4 w) := H
  have CA : Hid (∀ W, Hold4 W → Calls Tryd.prog 4 #[.int .i64 a] W fun e w' => e = .returned (.int .i64 (cls a)) ∧ Below W.heap.size W w') := fun W h => class6 W h
  have CB : Hid (∀ W, Hold4 W → Calls Tryd.prog 4 #[.int .i64 b] W fun e w' => e = .returned (.int .i64 (cls b)) ∧ Below W.heap.size W w') := fun W h => class6 W h
  have CX : Hid (∀ W, Hold4 W → Calls Tryd.prog 6 #[.int .i64 a] W fun e w' => e = .returned (.int .i64 (abs a)) ∧ Below W.heap.size W w') := fun W h => (bitsAbs a W h.env.lays ha).mono fun _ _ ⟨h1, h2⟩ => ⟨h1, h2.be⟩
  have CY : Hid (∀ W, Hold4 W → Calls Tryd.prog 6 #[.int .i64 b] W fun e w' => e = .returned (.int .i64 (abs b)) ∧ Below W.heap.size W w') := fun W h => (bitsAbs b W h.env.lays hb).mono fun _ _ ⟨h1, h2⟩ => ⟨h1, h2.be⟩
  have CL : Hid (∀ W, Calls Tryd.prog 5 #[.int .i64 (abs a), .int .i64 (abs b)] W fun e w' => e = .returned (.bool (less (abs a) (abs b))) ∧ w' = W) := fun W => bitsLess1 _ _ W (xabs_rng ha) (xabs_rng hb)
  have C1 : Hid (∀ W ao cap, Hold4 W → Row W ao 1 cap (fun _ => 9218868437227405311) → Calls Tryd.prog 7 #[.slice ao 1 cap, .int .i64 9218868437227405311] W fun r w' => r = .returned (.tuple #[.slice none 0 0, .int .i64 14]) ∧ Below W.heap.size W w') := fun W ao cap hW hR => (xGrow W hR (xk_r _ (by decide)) xk_v1 (xk_rng _ (by decide)) xk_pt (by decide) hW).mono fun r w' hx => hx.no xk_grow_top
  have C2 : Hid (∀ W ao cap, Hold4 W → Row W ao 1 cap (fun _ => 9218868437227405311) → Calls Tryd.prog 8 #[.slice ao 1 cap, .int .i64 9218868437227405311] W fun r w' => r = .returned (.tuple #[.slice none 0 0, .int .i64 14]) ∧ Below W.heap.size W w') := fun W ao cap hW hR => (xScale W hR (xk_r _ (by decide)) xk_v1 (xk_rng _ (by decide)) xk_pt (by decide) hW).mono fun r w' hx => hx.no xk_scale_top
  have C3 : Hid (∀ W ao cap, Hold4 W → Row W ao 1 cap (fun _ => 1) → Calls Tryd.prog 8 #[.slice ao 1 cap, .int .i64 1] W fun r w' => r = .returned (.tuple #[.slice none 0 0, .int .i64 14]) ∧ Below W.heap.size W w') := fun W ao cap hW hR => (xScale W hR (xk_r _ (by decide)) xk_v2 (xk_rng _ (by decide)) (by decide) (by decide) hW).mono fun r w' hx => hx.no xk_scale_one
  have CV : Hid (∀ W ao cap, Hold4 W → Row W ao 2 cap (d2 a b) → Calls Tryd.prog 11 #[.slice ao 2 cap] W fun e w' => e = .returned (.bool true) ∧ Below W.heap.size W w') := fun W ao cap hW hR => by
    have := xvalid_any W hR hW
    rw [hv] at this
    exact this
  have CN : Hid (∀ W, Hold4 W → Calls Tryd.prog 11 #[.slice none 0 0] W fun e w' => e = .returned (.bool true) ∧ Below W.heap.size W w') := fun W hW => xvalid_any (d := fun _ => 0) W (Row.nil _ _) hW
  have CS : Hid (∀ W ao cap, Hold4 W → Row W ao 2 cap (d2 a b) → Calls Tryd.prog 9 #[.slice ao 2 cap, .slice none 0 0] W fun r w' => ∃ v, r = .returned (.tuple #[v, .int .i64 0]) ∧ Below W.heap.size W w') := fun W ao cap hW hR => by
    refine (xSum (f := fun _ => 0) W hR (Row.nil _ _) (pair_rng ha hb) (fun i hi => by omega) hv rfl (by decide) hW).mono fun r w' hx => ?_
    obtain ⟨ao, cap, e1, _, e3⟩ := hx.yes rfl
    exact ⟨_, e1, e3⟩
  clear hv ha hb H
  have hA1 : cls a = 2 := hA
  rw [hA1] at CA
  clear hA1
  have hB1 : cls b = 2 := hB
  rw [hB1] at CB
  clear hB1
  rw [hL] at CL
  go_enter Tryd.func3, Tryd.ntmps3
  have hc0 := bel_refl w
  go_wp2_with fail
  refine (CA.out _ (HH.out.keeps hc0)).mono ?_
  rintro _ v1 ⟨rfl, hv1⟩
  have hc1 := bel_trans hc0 hv1
  go_wp2_with fail
  refine (CA.out _ (HH.out.keeps hc1)).mono ?_
  rintro _ v2 ⟨rfl, hv2⟩
  have hc2 := bel_trans hc1 hv2
  go_wp2_with fail
  refine (CB.out _ (HH.out.keeps hc2)).mono ?_
  rintro _ v3 ⟨rfl, hv3⟩
  have hc3 := bel_trans hc2 hv3
  go_wp2_with fail
  refine (CB.out _ (HH.out.keeps hc3)).mono ?_
  rintro _ v4 ⟨rfl, hv4⟩
  have hc4 := bel_trans hc3 hv4
  go_wp2_with fail
  refine (CX.out _ (HH.out.keeps hc4)).mono ?_
  rintro _ v5 ⟨rfl, hv5⟩
  have hc5 := bel_trans hc4 hv5
  go_wp2_with fail
  refine (CY.out _ (HH.out.keeps hc5)).mono ?_
  rintro _ v6 ⟨rfl, hv6⟩
  have hc6 := bel_trans hc5 hv6
  go_wp2_with fail
  refine (CL.out _).mono ?_
  rintro _ wz ⟨rfl, hw⟩
  replace hw := hw.symm
  subst hw
  go_wp2_with fail
  have hbA := hc6
  have hn1 := bel_alloc v6 (.cells #[.int .i64 9218868437227405311] 3)
  have hb1' := bel_trans hbA hn1
  refine (C1.out _ _ _ (HH.out.keeps hb1') (row1 v6 _ rfl)).mono ?_
  rintro _ w1 ⟨rfl, hw1⟩
  have hb1 := bel_trans hb1' hw1
  have hn2 := bel_alloc w1 (.cells #[.int .i64 9218868437227405311] 3)
  have hb2' := bel_trans hb1 hn2
  go_wp2_with fail
  refine (C2.out _ _ _ (HH.out.keeps hb2') (row1 w1 _ rfl)).mono ?_
  rintro _ w2 ⟨rfl, hw2⟩
  have hb2 := bel_trans hb2' hw2
  have hn3 := bel_alloc w2 (.cells #[.int .i64 1] 3)
  have hb3' := bel_trans hb2 hn3
  go_wp2_with fail
  refine (C3.out _ _ _ (HH.out.keeps hb3') (row1 w2 _ rfl)).mono ?_
  rintro _ w3 ⟨rfl, hw3⟩
  have hb3 := bel_trans hb3' hw3
  have hn4 := bel_alloc w3 (.cells #[.int .i64 a, .int .i64 b] 3)
  have hb4' := bel_trans hb3 hn4
  go_wp2_with fail
  refine (CS.out _ _ _ (HH.out.keeps hb4') (row2 w3 a b rfl)).mono ?_
  rintro _ w4 ⟨vs, rfl, hw4⟩
  have hb4 := bel_trans hb4' hw4
  go_wp2_with fail
  refine (alive7 _ (HH.out.keeps hb4)).mono ?_
  rintro _ w5 ⟨rfl, hw5⟩
  have hb5 := bel_trans hb4 hw5
  go_wp2_with fail
  refine (CN.out _ (HH.out.keeps hb5)).mono ?_
  rintro _ w6 ⟨rfl, hw6⟩
  have hb6 := bel_trans hb5 hw6
  have hn7 := bel_alloc w6 (.cells #[.int .i64 a, .int .i64 b] 3)
  have hb7' := bel_trans hb6 hn7
  go_wp2_with fail
  refine (CV.out _ _ _ (HH.out.keeps hb7') (row2 w6 a b rfl)).mono ?_
  rintro _ w7 ⟨rfl, hw7⟩
  have hb7 := bel_trans hb7' hw7
  go_wp2
  all_goals go_ret
  all_goals exact ⟨rfl, by first | exact hb7 | exact hb7.drew⟩
set_option maxRecDepth 100000 in
set_option maxHeartbeats 4000000 in
theorem open22 (a b : Int) (w : World) (ha : rng a) (hb : rng b) (H : Hold4 w) (hA : cls a = 2) (hB : cls b = 2) (hL : less (abs a) (abs b) = true) (hv : xval (d2 a b) 2 = false) :
    Calls Tryd.prog 3 #[.int .i64 a, .int .i64 b] w fun e w' => e = .returned (.bool true) ∧ Below w.heap.size w w' := by
  have HH : Hid (Hold4 w) := H
  have CA : Hid (∀ W, Hold4 W → Calls Tryd.prog 4 #[.int .i64 a] W fun e w' => e = .returned (.int .i64 (cls a)) ∧ Below W.heap.size W w') := fun W h => class6 W h
  have CB : Hid (∀ W, Hold4 W → Calls Tryd.prog 4 #[.int .i64 b] W fun e w' => e = .returned (.int .i64 (cls b)) ∧ Below W.heap.size W w') := fun W h => class6 W h
  have CX : Hid (∀ W, Hold4 W → Calls Tryd.prog 6 #[.int .i64 a] W fun e w' => e = .returned (.int .i64 (abs a)) ∧ Below W.heap.size W w') := fun W h => (bitsAbs a W h.env.lays ha).mono fun _ _ ⟨h1, h2⟩ => ⟨h1, h2.be⟩
  have CY : Hid (∀ W, Hold4 W → Calls Tryd.prog 6 #[.int .i64 b] W fun e w' => e = .returned (.int .i64 (abs b)) ∧ Below W.heap.size W w') := fun W h => (bitsAbs b W h.env.lays hb).mono fun _ _ ⟨h1, h2⟩ => ⟨h1, h2.be⟩
  have CL : Hid (∀ W, Calls Tryd.prog 5 #[.int .i64 (abs a), .int .i64 (abs b)] W fun e w' => e = .returned (.bool (less (abs a) (abs b))) ∧ w' = W) := fun W => bitsLess1 _ _ W (xabs_rng ha) (xabs_rng hb)
  have C1 : Hid (∀ W ao cap, Hold4 W → Row W ao 1 cap (fun _ => 9218868437227405311) → Calls Tryd.prog 7 #[.slice ao 1 cap, .int .i64 9218868437227405311] W fun r w' => r = .returned (.tuple #[.slice none 0 0, .int .i64 14]) ∧ Below W.heap.size W w') := fun W ao cap hW hR => (xGrow W hR (xk_r _ (by decide)) xk_v1 (xk_rng _ (by decide)) xk_pt (by decide) hW).mono fun r w' hx => hx.no xk_grow_top
  have C2 : Hid (∀ W ao cap, Hold4 W → Row W ao 1 cap (fun _ => 9218868437227405311) → Calls Tryd.prog 8 #[.slice ao 1 cap, .int .i64 9218868437227405311] W fun r w' => r = .returned (.tuple #[.slice none 0 0, .int .i64 14]) ∧ Below W.heap.size W w') := fun W ao cap hW hR => (xScale W hR (xk_r _ (by decide)) xk_v1 (xk_rng _ (by decide)) xk_pt (by decide) hW).mono fun r w' hx => hx.no xk_scale_top
  have C3 : Hid (∀ W ao cap, Hold4 W → Row W ao 1 cap (fun _ => 1) → Calls Tryd.prog 8 #[.slice ao 1 cap, .int .i64 1] W fun r w' => r = .returned (.tuple #[.slice none 0 0, .int .i64 14]) ∧ Below W.heap.size W w') := fun W ao cap hW hR => (xScale W hR (xk_r _ (by decide)) xk_v2 (xk_rng _ (by decide)) (by decide) (by decide) hW).mono fun r w' hx => hx.no xk_scale_one
  have CV : Hid (∀ W ao cap, Hold4 W → Row W ao 2 cap (d2 a b) → Calls Tryd.prog 11 #[.slice ao 2 cap] W fun e w' => e = .returned (.bool false) ∧ Below W.heap.size W w') := fun W ao cap hW hR => by
    have := xvalid_any W hR hW
    rw [hv] at this
    exact this
  have CN : Hid (∀ W, Hold4 W → Calls Tryd.prog 11 #[.slice none 0 0] W fun e w' => e = .returned (.bool true) ∧ Below W.heap.size W w') := fun W hW => xvalid_any (d := fun _ => 0) W (Row.nil _ _) hW
  have CS : Hid (∀ W ao cap, Hold4 W → Row W ao 2 cap (d2 a b) → Calls Tryd.prog 9 #[.slice ao 2 cap, .slice none 0 0] W fun r w' => r = .returned (.tuple #[.slice none 0 0, .int .i64 1]) ∧ Below W.heap.size W w') := fun W ao cap hW hR => xSum_bad (f := fun _ => 0) W hR (Row.nil _ _) hv hW
  clear hv ha hb H
  have hA1 : cls a = 2 := hA
  rw [hA1] at CA
  clear hA1
  have hB1 : cls b = 2 := hB
  rw [hB1] at CB
  clear hB1
  rw [hL] at CL
  go_enter Tryd.func3, Tryd.ntmps3
  have hc0 := bel_refl w
  go_wp2_with fail
  refine (CA.out _ (HH.out.keeps hc0)).mono ?_
  rintro _ v1 ⟨rfl, hv1⟩
  have hc1 := bel_trans hc0 hv1
  go_wp2_with fail
  refine (CA.out _ (HH.out.keeps hc1)).mono ?_
  rintro _ v2 ⟨rfl, hv2⟩
  have hc2 := bel_trans hc1 hv2
  go_wp2_with fail
  refine (CB.out _ (HH.out.keeps hc2)).mono ?_
  rintro _ v3 ⟨rfl, hv3⟩
  have hc3 := bel_trans hc2 hv3
  go_wp2_with fail
  refine (CB.out _ (HH.out.keeps hc3)).mono ?_
  rintro _ v4 ⟨rfl, hv4⟩
  have hc4 := bel_trans hc3 hv4
  go_wp2_with fail
  refine (CX.out _ (HH.out.keeps hc4)).mono ?_
  rintro _ v5 ⟨rfl, hv5⟩
  have hc5 := bel_trans hc4 hv5
  go_wp2_with fail
  refine (CY.out _ (HH.out.keeps hc5)).mono ?_
  rintro _ v6 ⟨rfl, hv6⟩
  have hc6 := bel_trans hc5 hv6
  go_wp2_with fail
  refine (CL.out _).mono ?_
  rintro _ wz ⟨rfl, hw⟩
  replace hw := hw.symm
  subst hw
  go_wp2_with fail
  have hbA := hc6
  have hn1 := bel_alloc v6 (.cells #[.int .i64 9218868437227405311] 3)
  have hb1' := bel_trans hbA hn1
  refine (C1.out _ _ _ (HH.out.keeps hb1') (row1 v6 _ rfl)).mono ?_
  rintro _ w1 ⟨rfl, hw1⟩
  have hb1 := bel_trans hb1' hw1
  have hn2 := bel_alloc w1 (.cells #[.int .i64 9218868437227405311] 3)
  have hb2' := bel_trans hb1 hn2
  go_wp2_with fail
  refine (C2.out _ _ _ (HH.out.keeps hb2') (row1 w1 _ rfl)).mono ?_
  rintro _ w2 ⟨rfl, hw2⟩
  have hb2 := bel_trans hb2' hw2
  have hn3 := bel_alloc w2 (.cells #[.int .i64 1] 3)
  have hb3' := bel_trans hb2 hn3
  go_wp2_with fail
  refine (C3.out _ _ _ (HH.out.keeps hb3') (row1 w2 _ rfl)).mono ?_
  rintro _ w3 ⟨rfl, hw3⟩
  have hb3 := bel_trans hb3' hw3
  have hn4 := bel_alloc w3 (.cells #[.int .i64 a, .int .i64 b] 3)
  have hb4' := bel_trans hb3 hn4
  go_wp2_with fail
  refine (CS.out _ _ _ (HH.out.keeps hb4') (row2 w3 a b rfl)).mono ?_
  rintro _ w4 ⟨rfl, hw4⟩
  have hb4 := bel_trans hb4' hw4
  go_wp2_with fail
  refine (alive7 _ (HH.out.keeps hb4)).mono ?_
  rintro _ w5 ⟨rfl, hw5⟩
  have hb5 := bel_trans hb4 hw5
  go_wp2_with fail
  refine (CN.out _ (HH.out.keeps hb5)).mono ?_
  rintro _ w6 ⟨rfl, hw6⟩
  have hb6 := bel_trans hb5 hw6
  have hn7 := bel_alloc w6 (.cells #[.int .i64 a, .int .i64 b] 3)
  have hb7' := bel_trans hb6 hn7
  go_wp2_with fail
  refine (CV.out _ _ _ (HH.out.keeps hb7') (row2 w6 a b rfl)).mono ?_
  rintro _ w7 ⟨rfl, hw7⟩
  have hb7 := bel_trans hb7' hw7
  go_wp2
  all_goals go_ret
  all_goals exact ⟨rfl, by first | exact hb7 | exact hb7.drew⟩
theorem walk (a b : Int) (w : World) (ha : rng a) (hb : rng b) (H : Hold4 w) :
    Calls Tryd.prog 3 #[.int .i64 a, .int .i64 b] w fun e w' => e = .returned (.bool true) ∧ Below w.heap.size w w' := by
  cases hv : xval (d2 a b) 2
  · by_cases hA1 : cls a = 1
    · by_cases hB1 : cls b = 1
      · cases hL : less (abs a) (abs b)
        · exact bad_l11 a b w ha hb H hA1 hB1 hL hv
        · exact open11 a b w ha hb H hA1 hB1 hL hv
      · by_cases hB2 : cls b = 2
        · cases hL : less (abs a) (abs b)
          · exact bad_l12 a b w ha hb H hA1 hB2 hL hv
          · exact open12 a b w ha hb H hA1 hB2 hL hv
        · exact bad_b1 a b w ha hb H hA1 ⟨hB1, hB2⟩ hv
    · by_cases hA2 : cls a = 2
      · by_cases hB1 : cls b = 1
        · cases hL : less (abs a) (abs b)
          · exact bad_l21 a b w ha hb H hA2 hB1 hL hv
          · exact open21 a b w ha hb H hA2 hB1 hL hv
        · by_cases hB2 : cls b = 2
          · cases hL : less (abs a) (abs b)
            · exact bad_l22 a b w ha hb H hA2 hB2 hL hv
            · exact open22 a b w ha hb H hA2 hB2 hL hv
          · exact bad_b2 a b w ha hb H hA2 ⟨hB1, hB2⟩ hv
      · exact bad_a a b w ha hb H ⟨hA1, hA2⟩ hv
  · obtain ⟨(hA | hA), (hB | hB), hL⟩ := xpair_ok ha hb hv
    · exact good11 a b w ha hb H hA hB hL hv
    · exact good12 a b w ha hb H hA hB hL hv
    · exact good21 a b w ha hb H hA hB hL hv
    · exact good22 a b w ha hb H hA hB hL hv
theorem own : ownKnob Tryd.prog.godebug = none := by kernel_rfl
theorem laidOut : laidOutB Tryd.prog = true := by kernel_rfl
theorem door_met (os : Os) (args : Array Value) : laidMetH Tryd.prog Rows.expansionRefusesRow.laid ((World.doorLaid Tryd.prog 400 os).forCall (fun _ _ => 0) ⟨#[], args, []⟩).memory :=
  laidMetH_of_parts3 (fuel := 8) (laidMet_of_run' 8 (by kernel_rfl) (by kernel_rfl)) (by kernel_rfl) (by kernel_rfl)
set_option maxRecDepth 100000 in
theorem lifted (os : Os) (started : os.Started) (H : Type) (enc : TypeId × Value → H) :
    ReturnsInHanded {} Tryd.checked os 3 .any (fun w args => (Rows.expansionRefusesSpec.pre enc Tryd.prog Tryd.f3 [] false w args ∧ laidMetH Tryd.prog Rows.expansionRefusesRow.laid w) ∧ sizedMet enc Tryd.prog Tryd.f3 (OpenSpec.ofChange Rows.expansionRefusesSpec) false w args)
      (Rows.expansionRefusesSpec.post enc Tryd.prog Tryd.f3 false true false false) := by
  refine returnsInHanded_of_change_and (C := Tryd.checked) (X := fun w _ => laidMetH Tryd.prog Rows.expansionRefusesRow.laid w) (fun _ _ _ hh h => h.of_heap hh) own started (by kernel_rfl) Tryd.func3
    (ChangeSpec.witness_shaped (enc := enc) (C := Tryd.checked) (os := os) (X := fun w _ => laidMetH Tryd.prog Rows.expansionRefusesRow.laid w) false (World.doorLaid Tryd.prog 400 os) #[.int .i64 0, .int .i64 0] 8 rfl (World.shaped_of_RefB (by kernel_rfl) (by kernel_rfl)) (by kernel_rfl) (by kernel_rfl) (by kernel_rfl) (door_met os _)) ?_
  intro W base args ds gs before hval0 hW _ _ hL _
  have hval : ∀ (j : Nat) t v, Tryd.f3.params[j]? = some t → args[j]? = some v → Value.okWide Tryd.prog W .any base t v := hval0
  have hW' := hW
  obtain ⟨p, q, hA0, hV, rfl, hfz, hnd⟩ := hW
  have hA : DataW.TrodAll enc Tryd.prog W 0 (fun _ => true) true Tryd.f3.params.toList args.toList ds p := hA0
  rw [Tryd.params3] at hA hval
  obtain ⟨v0, vs0, d0, ds0, p0, q0, hargs, rfl, rfl, h0, r0⟩ := trodAll_cons hA
  obtain ⟨v1, vs1, d1, ds1, p1, q1, rfl, rfl, rfl, h1, r1⟩ := trodAll_cons r0
  obtain ⟨rfl, rfl, rfl⟩ := trodAll_nil r1
  obtain rfl : args = #[v0, v1] := by cases args; simp_all
  obtain ⟨rfl, rfl⟩ := trodVars_none hV
  obtain ⟨a0, rfl, rfl, rfl, w0⟩ := open_int Tryd.underlying3 (hval 0 3 v0 rfl rfl) h0
  obtain ⟨a1, rfl, rfl, rfl, w1⟩ := open_int Tryd.underlying3 (hval 1 3 v1 rfl rfl) h1
  clear hA0 hval0
  refine (walk a0 a1 W (rng_of w0) (rng_of w1) (hold6_of hL)).mono fun e W' ⟨he, bel⟩ => ?_
  subst he
  exact ⟨_, rfl, _, _, _, [], _, [], hW', trodAll_mk1 (shut_bool Tryd.underlying4 _), (trodAll_cons_mk (shut_int Tryd.underlying3 w0) (trodAll_cons_mk (shut_int Tryd.underlying3 w1) trodAll_mk0)), rfl, bel.frame _, fun h => by cases h⟩
theorem said : Rows.ExpansionRefusesSaid :=
  OpenClaim.holds_of_wide 3 Tryd.f3 rfl rfl rfl rfl rfl rfl rfl ⟨rfl, rfl, rfl, rfl, rfl⟩ rfl rfl rfl rfl rfl (by kernel_rfl) Tryd.func3 (by kernel_rfl)
    (of_decide_eq_true (by kernel_rfl)) (by unfold Func.isWrapper; first | (rw [if_pos (by decide +kernel)]; kernel_rfl) | (rw [if_neg (by decide +kernel)]; exact ⟨rfl, rfl⟩))
    (fun os started H enc _ => lifted os started H enc)
theorem plain (f : FuncId) (fn : Func) (hf : Tryd.pinned.checked.prog.funcNamed Tryd.f3.name = some f) (hfn : Tryd.pinned.checked.prog.funcs[f]? = some fn) :
    true = Tryd.pinned.checked.prog.looks [] ∧ ∀ (j : Nat) t, fn.params[j]? = some t → Tryd.pinned.checked.prog.wantsStandIn t = false := by
  obtain rfl : f = 3 := Option.some.inj ((show Tryd.prog.funcNamed Tryd.f3.name = some 3 by kernel_rfl).symm.trans hf) |>.symm
  obtain rfl : fn = Tryd.f3 := (Option.some.inj (Tryd.func3.symm.trans hfn)).symm
  refine ⟨by kernel_rfl, fun j t ht => ?_⟩
  rw [Tryd.params3] at ht
  obtain rfl : t = 3 := by simpa using Array.mem_of_getElem? ht
  exact (show Tryd.prog.wantsStandIn 3 = false by kernel_rfl)
/-- THE CARD. -/
theorem card : Rows.ExpansionRefusesCardSaid :=
  Claim7.holds_tied_plain_at .later [] _ _ _ _ said (fun _ h => by cases h) (by kernel_rfl) (fun _ h => by cases h) expansionRefuses_row_tie rfl ⟨rfl, rfl⟩ (by kernel_rfl) rfl plain (by kernel_rfl)
end Go.Proofs.YtjlmpgbadgkgmaaDoor.expansionRefuses
namespace Go.Proofs.YtjlmpgbadgkgmaaDoor
/-- ExpansionRefuses: the statement as it is given. -/
theorem expansionRefuses_holds : Rows.ExpansionRefusesCardSaid := expansionRefuses.card
end Go.Proofs.YtjlmpgbadgkgmaaDoor
