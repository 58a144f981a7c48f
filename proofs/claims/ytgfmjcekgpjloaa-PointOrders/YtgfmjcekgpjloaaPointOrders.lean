/-
  Proved: at every two points, plumblaw9.PointOrders answers true: point.Same and point.Cmp tell what the document's own answer tells, and refuse what is no point.
-/
import Derived.Test.YtgfmjcekgpjloaaQTop
import Derived.Test.YtgfmjcekgpjloaaQShut
namespace Go.Proofs.Ytgfmjcekgpjloaa.pointOrders
open Go Go.ChangeShapes Go.WideShapes Go.ChangeAt Go.RowKit Go.Proofs.Ytgfmjcekgpjloaa Go.Proofs.Ytgfmjcekgpjloaa.M
set_option linter.unusedSimpArgs false
set_option linter.unusedVariables false

set_option maxRecDepth 100000 in
theorem walk (ax ay bx by' : Int) (w : World) (hax : rng ax) (hay : rng ay) (hbx : rng bx) (hby : rng by') :
    Calls Try.prog 3 #[.agg #[.int .i64 ax, .int .i64 ay], .agg #[.int .i64 bx, .int .i64 by']] w fun e w' => e = .returned (.bool true) ∧ Below w.heap.size w w' := by
  have CS : Hid (∀ W, Calls Try.prog 7 #[.agg #[.int .i64 ax, .int .i64 ay], .agg #[.int .i64 bx, .int .i64 by']] W fun e w' => e = .returned (.tuple #[.bool (((pok ax && pok ay) && (pok bx && pok by')) && decide (pcmp ax ay bx by' = 0)), .int .i64 (errF ((pok ax && pok ay) && (pok bx && pok by')))]) ∧ Below W.heap.size W w') := fun W => pointSame hax hay hbx hby W
  have CC : Hid (∀ W, Calls Try.prog 8 #[.agg #[.int .i64 ax, .int .i64 ay], .agg #[.int .i64 bx, .int .i64 by']] W fun e w' => e = .returned (.tuple #[.int .i64 (cmpF ((pok ax && pok ay) && (pok bx && pok by')) (pcmp ax ay bx by')), .int .i64 (errF ((pok ax && pok ay) && (pok bx && pok by')))]) ∧ Below W.heap.size W w') := fun W => pointCmp hax hay hbx hby W
  have CA : Hid (∀ W, Calls Try.prog 9 #[.agg #[.int .i64 ax, .int .i64 ay]] W fun e w' => e = .returned (.bool (pok ax && pok ay)) ∧ Below W.heap.size W w') := fun W => q_refFinite hax hay W
  have CB : Hid (∀ W, Calls Try.prog 9 #[.agg #[.int .i64 bx, .int .i64 by']] W fun e w' => e = .returned (.bool (pok bx && pok by')) ∧ Below W.heap.size W w') := fun W => q_refFinite hbx hby W
  have CR : Hid (∀ W, Calls Try.prog 11 #[.agg #[.int .i64 ax, .int .i64 ay], .agg #[.int .i64 bx, .int .i64 by']] W fun e w' => e = .returned (.int .i64 (pcmp ax ay bx by')) ∧ Below W.heap.size W w') := fun W => q_refCmp hax hay hbx hby W
  have hb2 := bel_alloc2 w (.cells #[.int .i64 ax, .int .i64 ay] 23) (.cells #[.int .i64 bx, .int .i64 by'] 23)
  have p0 := heap_a2 w (.cells #[.int .i64 ax, .int .i64 ay] 23) (.cells #[.int .i64 bx, .int .i64 by'] 23)
  have p1 := heap_b2 w (.cells #[.int .i64 ax, .int .i64 ay] 23) (.cells #[.int .i64 bx, .int .i64 by'] 23)
  have e0 : errF true = 0 := rfl
  have e1 : errF false = 10 := rfl
  have hr := pcmp_any ax ay bx by'
  clear hax hay hbx hby
  generalize (pok ax && pok ay) = P at *
  generalize (pok bx && pok by') = Q at *
  generalize pcmp ax ay bx by' = R at *
  have f0 : cmpF true R = R := rfl
  have f1 : cmpF false R = 0 := rfl
  cases P <;> cases Q
  all_goals
    simp only [Bool.and_true, Bool.and_false, Bool.true_and, Bool.false_and, e0, e1, f0, f1] at CS CC
    clear e0 e1 f0 f1
    go_enter Try.func3, Try.ntmps3
    go_wp2_with fail
    generalize (w.alloc (.cells #[.int .i64 ax, .int .i64 ay] 23)).alloc (.cells #[.int .i64 bx, .int .i64 by'] 23) = wx at *
    refine (alive9 _).mono ?_
    rintro _ w1 ⟨rfl, hb3⟩
    have p01 := (hb3.block _ (Array.getElem?_eq_some_iff.1 p0).1).trans p0
    have p11 := (hb3.block _ (Array.getElem?_eq_some_iff.1 p1).1).trans p1
    have c0 := blkC p01 0 rfl
    have c1 := blkC p01 1 rfl
    have c2 := blkC p11 0 rfl
    have c3 := blkC p11 1 rfl
    clear p0 p1
    go_wp2_with fail
    refine (CS.out _).mono ?_
    rintro _ w2 ⟨rfl, hb4⟩
    replace c0 := q_cell c0 hb4
    replace c1 := q_cell c1 hb4
    replace c2 := q_cell c2 hb4
    replace c3 := q_cell c3 hb4
    go_wp2_with fail
    refine (CC.out _).mono ?_
    rintro _ w3 ⟨rfl, hb5⟩
    replace c0 := q_cell c0 hb5
    replace c1 := q_cell c1 hb5
    replace c2 := q_cell c2 hb5
    replace c3 := q_cell c3 hb5
    go_wp2_with fail
    refine (CA.out _).mono ?_
    rintro _ w4 ⟨rfl, hb6⟩
    replace c0 := q_cell c0 hb6
    replace c1 := q_cell c1 hb6
    replace c2 := q_cell c2 hb6
    replace c3 := q_cell c3 hb6
    go_wp2_with fail
    refine (CB.out _).mono ?_
    rintro _ w5 ⟨rfl, hb7⟩
    replace c0 := q_cell c0 hb7
    replace c1 := q_cell c1 hb7
    replace c2 := q_cell c2 hb7
    replace c3 := q_cell c3 hb7
    have hbw := bel_trans hb2 (bel_trans hb3 (bel_trans hb4 (bel_trans hb5 (bel_trans hb6 hb7))))
    go_wp2_with (first
      | (go_at_call 11; refine (CR.out _).mono ?_; rintro _ w6 ⟨rfl, hb8⟩; have hbx := bel_trans hbw hb8)
      | (go_at_call 10; refine (q_num _ _).mono ?_; rintro _ _ ⟨rfl, rfl⟩))
  all_goals go_ret
  all_goals first
    | exact ⟨rfl, hbw⟩
    | exact ⟨by first | rfl | (rcases hr with rfl | rfl | rfl <;> rfl), hbx⟩
theorem own : ownKnob Try.prog.godebug = none := by kernel_rfl
theorem laidOut : laidOutB Try.prog = true := by kernel_rfl
set_option maxRecDepth 100000 in
theorem lifted (os : Os) (started : os.Started) (H : Type) (enc : TypeId × Value → H) :
    ReturnsInHanded {} Try.checked os 3 .any (Rows.pointOrdersSpec.pre6 enc Try.prog Try.f3 Rows.pointOrdersRow.domain false) (Rows.pointOrdersSpec.post enc Try.prog Try.f3 false true false false) := by
  refine returnsInHanded_of_change (C := Try.checked) own started (by kernel_rfl) Try.func3
    (ChangeSpec.witness6 (enc := enc) (C := Try.checked) false ⟨#[], #[.agg #[.int .i64 0, .int .i64 0], .agg #[.int .i64 0, .int .i64 0]], []⟩ 8 (by kernel_rfl) (by kernel_rfl) (by kernel_rfl) (by kernel_rfl)) ?_
  intro W base args ds gs before hval0 hW hcnd _
  have hval : ∀ (j : Nat) t v, Try.f3.params[j]? = some t → args[j]? = some v → Value.okWide Try.prog W .any base t v := hval0
  have hW' := hW
  obtain ⟨p, q, hA0, hV, rfl, hfz, hnd⟩ := hW
  have hA : DataW.TrodAll enc Try.prog W 0 (fun _ => true) true Try.f3.params.toList args.toList ds p := hA0
  rw [Try.params3] at hA hval
  obtain ⟨v0, vs0, d0, ds0, p0, q0, hargs, rfl, rfl, h0, r0⟩ := trodAll_cons hA
  obtain ⟨v1, vs1, d1, ds1, p1, q1, rfl, rfl, rfl, h1, r1⟩ := trodAll_cons r0
  obtain ⟨rfl, rfl, rfl⟩ := trodAll_nil r1
  obtain rfl : args = #[v0, v1] := by cases args; simp_all
  obtain ⟨rfl, rfl⟩ := trodVars_none hV
  have k0 := h0
  have lt0 : ∀ x ∈ p0, x.block < W.heap.size := by obtain ⟨m, hm⟩ := k0; exact DataW.trod_lt m _ _ _ hm
  obtain ⟨x0, y0, rfl, w0, g0⟩ := point_of (hval 0 23 v0 rfl rfl) h0
  have k1 := h1
  have lt1 : ∀ x ∈ p1, x.block < W.heap.size := by obtain ⟨m, hm⟩ := k1; exact DataW.trod_lt m _ _ _ hm
  obtain ⟨x1, y1, rfl, w1, g1⟩ := point_of (hval 1 23 v1 rfl rfl) h1
  clear hA0 hval0
  refine (walk x0 y0 x1 y1 W w0 g0 w1 g1).mono fun e W' ⟨he, bel⟩ => ?_
  subst he
  exact ⟨_, rfl, _, _, _, [], _, [], hW', trodAll_mk1 (shut_bool Try.underlying4 _), (trodAll_cons_mk (Below.trod laidOut (by kernel_rfl) (of_decide_eq_true (by kernel_rfl)) k0 bel lt0) (trodAll_cons_mk (Below.trod laidOut (by kernel_rfl) (of_decide_eq_true (by kernel_rfl)) k1 bel lt1) trodAll_mk0)), rfl, bel.frame _, fun h => by cases h⟩
theorem said : Rows.PointOrdersSaid :=
  OpenClaim.holds_of_wide 3 Try.f3 rfl rfl rfl rfl rfl rfl rfl ⟨rfl, rfl, rfl, rfl, rfl⟩ rfl rfl rfl rfl rfl (by kernel_rfl) Try.func3 (by kernel_rfl)
    (of_decide_eq_true (by kernel_rfl)) (by unfold Func.isWrapper; first | (rw [if_pos (by decide +kernel)]; kernel_rfl) | (rw [if_neg (by decide +kernel)]; exact ⟨rfl, rfl⟩))
    (fun os started H enc _ => lifted os started H enc)
end Go.Proofs.Ytgfmjcekgpjloaa.pointOrders
namespace Go.Proofs.Ytgfmjcekgpjloaa
/-- PointOrders: the statement as it is given. -/
theorem pointOrders_holds : Rows.PointOrdersSaid := pointOrders.said
end Go.Proofs.Ytgfmjcekgpjloaa
