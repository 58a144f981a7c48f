/-
  OrientTrue: for every three points the law returns true: whatever stage decides, the sign is that of the exact value, or both calls refuse alike. As a card: the library's tables and the layout of package bits start as the program's text lays them.
-/
import Derived.Test.YtafnigjehkpggaaGreatDoorPart31
import Derived.Test.YtafnigjehkpggaaGreatDoorPart27
import Derived.Test.YtafnigjehkpggaaGreatDoorPart11
import Derived.Test.YtafnigjehkpggaaGreatDoorCards
import Derived.Test.YtafnigjehkpggaaGreatDoorTie
namespace Go.Proofs.YtafnigjehkpggaaGreatDoor.orientTrue
open Go Go.ChangeShapes Go.WideShapes Go.ChangeAt Go.RowKit Go.Proofs.YtafnigjehkpggaaGreatDoor Go.Proofs.YtafnigjehkpggaaGreatDoor.M
set_option linter.unusedSimpArgs false
set_option linter.unusedVariables false

set_option maxRecDepth 100000 in
set_option maxHeartbeats 4000000 in
theorem walk_yes (ax ay bx by' cx cy : Int) (w : World) (rax : rng ax) (ray : rng ay) (rbx : rng bx) (rby : rng by') (rcx : rng cx) (rcy : rng cy) (pax : pok ax = true) (pay : pok ay = true) (pbx : pok bx = true) (pby : pok by' = true) (pcx : pok cx = true) (pcy : pok cy = true) (H : Hold4 w) :
    Calls Tryz.prog 3 #[.agg #[.int .i64 ax, .int .i64 ay], .agg #[.int .i64 bx, .int .i64 by'], .agg #[.int .i64 cx, .int .i64 cy]] w fun e w' => e = .returned (.bool true) ∧ Below w.heap.size w w' := by
  have CS : Hid (∀ W, Hold4 W → Calls Tryz.prog 8 #[.agg #[.int .i64 ax, .int .i64 ay], .agg #[.int .i64 bx, .int .i64 by'], .agg #[.int .i64 cx, .int .i64 cy]] W fun r w' => r = .returned (.tuple #[.agg #[.int .i64 (ord (oDet ax ay bx by' cx cy) 0), .int .i64 (oSt ax ay bx by' cx cy)], .int .i64 0]) ∧ Below W.heap.size W w') := fun W h => oSign_ok rax ray rbx rby rcx rcy pax pay pbx pby pcx pcy W h
  have CE : Hid (∀ W, Hold4 W → Calls Tryz.prog 9 #[.agg #[.int .i64 ax, .int .i64 ay], .agg #[.int .i64 bx, .int .i64 by'], .agg #[.int .i64 cx, .int .i64 cy]] W fun r w' => ∃ g o n c e, r = .returned (.tuple #[.agg #[.bool g, .slice o n c, .int .i64 e], .int .i64 0]) ∧ (∀ W2, Below w'.heap.size w' W2 → Calls Tryz.prog 11 #[.agg #[.bool g, .slice o n c, .int .i64 e]] W2 fun r2 w2 => r2 = .returned (.int .i64 (ord (oDet ax ay bx by' cx cy) 0)) ∧ Below W2.heap.size W2 w2) ∧ Below W.heap.size W w') := fun W h => by
    refine (oExactF_yes rax ray rbx rby rcx rcy pax pay pbx pby pcx pcy W h).mono ?_
    rintro _ w' ⟨v, V, rfl, hA, hV, hB⟩
    obtain ⟨g, o, n, c, e, rfl⟩ := dans_shape hA
    refine ⟨g, o, n, c, e, rfl, fun W2 h2 => ?_, hA.below⟩
    have := oSig (hA.num.keeps h2)
    rw [hV.unique (det_X rax ray rbx rby rcx rcy pax pay pbx pby pcx pcy), ord_mulP (pw_pos _)] at this
    exact this
  obtain ⟨h1, h6⟩ := oSt_range ax ay bx by' cx cy
  clear rax ray rbx rby rcx rcy pax pay pbx pby pcx pcy
  generalize ord (oDet ax ay bx by' cx cy) 0 = sgn at *
  generalize oSt ax ay bx by' cx cy = st at *
  obtain ⟨hb0, a_k, b_k, c_k, hsz0⟩ := blks3 w (.cells #[.int .i64 ax, .int .i64 ay] 23) (.cells #[.int .i64 bx, .int .i64 by'] 23) (.cells #[.int .i64 cx, .int .i64 cy] 23)
  clear hsz0
  go_enter Tryz.func3, Tryz.ntmps3
  go_wp2_with fail
  generalize (((w.alloc (.cells #[.int .i64 ax, .int .i64 ay] 23)).alloc (.cells #[.int .i64 bx, .int .i64 by'] 23)).alloc (.cells #[.int .i64 cx, .int .i64 cy] 23)) = x0 at hb0 a_k b_k c_k ⊢
  replace H := H.keeps hb0
  refine (alive10 _).mono ?_
  rintro _ y1 ⟨rfl, hw1⟩
  replace a_k := blk_on hw1 a_k
  replace b_k := blk_on hw1 b_k
  replace c_k := blk_on hw1 c_k
  replace hb0 := bel_trans hb0 hw1
  replace H := H.keeps hw1
  have f_a0 := blkC a_k 0 rfl
  have f_a1 := blkC a_k 1 rfl
  have f_b0 := blkC b_k 0 rfl
  have f_b1 := blkC b_k 1 rfl
  have f_c0 := blkC c_k 0 rfl
  have f_c1 := blkC c_k 1 rfl
  go_wp2_with fail
  clear f_a0 f_a1 f_b0 f_b1 f_c0 f_c1
  refine (CS.out _ H).mono ?_
  rintro _ y2 ⟨rfl, hw2⟩
  replace a_k := heap_past (.cells #[.int .i64 sgn, .int .i64 st] 26) (blk_on hw2 a_k)
  replace b_k := heap_past (.cells #[.int .i64 sgn, .int .i64 st] 26) (blk_on hw2 b_k)
  replace c_k := heap_past (.cells #[.int .i64 sgn, .int .i64 st] 26) (blk_on hw2 c_k)
  have v_k := heap_a1 y2 (.cells #[.int .i64 sgn, .int .i64 st] 26)
  replace hb0 := bel_trans (bel_trans hb0 hw2) (bel_alloc y2 (.cells #[.int .i64 sgn, .int .i64 st] 26))
  replace H := (H.keeps hw2).keeps (bel_alloc y2 (.cells #[.int .i64 sgn, .int .i64 st] 26))
  have f_a0 := blkC a_k 0 rfl
  have f_a1 := blkC a_k 1 rfl
  have f_b0 := blkC b_k 0 rfl
  have f_b1 := blkC b_k 1 rfl
  have f_c0 := blkC c_k 0 rfl
  have f_c1 := blkC c_k 1 rfl
  go_wp2_with fail
  clear f_a0 f_a1 f_b0 f_b1 f_c0 f_c1
  generalize hgv : y2.heap.size = gv at v_k ⊢
  clear hgv
  generalize y2.alloc (.cells #[.int .i64 sgn, .int .i64 st] 26) = x2 at a_k b_k c_k v_k hb0 H ⊢
  refine (CE.out _ H).mono ?_
  rintro _ y3 ⟨g, o, n, c, e, rfl, CG, hw3⟩
  replace v_k := heap_past (.cells #[.bool g, .slice o n c, .int .i64 e] 32) (blk_on hw3 v_k)
  have x_k := heap_a1 y3 (.cells #[.bool g, .slice o n c, .int .i64 e] 32)
  replace hb0 := bel_trans (bel_trans hb0 hw3) (bel_alloc y3 (.cells #[.bool g, .slice o n c, .int .i64 e] 32))
  have CGh : Hid _ := hideIt CG
  clear CG
  go_wp2_with (go_at_call 10; refine (onum _ _).mono ?_; rintro _ _ ⟨rfl, rfl⟩)
  have hb3 := bel_alloc y3 (.cells #[.bool g, .slice o n c, .int .i64 e] 32)
  generalize hgx : y3.heap.size = gx at x_k ⊢
  clear hgx
  generalize y3.alloc (.cells #[.bool g, .slice o n c, .int .i64 e] 32) = x3 at v_k x_k hb0 hb3 ⊢
  have KK : ∀ W, Below x3.heap.size x3 W → W.cell? ⟨gv, 0, none⟩ = some (.int .i64 sgn) ∧ W.cell? ⟨gv, 1, none⟩ = some (.int .i64 st) ∧ W.cell? ⟨gx, 0, none⟩ = some (.bool g) ∧ W.cell? ⟨gx, 1, none⟩ = some (.slice o n c) ∧ W.cell? ⟨gx, 2, none⟩ = some (.int .i64 e) := fun W hb => ⟨q_cell (blkC v_k 0 rfl) hb, q_cell (blkC v_k 1 rfl) hb, q_cell (blkC x_k 0 rfl) hb, q_cell (blkC x_k 1 rfl) hb, q_cell (blkC x_k 2 rfl) hb⟩
  have hC0 := (bel_refl x3).drew
  go_region_held3 (fun W => W.cell? ⟨gv, 0, none⟩ = some (.int .i64 sgn) ∧ W.cell? ⟨gv, 1, none⟩ = some (.int .i64 st) ∧ W.cell? ⟨gx, 0, none⟩ = some (.bool g) ∧ W.cell? ⟨gx, 1, none⟩ = some (.slice o n c) ∧ W.cell? ⟨gx, 2, none⟩ = some (.int .i64 e))
    (with_reducible first | assumption | exact KK _ hC0 | exact KK _ hC1 | fail)
    ((go_at_call 11; refine (CGh.out _ (bel_trans hb3 hC0)).mono ?_; rintro _ y4 ⟨rfl, hq1⟩; have hC1 := bel_trans hC0 hq1))
  all_goals go_wp2
  all_goals go_ret
  all_goals exact ⟨rfl, bel_trans hb0 hC1⟩
set_option maxRecDepth 100000 in
set_option maxHeartbeats 4000000 in
theorem walk_no (ax ay bx by' cx cy : Int) (w : World) (rax : rng ax) (ray : rng ay) (rbx : rng bx) (rby : rng by') (rcx : rng cx) (rcy : rng cy) (hno : ((pok ax && pok ay) && (pok bx && pok by') && (pok cx && pok cy)) = false) (H : Hold4 w) :
    Calls Tryz.prog 3 #[.agg #[.int .i64 ax, .int .i64 ay], .agg #[.int .i64 bx, .int .i64 by'], .agg #[.int .i64 cx, .int .i64 cy]] w fun e w' => e = .returned (.bool true) ∧ Below w.heap.size w w' := by
  have CS : Hid (∀ W, Hold4 W → Calls Tryz.prog 8 #[.agg #[.int .i64 ax, .int .i64 ay], .agg #[.int .i64 bx, .int .i64 by'], .agg #[.int .i64 cx, .int .i64 cy]] W fun r w' => r = .returned (.tuple #[.agg #[.int .i64 0, .int .i64 0], .int .i64 10]) ∧ Below W.heap.size W w') := fun W h => oSign_no rax ray rbx rby rcx rcy hno W h
  have CE : Hid (∀ W, Calls Tryz.prog 9 #[.agg #[.int .i64 ax, .int .i64 ay], .agg #[.int .i64 bx, .int .i64 by'], .agg #[.int .i64 cx, .int .i64 cy]] W fun r w' => r = .returned (.tuple #[.agg #[.bool false, .slice none 0 0, .int .i64 0], .int .i64 10]) ∧ Below W.heap.size W w') := fun W => oExactF_no rax ray rbx rby rcx rcy hno W
  clear rax ray rbx rby rcx rcy hno
  obtain ⟨hb0, a_k, b_k, c_k, hsz0⟩ := blks3 w (.cells #[.int .i64 ax, .int .i64 ay] 23) (.cells #[.int .i64 bx, .int .i64 by'] 23) (.cells #[.int .i64 cx, .int .i64 cy] 23)
  clear hsz0
  go_enter Tryz.func3, Tryz.ntmps3
  go_wp2_with fail
  generalize (((w.alloc (.cells #[.int .i64 ax, .int .i64 ay] 23)).alloc (.cells #[.int .i64 bx, .int .i64 by'] 23)).alloc (.cells #[.int .i64 cx, .int .i64 cy] 23)) = x0 at hb0 a_k b_k c_k ⊢
  replace H := H.keeps hb0
  refine (alive10 _).mono ?_
  rintro _ y1 ⟨rfl, hw1⟩
  replace a_k := blk_on hw1 a_k
  replace b_k := blk_on hw1 b_k
  replace c_k := blk_on hw1 c_k
  replace hb0 := bel_trans hb0 hw1
  replace H := H.keeps hw1
  have f_a0 := blkC a_k 0 rfl
  have f_a1 := blkC a_k 1 rfl
  have f_b0 := blkC b_k 0 rfl
  have f_b1 := blkC b_k 1 rfl
  have f_c0 := blkC c_k 0 rfl
  have f_c1 := blkC c_k 1 rfl
  go_wp2_with fail
  clear f_a0 f_a1 f_b0 f_b1 f_c0 f_c1
  refine (CS.out _ H).mono ?_
  rintro _ y2 ⟨rfl, hw2⟩
  replace a_k := heap_past (.cells #[.int .i64 0, .int .i64 0] 26) (blk_on hw2 a_k)
  replace b_k := heap_past (.cells #[.int .i64 0, .int .i64 0] 26) (blk_on hw2 b_k)
  replace c_k := heap_past (.cells #[.int .i64 0, .int .i64 0] 26) (blk_on hw2 c_k)
  have v_k := heap_a1 y2 (.cells #[.int .i64 0, .int .i64 0] 26)
  replace hb0 := bel_trans (bel_trans hb0 hw2) (bel_alloc y2 (.cells #[.int .i64 0, .int .i64 0] 26))
  replace H := (H.keeps hw2).keeps (bel_alloc y2 (.cells #[.int .i64 0, .int .i64 0] 26))
  have f_a0 := blkC a_k 0 rfl
  have f_a1 := blkC a_k 1 rfl
  have f_b0 := blkC b_k 0 rfl
  have f_b1 := blkC b_k 1 rfl
  have f_c0 := blkC c_k 0 rfl
  have f_c1 := blkC c_k 1 rfl
  go_wp2_with fail
  clear f_a0 f_a1 f_b0 f_b1 f_c0 f_c1
  generalize hgv : y2.heap.size = gv at v_k ⊢
  clear hgv
  generalize y2.alloc (.cells #[.int .i64 0, .int .i64 0] 26) = x2 at a_k b_k c_k v_k hb0 H ⊢
  refine (CE.out _).mono ?_
  rintro _ y3 ⟨rfl, hw3⟩
  replace hb0 := bel_trans (bel_trans hb0 hw3) (bel_alloc y3 (.cells #[.bool false, .slice none 0 0, .int .i64 0] 32))
  go_wp2_with (go_at_call 10; refine (onum _ _).mono ?_; rintro _ _ ⟨rfl, rfl⟩)
  go_ret
  exact ⟨rfl, hb0⟩
theorem walk (ax ay bx by' cx cy : Int) (w : World) (rax : rng ax) (ray : rng ay) (rbx : rng bx) (rby : rng by') (rcx : rng cx) (rcy : rng cy) (H : Hold4 w) :
    Calls Tryz.prog 3 #[.agg #[.int .i64 ax, .int .i64 ay], .agg #[.int .i64 bx, .int .i64 by'], .agg #[.int .i64 cx, .int .i64 cy]] w fun e w' => e = .returned (.bool true) ∧ Below w.heap.size w w' := by
  by_cases h : ((pok ax && pok ay) && (pok bx && pok by') && (pok cx && pok cy)) = true
  · obtain ⟨⟨⟨h1, h2⟩, h3, h4⟩, h5, h6⟩ : ((pok ax = true ∧ pok ay = true) ∧ pok bx = true ∧ pok by' = true) ∧ pok cx = true ∧ pok cy = true := by simpa using h
    exact walk_yes ax ay bx by' cx cy w rax ray rbx rby rcx rcy h1 h2 h3 h4 h5 h6 H
  · exact walk_no ax ay bx by' cx cy w rax ray rbx rby rcx rcy (by simpa using h) H
theorem own : ownKnob Tryz.prog.godebug = none := by kernel_rfl
theorem laidOut : laidOutB Tryz.prog = true := by kernel_rfl
theorem door_met (os : Os) (args : Array Value) : laidMetH Tryz.prog Rows.orientTrueRow.laid ((World.doorLaid Tryz.prog 400 os).forCall (fun _ _ => 0) ⟨#[], args, []⟩).memory :=
  laidMetH_of_parts3 (fuel := 8) (laidMet_of_run' 8 (by kernel_rfl) (by kernel_rfl)) (by kernel_rfl) (by kernel_rfl)
set_option maxRecDepth 100000 in
theorem lifted (os : Os) (started : os.Started) (H : Type) (enc : TypeId × Value → H) :
    ReturnsInHanded {} Tryz.checked os 3 .any (fun w args => (Rows.orientTrueSpec.pre enc Tryz.prog Tryz.f3 [] false w args ∧ laidMetH Tryz.prog Rows.orientTrueRow.laid w) ∧ sizedMet enc Tryz.prog Tryz.f3 (OpenSpec.ofChange Rows.orientTrueSpec) false w args)
      (Rows.orientTrueSpec.post enc Tryz.prog Tryz.f3 false true false false) := by
  refine returnsInHanded_of_change_and (C := Tryz.checked) (X := fun w _ => laidMetH Tryz.prog Rows.orientTrueRow.laid w) (fun _ _ _ hh h => h.of_heap hh) own started (by kernel_rfl) Tryz.func3
    (ChangeSpec.witness_shaped (enc := enc) (C := Tryz.checked) (os := os) (X := fun w _ => laidMetH Tryz.prog Rows.orientTrueRow.laid w) false (World.doorLaid Tryz.prog 400 os) #[.agg #[.int .i64 0, .int .i64 0], .agg #[.int .i64 0, .int .i64 0], .agg #[.int .i64 0, .int .i64 0]] 8 rfl (World.shaped_of_RefB (by kernel_rfl) (by kernel_rfl)) (by kernel_rfl) (by kernel_rfl) (by kernel_rfl) (door_met os _)) ?_
  intro W base args ds gs before hval0 hW _ _ hL _
  have hval : ∀ (j : Nat) t v, Tryz.f3.params[j]? = some t → args[j]? = some v → Value.okWide Tryz.prog W .any base t v := hval0
  have hW' := hW
  obtain ⟨p, q, hA0, hV, rfl, hfz, hnd⟩ := hW
  have hA : DataW.TrodAll enc Tryz.prog W 0 (fun _ => true) true Tryz.f3.params.toList args.toList ds p := hA0
  rw [Tryz.params3] at hA hval
  obtain ⟨v0, vs0, d0, ds0, p0, q0, hargs, rfl, rfl, h0, r0⟩ := trodAll_cons hA
  obtain ⟨v1, vs1, d1, ds1, p1, q1, rfl, rfl, rfl, h1, r1⟩ := trodAll_cons r0
  obtain ⟨v2, vs2, d2, ds2, p2, q2, rfl, rfl, rfl, h2, r2⟩ := trodAll_cons r1
  obtain ⟨rfl, rfl, rfl⟩ := trodAll_nil r2
  obtain rfl : args = #[v0, v1, v2] := by cases args; simp_all
  obtain ⟨rfl, rfl⟩ := trodVars_none hV
  have k0 := h0
  have lt0 : ∀ x ∈ p0, x.block < W.heap.size := by obtain ⟨m, hm⟩ := k0; exact DataW.trod_lt m _ _ _ hm
  obtain ⟨x0, y0, rfl, w0, g0⟩ := point_of (hval 0 23 v0 rfl rfl) h0
  have k1 := h1
  have lt1 : ∀ x ∈ p1, x.block < W.heap.size := by obtain ⟨m, hm⟩ := k1; exact DataW.trod_lt m _ _ _ hm
  obtain ⟨x1, y1, rfl, w1, g1⟩ := point_of (hval 1 23 v1 rfl rfl) h1
  have k2 := h2
  have lt2 : ∀ x ∈ p2, x.block < W.heap.size := by obtain ⟨m, hm⟩ := k2; exact DataW.trod_lt m _ _ _ hm
  obtain ⟨x2, y2, rfl, w2, g2⟩ := point_of (hval 2 23 v2 rfl rfl) h2
  clear hA0 hval0
  refine (walk x0 y0 x1 y1 x2 y2 W w0 g0 w1 g1 w2 g2 (hold6_of hL)).mono fun e W' ⟨he, bel⟩ => ?_
  subst he
  exact ⟨_, rfl, _, _, _, [], _, [], hW', trodAll_mk1 (shut_bool Tryz.underlying4 _), (trodAll_cons_mk (Below.trod laidOut (by kernel_rfl) (of_decide_eq_true (by kernel_rfl)) k0 bel lt0) (trodAll_cons_mk (Below.trod laidOut (by kernel_rfl) (of_decide_eq_true (by kernel_rfl)) k1 bel lt1) (trodAll_cons_mk (Below.trod laidOut (by kernel_rfl) (of_decide_eq_true (by kernel_rfl)) k2 bel lt2) trodAll_mk0))), rfl, bel.frame _, fun h => by cases h⟩
theorem said : Rows.OrientTrueSaid :=
  OpenClaim.holds_of_wide 3 Tryz.f3 rfl rfl rfl rfl rfl rfl rfl ⟨rfl, rfl, rfl, rfl, rfl⟩ rfl rfl rfl rfl rfl (by kernel_rfl) Tryz.func3 (by kernel_rfl)
    (of_decide_eq_true (by kernel_rfl)) (by unfold Func.isWrapper; first | (rw [if_pos (by decide +kernel)]; kernel_rfl) | (rw [if_neg (by decide +kernel)]; exact ⟨rfl, rfl⟩))
    (fun os started H enc _ => lifted os started H enc)
theorem plain (f : FuncId) (fn : Func) (hf : Tryz.pinned.checked.prog.funcNamed Tryz.f3.name = some f) (hfn : Tryz.pinned.checked.prog.funcs[f]? = some fn) :
    true = Tryz.pinned.checked.prog.looks [] ∧ ∀ (j : Nat) t, fn.params[j]? = some t → Tryz.pinned.checked.prog.wantsStandIn t = false := by
  obtain rfl : f = 3 := Option.some.inj ((show Tryz.prog.funcNamed Tryz.f3.name = some 3 by kernel_rfl).symm.trans hf) |>.symm
  obtain rfl : fn = Tryz.f3 := (Option.some.inj (Tryz.func3.symm.trans hfn)).symm
  refine ⟨by kernel_rfl, fun j t ht => ?_⟩
  rw [Tryz.params3] at ht
  obtain rfl : t = 23 := by simpa using Array.mem_of_getElem? ht
  exact (show Tryz.prog.wantsStandIn 23 = false by kernel_rfl)
/-- THE CARD. -/
theorem card : Rows.OrientTrueCardSaid :=
  Claim7.holds_tied_plain_at .later [] _ _ _ _ said (fun _ h => by cases h) (by kernel_rfl) (fun _ h => by cases h) orientTrue_row_tie rfl ⟨rfl, rfl⟩ (by kernel_rfl) rfl plain (by kernel_rfl)
end Go.Proofs.YtafnigjehkpggaaGreatDoor.orientTrue
namespace Go.Proofs.YtafnigjehkpggaaGreatDoor
/-- OrientTrue: the statement as it is given. -/
theorem orientTrue_holds : Rows.OrientTrueCardSaid := orientTrue.card
end Go.Proofs.YtafnigjehkpggaaGreatDoor
