/-
  Proved: at every point and int, plumblaw9.PointChecks answers true: point.Check, CheckSpace and Normal tell what the document's own answer tells; where the layout of binary64 lies as the program's text lays it.
-/
import Derived.Test.YtgfmjcekgpjloaaDoorCards
import Derived.Test.YtgfmjcekgpjloaaDoorTie
import Derived.Test.YtgfmjcekgpjloaaDoorQNorm
import Derived.Test.YtgfmjcekgpjloaaDoorQShut
import Derived.Test.YtgfmjcekgpjloaaDoorLaid
namespace Go.Proofs.YtgfmjcekgpjloaaDoor.pointChecks
open Go Go.ChangeShapes Go.WideShapes Go.ChangeAt Go.RowKit Go.Proofs.YtgfmjcekgpjloaaDoor Go.Proofs.YtgfmjcekgpjloaaDoor.M
set_option linter.unusedSimpArgs false
set_option linter.unusedVariables false

theorem laysC_of {W : World} (h : laidMetH Tryd.prog [("plumb/bits.binary64", Rows.laid_plumb_bits_binary64)] W) : Lays W := by
  rw [MakeChecks.laidMetH_plain _ _ _ (by kernel_rfl)] at h
  obtain ⟨a0, a1, a2⟩ := three g64 g64Type h
  exact ⟨a0, a1, a2, trivial, trivial, trivial⟩
set_option maxRecDepth 100000 in
set_option maxHeartbeats 4000000 in
theorem walk (x y z : Int) (w : World) (hx : rng x) (hy : rng y) (hz : rng z) (L : Lays w) :
    Calls Tryd.prog 3 #[.agg #[.int .i64 x, .int .i64 y], .int .i64 z] w fun e w' => e = .returned (.bool true) ∧ Below w.heap.size w w' := by
  have CC : Hid (∀ W, Calls Tryd.prog 5 #[.agg #[.int .i64 x, .int .i64 y]] W fun e w' => e = .returned (.int .i64 (errF (pok x && pok y))) ∧ Below W.heap.size W w') := fun W => pointCheck hx hy W
  have CS : Hid (∀ W, Calls Tryd.prog 6 #[.agg #[.int .i64 x, .int .i64 y, .int .i64 z]] W fun e w' => e = .returned (.int .i64 (errF (pok x && pok y && pok z))) ∧ Below W.heap.size W w') := fun W => pointCheckSpace hx hy hz W
  have CN : Hid (∀ W, Lays W → Calls Tryd.prog 7 #[.agg #[.int .i64 x, .int .i64 y]] W fun e w' => e = .returned (.tuple #[.agg #[.int .i64 (cmpF (pok x && pok y) (q0 x)), .int .i64 (cmpF (pok x && pok y) (q0 y))], .int .i64 (errF (pok x && pok y))]) ∧ Below W.heap.size W w') := fun W LW => pointNormal hx hy W LW
  have CF : Hid (∀ W, Calls Tryd.prog 8 #[.agg #[.int .i64 x, .int .i64 y]] W fun e w' => e = .returned (.bool (pok x && pok y)) ∧ Below W.heap.size W w') := fun W => q_refFinite hx hy W
  have CZ : Hid (∀ W, Calls Tryd.prog 9 #[.int .i64 z] W fun e w' => e = .returned (.bool (pok z)) ∧ w' = W) := fun W => q_coord hz W
  have CR : Hid (∀ W, Calls Tryd.prog 11 #[.agg #[.int .i64 x, .int .i64 y]] W fun e w' => e = .returned (.agg #[.int .i64 (q0 x), .int .i64 (q0 y)]) ∧ Below W.heap.size W w') := fun W => q_refNormal x y W
  clear hx hy hz
  generalize (pok x && pok y) = P at *
  generalize pok z = Z at *
  generalize q0 x = X at *
  generalize q0 y = Y at *
  have hb2 := bel_alloc w (.cells #[.int .i64 x, .int .i64 y] 23)
  have p0 : (w.alloc (.cells #[.int .i64 x, .int .i64 y] 23)).heap[w.heap.size]? = some (.cells #[.int .i64 x, .int .i64 y] 23 (0, 0)) := by show (w.heap.push _)[w.heap.size]? = _; simp
  have e0 : errF true = 0 := rfl
  have e1 : errF false = 10 := rfl
  have hN : Hid (cmpF P X = (if P then X else 0) ∧ cmpF P Y = (if P then Y else 0)) := ⟨rfl, rfl⟩
  obtain ⟨NX, hNX⟩ : ∃ NX, cmpF P X = NX := ⟨_, rfl⟩
  obtain ⟨NY, hNY⟩ : ∃ NY, cmpF P Y = NY := ⟨_, rfl⟩
  rw [hNX, hNY] at hN CN
  clear hNX hNY
  cases P <;> cases Z
  all_goals
    simp only [Bool.and_true, Bool.and_false, Bool.true_and, Bool.false_and, e0, e1] at CC CS CN
    clear e0 e1
    go_enter Tryd.func3, Tryd.ntmps3
    go_wp2_with fail
    generalize w.alloc (.cells #[.int .i64 x, .int .i64 y] 23) = wx at *
    refine (alive9 _).mono ?_
    rintro _ w1 ⟨rfl, hb3⟩
    have p01 := (hb3.block _ (Array.getElem?_eq_some_iff.1 p0).1).trans p0
    have c0 := blkC p01 0 rfl
    have c1 := blkC p01 1 rfl
    clear p0
    go_wp2_with fail
    refine (CC.out _).mono ?_
    rintro _ w2 ⟨rfl, hb4⟩
    replace c0 := q_cell c0 hb4
    replace c1 := q_cell c1 hb4
    go_wp2_with fail
    refine (CS.out _).mono ?_
    rintro _ w3 ⟨rfl, hb5⟩
    replace c0 := q_cell c0 hb5
    replace c1 := q_cell c1 hb5
    have hbw := bel_trans hb2 (bel_trans hb3 (bel_trans hb4 hb5))
    have L3 := L.below' hbw
    go_wp2_with fail
    refine (CN.out _ L3).mono ?_
    rintro _ w4 ⟨rfl, hb6⟩
    replace c0 := q_cell c0 hb6
    replace c1 := q_cell c1 hb6
    have hbw4 := bel_trans hbw hb6
    have hba := bel_alloc w4 (.cells #[.int .i64 NX, .int .i64 NY] 23)
    have d0 : (w4.alloc (.cells #[.int .i64 NX, .int .i64 NY] 23)).heap[w4.heap.size]? = some (.cells #[.int .i64 NX, .int .i64 NY] 23 (0, 0)) := by show (w4.heap.push _)[w4.heap.size]? = _; simp
    replace c0 := q_cell c0 hba
    replace c1 := q_cell c1 hba
    have c2 := blkC d0 0 rfl
    have c3 := blkC d0 1 rfl
    clear d0
    go_wp2_with fail
    generalize w4.alloc (.cells #[.int .i64 NX, .int .i64 NY] 23) = w5 at *
    refine (CF.out _).mono ?_
    rintro _ w6 ⟨rfl, hb7⟩
    replace c0 := q_cell c0 hb7
    replace c1 := q_cell c1 hb7
    replace c2 := q_cell c2 hb7
    replace c3 := q_cell c3 hb7
    have hbw6 := bel_trans hbw4 (bel_trans hba hb7)
    go_wp2_with fail
    refine (CZ.out _).mono ?_
    rintro _ _ ⟨rfl, rfl⟩
    obtain ⟨hN1, hN2⟩ := hN.out
    simp only [if_true, if_false, Bool.false_eq_true] at hN1 hN2
    subst hN1 hN2
    clear hN
    go_wp2_with (go_at_call 10; refine (q_num _ _).mono ?_; rintro _ _ ⟨rfl, rfl⟩)
  · go_ret
    exact ⟨rfl, hbw6⟩
  · go_ret
    exact ⟨rfl, hbw6⟩
  all_goals
    have kk := And.intro c0 (And.intro c1 (And.intro c2 c3))
    have kd := Q4.keeps kk (bel_refl _).drew
    go_region_held3 (fun W => W.cell? ⟨w.heap.size, 0, none⟩ = some (.int .i64 x) ∧ W.cell? ⟨w.heap.size, 1, none⟩ = some (.int .i64 y) ∧ W.cell? ⟨w4.heap.size, 0, none⟩ = some (.int .i64 NX) ∧ W.cell? ⟨w4.heap.size, 1, none⟩ = some (.int .i64 NY))
      (first | assumption | exact kd | exact kk1)
      (first
        | (go_at_call 10; refine (q_num _ _).mono ?_; rintro _ _ ⟨rfl, rfl⟩)
        | (go_at_call 11; refine (CR.out _).mono ?_; rintro _ w8 ⟨rfl, hb8⟩; have kk1 := Q4.keeps kd hb8))
    go_wp2
    go_ret
    exact ⟨rfl, bel_trans hbw6.drew hb8⟩
theorem own : ownKnob Tryd.prog.godebug = none := by kernel_rfl
theorem laidOut : laidOutB Tryd.prog = true := by kernel_rfl
theorem door_met (os : Os) (args : Array Value) : laidMetH Tryd.prog Rows.pointChecksRow.laid ((World.doorLaid Tryd.prog 400 os).forCall (fun _ _ => 0) ⟨#[], args, []⟩).memory :=
  laidMetH_of_parts3 (fuel := 8) (laidMet_of_run' 8 (by kernel_rfl) (by kernel_rfl)) (by kernel_rfl) (by kernel_rfl)
set_option maxRecDepth 100000 in
theorem lifted (os : Os) (started : os.Started) (H : Type) (enc : TypeId × Value → H) :
    ReturnsInHanded {} Tryd.checked os 3 .any (fun w args => (Rows.pointChecksSpec.pre enc Tryd.prog Tryd.f3 [] false w args ∧ laidMetH Tryd.prog Rows.pointChecksRow.laid w) ∧ sizedMet enc Tryd.prog Tryd.f3 (OpenSpec.ofChange Rows.pointChecksSpec) false w args)
      (Rows.pointChecksSpec.post enc Tryd.prog Tryd.f3 false true false false) := by
  refine returnsInHanded_of_change_and (C := Tryd.checked) (X := fun w _ => laidMetH Tryd.prog Rows.pointChecksRow.laid w) (fun _ _ _ hh h => h.of_heap hh) own started (by kernel_rfl) Tryd.func3
    (ChangeSpec.witness_shaped (enc := enc) (C := Tryd.checked) (os := os) (X := fun w _ => laidMetH Tryd.prog Rows.pointChecksRow.laid w) false (World.doorLaid Tryd.prog 400 os) #[.agg #[.int .i64 0, .int .i64 0], .int .i64 0] 8 rfl (World.shaped_of_RefB (by kernel_rfl) (by kernel_rfl)) (by kernel_rfl) (by kernel_rfl) (by kernel_rfl) (door_met os _)) ?_
  intro W base args ds gs before hval0 hW _ _ hL _
  have hval : ∀ (j : Nat) t v, Tryd.f3.params[j]? = some t → args[j]? = some v → Value.okWide Tryd.prog W .any base t v := hval0
  have hW' := hW
  obtain ⟨p, q, hA0, hV, rfl, hfz, hnd⟩ := hW
  have hA : DataW.TrodAll enc Tryd.prog W 0 (fun _ => true) true Tryd.f3.params.toList args.toList ds p := hA0
  rw [Tryd.params3] at hA hval
  obtain ⟨v0, vs0, d0, ds0, p0, q0, hargs, rfl, rfl, h0, r0⟩ := trodAll_cons hA
  obtain ⟨v1, vs1, d1, ds1, p1, q1, rfl, rfl, rfl, h1, r1⟩ := trodAll_cons r0
  obtain ⟨rfl, rfl, rfl⟩ := trodAll_nil r1
  obtain rfl : args = #[v0, v1] := by cases args; simp_all
  obtain ⟨rfl, rfl⟩ := trodVars_none hV
  have k0 := h0
  have lt0 : ∀ x ∈ p0, x.block < W.heap.size := by obtain ⟨m, hm⟩ := k0; exact DataW.trod_lt m _ _ _ hm
  obtain ⟨x0, y0, rfl, w0, g0⟩ := point_of (hval 0 23 v0 rfl rfl) h0
  obtain ⟨a1, rfl, rfl, rfl, w1⟩ := open_int Tryd.underlying3 (hval 1 3 v1 rfl rfl) h1
  clear hA0 hval0
  refine (walk x0 y0 a1 W w0 g0 (rng_of w1) (laysC_of hL)).mono fun e W' ⟨he, bel⟩ => ?_
  subst he
  exact ⟨_, rfl, _, _, _, [], _, [], hW', trodAll_mk1 (shut_bool Tryd.underlying4 _), (trodAll_cons_mk (Below.trod laidOut (by kernel_rfl) (of_decide_eq_true (by kernel_rfl)) k0 bel lt0) (trodAll_cons_mk (shut_int Tryd.underlying3 w1) trodAll_mk0)), rfl, bel.frame _, fun h => by cases h⟩
theorem said : Rows.PointChecksSaid :=
  OpenClaim.holds_of_wide 3 Tryd.f3 rfl rfl rfl rfl rfl rfl rfl ⟨rfl, rfl, rfl, rfl, rfl⟩ rfl rfl rfl rfl rfl (by kernel_rfl) Tryd.func3 (by kernel_rfl)
    (of_decide_eq_true (by kernel_rfl)) (by unfold Func.isWrapper; first | (rw [if_pos (by decide +kernel)]; kernel_rfl) | (rw [if_neg (by decide +kernel)]; exact ⟨rfl, rfl⟩))
    (fun os started H enc _ => lifted os started H enc)
theorem plain (f : FuncId) (fn : Func) (hf : Tryd.pinned.checked.prog.funcNamed Tryd.f3.name = some f) (hfn : Tryd.pinned.checked.prog.funcs[f]? = some fn) :
    false = Tryd.pinned.checked.prog.looks [] ∧ ∀ (j : Nat) t, fn.params[j]? = some t → Tryd.pinned.checked.prog.wantsStandIn t = false := by
  obtain rfl : f = 3 := Option.some.inj ((show Tryd.prog.funcNamed Tryd.f3.name = some 3 by kernel_rfl).symm.trans hf) |>.symm
  obtain rfl : fn = Tryd.f3 := (Option.some.inj (Tryd.func3.symm.trans hfn)).symm
  refine ⟨by kernel_rfl, fun j t ht => ?_⟩
  rw [Tryd.params3] at ht
  have ht2 : t = 23 ∨ t = 3 := by simpa using Array.mem_of_getElem? ht
  rcases ht2 with rfl | rfl
  · exact (show Tryd.prog.wantsStandIn 23 = false by kernel_rfl)
  · exact (show Tryd.prog.wantsStandIn 3 = false by kernel_rfl)
/-- THE CARD. -/
theorem card : Rows.PointChecksCardSaid :=
  Claim7.holds_tied_plain_at .later [] _ _ _ _ said (fun _ h => by cases h) (by kernel_rfl) (fun _ h => by cases h) pointChecks_row_tie rfl ⟨rfl, rfl⟩ (by kernel_rfl) rfl plain (by kernel_rfl)
end Go.Proofs.YtgfmjcekgpjloaaDoor.pointChecks
namespace Go.Proofs.YtgfmjcekgpjloaaDoor
/-- PointChecks: the statement as it is given. -/
theorem pointChecks_holds : Rows.PointChecksCardSaid := pointChecks.card
end Go.Proofs.YtgfmjcekgpjloaaDoor
